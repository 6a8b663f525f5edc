/-
  Walks: sizes of records and shards by the laws' own helpers; copies; comparisons.
-/
import Derived.Test.YteeffchnbkkpfabDoorG1C
import Derived.Test.YteeffchnbkkpfabDoorOpenS
import Derived.Test.YteeffchnbkkpfabDoorUpK
import Derived.Test.YteeffchnbkkpfabDoorRefW
import Derived.Test.YteeffchnbkkpfabDoorSameS
namespace Go.Proofs.YteeffchnbkkpfabDoor
open Go.RowKit Wo Pu Rf Lk Sh

def partSzR (rs : List Rec) (k : Nat) : Nat := ((rs.take k).map fun r => r.us.length).sum
def allSzR (rs : List Rec) : Nat := rs.length + partSzR rs rs.length
theorem partSzR_succ {rs : List Rec} {k : Nat} (hk : k < rs.length) : partSzR rs (k + 1) = partSzR rs k + rs[k].us.length := by
  unfold partSzR
  rw [List.take_succ_eq_append_getElem hk, List.map_append, List.sum_append]
  simp
theorem partSzR_ge {rs : List Rec} {i : Nat} (hi : i < rs.length) : ∀ k, i < k → k ≤ rs.length → rs[i].us.length ≤ partSzR rs k := by
  intro k
  induction k with
  | zero => intro h; omega
  | succ k ih =>
    intro h1 h2
    rw [partSzR_succ (by omega)]
    by_cases e : i = k
    · subst e; omega
    · have := ih (by omega) (by omega)
      omega
theorem allSzR_fit {rs : List Rec} {m : Nat} (h : allSzR rs ≤ m) (hm : m ≤ 1048576) : FitR rs := by
  unfold allSzR at h
  refine ⟨by omega, fun a ha => ?_⟩
  obtain ⟨i, hi, rfl⟩ := List.mem_iff_getElem.1 ha
  have := partSzR_ge hi rs.length hi (Nat.le_refl _)
  omega
theorem allSzR_snoc (rs : List Rec) (r : Rec) : allSzR (rs ++ [r]) = allSzR rs + 1 + r.us.length := by
  unfold allSzR partSzR
  rw [List.take_length, List.take_length, List.map_append, List.sum_append, List.length_append]
  simp
  omega
theorem allSzR_nil : allSzR [] = 0 := rfl
/-- The sizes: all fit, or not. -/
def SizedR (tot : Nat) (left : Int) (w : World) (e : Ending) (w' : World) : Prop := ∃ r : Int, e = .returned (.int .i64 r) ∧ (r = -1 ∨ (0 ≤ r ∧ r = left - tot)) ∧ Below w.heap.size w w'
set_option maxHeartbeats 2000000 in
theorem szRecord_any (A : Option Addr) (c : Nat) (r : Rec) (left : Int) (w : World) (hn : r.us.length ≤ maxLen) (h0 : 0 ≤ left) (h1 : left ≤ 1048576) :
    Calls Tryd.prog 91 #[.agg #[.int .i64 r.k, .int .i64 r.t, .slice A r.us.length c], .int .i64 left] w (SizedR r.us.length left w) := by
  have b0 := (Below.refl w.heap.size w).alloc (Nat.le_refl _) (.cells #[.int .i64 r.k, .int .i64 r.t, .slice A r.us.length c] 119)
  by_cases h2 : left < r.us.length
  · have CN := hid fun x => szUpdateS_no A r.us.length c left x hn h0 h1 h2
    clear h2
    go_enter Tryd.func91, Tryd.ntmps91
    go_wp2_with fail
    refine (CN.out _).mono ?_
    rintro e w1 ⟨rfl, rfl⟩
    go_wp2
    go_ret
    exact ⟨-1, rfl, .inl rfl, b0⟩
  · have CY := hid fun x => szUpdateS_yes A r.us.length c left x hn h0 h1 (by omega)
    have h3 : ¬ (left - (r.us.length : Int) < 0) := by omega
    have h4 : 0 ≤ left - (r.us.length : Int) := by omega
    go_enter Tryd.func91, Tryd.ntmps91
    go_wp2_with fail
    refine (CY.out _).mono ?_
    rintro e w1 ⟨rfl, rfl⟩
    go_wp2
    go_ret
    exact ⟨_, rfl, .inr ⟨h4, rfl⟩, b0⟩
set_option maxHeartbeats 2000000 in
theorem szRecordS_any (A : Option Addr) (c : Nat) (rs : List Rec) (left : Int) (w : World) (h : Recs w w.heap.size A rs) (hf : WideR rs) (h0 : 0 ≤ left) (h1 : left ≤ 1048576) :
    Calls Tryd.prog 72 #[.slice A rs.length c, .int .i64 left] w (SizedR (allSzR rs) left w) := by
  obtain ⟨hn, hf⟩ := hf
  unfold maxLen at hn
  by_cases h2 : left < rs.length
  · go_enter Tryd.func72, Tryd.ntmps72
    go_wp2
    go_ret
    exact ⟨-1, rfl, .inl rfl, Below.refl _ _⟩
  · go_enter Tryd.func72, Tryd.ntmps72
    go_wp2_with fail
    go_loopw [1, 5] (fun l i wr => ∃ k : Nat, k ≤ rs.length ∧ i = .int .i64 k ∧ l = .int .i64 (left - rs.length - partSzR rs k) ∧ 0 ≤ left - rs.length - partSzR rs k ∧ Below w.heap.size w wr) (fun _ i _ => rs.length - (intOf i).toNat)
    case atStart => exact ⟨0, Nat.zero_le _, rfl, by simp [partSzR], by simp [partSzR]; omega, Below.refl _ _⟩
    case round =>
      obtain ⟨k, hk, rfl, rfl, hp, hb⟩ := hrel
      by_cases hlt : k < rs.length
      · have hsucc := hid (partSzR_succ hlt)
        obtain ⟨r, ad, A', c', hre, rfl, ha, g0, g1, g2, -, -⟩ := ((h.below hb (Nat.le_refl _)).more hb.size).rec hlt
        have hfk := hf r (by rw [← hre]; exact List.getElem_mem hlt)
        have k0 : 0 ≤ (k : Int) := by omega
        have k1 : (k : Int) < (rs.length : Int) := by omega
        have HSU : Hid (partSzR rs (k + 1) = partSzR rs k + r.us.length) := by rw [← hre]; exact hsucc.out
        clear hre hsucc
        go_wp2_with fail
        refine (szRecord_any A' c' r _ wr hfk hp (by omega)).mono ?_
        rintro e w1 ⟨q, rfl, hr, hb1⟩
        rcases hr with rfl | ⟨r0, hr⟩
        · go_wp2
          go_ret
          exact ⟨-1, rfl, .inl rfl, hb.trans (hb1.mono hb.size)⟩
        · have HR := hid hr
          clear hr
          go_wp2
          go_roundw
          case rel => exact ⟨k + 1, by omega, by go_num, by have := HR.out; have := HSU.out; congr 1; omega, by have := HR.out; have := HSU.out; omega, hb.trans (hb1.mono hb.size)⟩
          case measure => simp [intOf]; omega
      · have hk' : k = rs.length := by omega
        subst hk'
        go_wp2
        go_ret
        exact ⟨_, rfl, .inr ⟨hp, by unfold allSzR; omega⟩, hb⟩
set_option maxHeartbeats 2000000 in
theorem szShard_any (v : Value) (rs : List Rec) (left : Int) (w : World) (h : Shd w w.heap.size v rs) (hf : WideR rs) (h0 : 0 ≤ left) (h1 : left ≤ 1048576) :
    Calls Tryd.prog 34 #[v, .int .i64 left] w (SizedR (allSzR rs) left w) := by
  obtain ⟨A, c, rfl, hr, -⟩ := h
  unfold shV
  have x0 := Blk1.new_ w 54 (.slice A rs.length c)
  have b0 := (Below.refl w.heap.size w).alloc (Nat.le_refl _) (.cells #[.slice A rs.length c] 54)
  go_enter Tryd.func34, Tryd.ntmps34
  go_wp2_with fail
  refine (szRecordS_any A c rs left _ (hr.on b0) hf h0 h1).mono ?_
  rintro e w1 ⟨r, rfl, hr, d⟩
  have b1 := b0.trans (d.mono b0.size)
  rcases hr with rfl | ⟨r0, hr⟩
  · go_wp2
    go_ret
    exact ⟨-1, rfl, .inl rfl, b1⟩
  · have HR := hid hr
    clear hr
    go_wp2
    go_ret
    exact ⟨r, rfl, .inr ⟨r0, HR.out⟩, b1⟩

/-! ### Copies. -/
def NewRecM (r : Rec) (w : World) (e : Ending) (w' : World) : Prop := ∃ g, e = .returned (.agg #[.int .i64 r.k, .int .i64 r.t, .slice (some ⟨g, 0, none⟩) r.us.length r.us.length]) ∧ OwnUps w' w.heap.size (.slice (some ⟨g, 0, none⟩) r.us.length r.us.length) r.us ∧ Below w.heap.size w w'
set_option maxHeartbeats 4000000 in
theorem toRecord_any (A : Option Addr) (c : Nat) (r : Rec) (w : World) (h : Row w w.heap.size A (upsV r.us)) (hn : r.us.length ≤ 1048576) :
    Calls Tryd.prog 92 #[.agg #[.int .i64 r.k, .int .i64 r.t, .slice A r.us.length c]] w (NewRecM r w) := by
  have b1 := (Below.refl w.heap.size w).alloc (Nat.le_refl _) (.cells #[.int .i64 r.k, .int .i64 r.t, .slice A r.us.length c] 119)
  have b2 := b1.alloc (by simp) (.cells #[.int .i64 0, .int .i64 0, .slice none 0 0] 33)
  have b3 := b2.alloc (by simp; omega) (.cells #[.int .i64 r.k, .int .i64 r.t, .slice none 0 0] 33)
  have X3 := ((Blk3s.new_ w 119 (.int .i64 r.k) (.int .i64 r.t) (.slice A r.us.length c)).alloc (.cells #[.int .i64 0, .int .i64 0, .slice none 0 0] 33)).alloc (.cells #[.int .i64 r.k, .int .i64 r.t, .slice none 0 0] 33)
  have R3 := (Blk3s.new_ (w.alloc (.cells #[.int .i64 r.k, .int .i64 r.t, .slice A r.us.length c] 119)) 33 (.int .i64 0) (.int .i64 0) (.slice none 0 0)).alloc (.cells #[.int .i64 r.k, .int .i64 r.t, .slice none 0 0] 33)
  have O3 := Blk3s.new_ ((w.alloc (.cells #[.int .i64 r.k, .int .i64 r.t, .slice A r.us.length c] 119)).alloc (.cells #[.int .i64 0, .int .i64 0, .slice none 0 0] 33)) 33 (.int .i64 r.k) (.int .i64 r.t) (.slice none 0 0)
  simp only [World.size_alloc] at R3 O3
  clear b1 b2
  go_enter Tryd.func92, Tryd.ntmps92
  go_wp2_with fail
  refine (toUpdateS_any A c r.us _ ((h.below b3 (Nat.le_refl _)).more b3.size) hn).mono ?_
  rintro e w4 ⟨g1, rfl, m4, hb4⟩
  have b4 := b3.trans (hb4.mono b3.size)
  have R4 := R3.later hb4
  have O4 := O3.later hb4
  have m5 : OwnUps w4 w.heap.size (.slice (some ⟨g1, 0, none⟩) r.us.length r.us.length) r.us := (show OwnUps w4 _ _ _ from m4).base b3.size
  clear R3 O3 X3 b3 hb4 m4
  obtain ⟨o0, o1, o2, of⟩ := id O4.reads
  obtain ⟨r0, r1, r2, rf⟩ := id R4.reads
  have of2 := of 2
  have rf0 := rf 0
  have rf1 := rf 1
  have rf2 := rf 2
  clear of rf
  go_wp2_with fail
  have T9 := (((R4.far (p := ⟨w.heap.size + 1 + 1, 2, none⟩) (by simp) (.slice (some ⟨g1, 0, none⟩) r.us.length r.us.length)).set0 (.int .i64 r.k)).set1 (.int .i64 r.t)).set2 (.slice (some ⟨g1, 0, none⟩) r.us.length r.us.length)
  obtain ⟨t0, t1, t2, -⟩ := T9.reads
  have q1 := m5.keptT (by decide) (but_set w4 (w.heap.size + 1 + 1) 2 (.slice (some ⟨g1, 0, none⟩) r.us.length r.us.length)) (blk_type O4)
  have R5 := R4.far (p := ⟨w.heap.size + 1 + 1, 2, none⟩) (by simp) (.slice (some ⟨g1, 0, none⟩) r.us.length r.us.length)
  have q2 := q1.keptT (by decide) (but_set _ (w.heap.size + 1) 0 (.int .i64 r.k)) (blk_type R5)
  have q3 := q2.keptT (by decide) (but_set _ (w.heap.size + 1) 1 (.int .i64 r.t)) (blk_type (R5.set0 _))
  have q4 := q3.keptT (by decide) (but_set _ (w.heap.size + 1) 2 (.slice (some ⟨g1, 0, none⟩) r.us.length r.us.length)) (blk_type ((R5.set0 _).set1 _))
  have b9 := (((b4.setCell (p := ⟨w.heap.size + 1 + 1, 2, none⟩) (by show w.heap.size ≤ w.heap.size + 1 + 1; omega) (.slice (some ⟨g1, 0, none⟩) r.us.length r.us.length)).setCell (p := ⟨w.heap.size + 1, 0, none⟩) (Nat.le_succ _) (.int .i64 r.k)).setCell (p := ⟨w.heap.size + 1, 1, none⟩) (Nat.le_succ _) (.int .i64 r.t)).setCell (p := ⟨w.heap.size + 1, 2, none⟩) (Nat.le_succ _) (.slice (some ⟨g1, 0, none⟩) r.us.length r.us.length)
  exact bodyPost_ret (v := .agg #[.int .i64 r.k, .int .i64 r.t, .slice (some ⟨g1, 0, none⟩) r.us.length r.us.length]) (by simp [results, Tryd.results92, go_sem, t0, t1, t2]) rfl ⟨g1, rfl, q4, b9⟩
/-- The new list so far: n places in block g, the first k filled with the first of rs. -/
def FilR (w : World) (B g : Nat) (rs : List Rec) (k : Nat) : Prop := ∃ xs : List Value, w.ownsRow B 33 3 (.slice (some ⟨g, 0, none⟩) rs.length rs.length) rs.length xs ∧ (∀ j (hj : j < rs.length), j < k → RecIs w B xs j rs[j]) ∧ AptR xs k
theorem FilR.below {w w' : World} {B g k : Nat} {rs : List Rec} (h : FilR w B g rs k) (hb : Below w.heap.size w w') : FilR w' B g rs k := by
  obtain ⟨xs, h1, h2, h3⟩ := h
  refine ⟨xs, own_below h1 hb (Nat.le_refl _), fun j hj hk => ?_, h3⟩
  obtain ⟨A, c, q0, q1, q2, q3, q4⟩ := h2 j hj hk
  exact ⟨A, c, q0, q1, q2, q3, q4.below hb⟩
theorem FilR.cells3 {w : World} {B g k k' : Nat} {rs : List Rec} (h : FilR w B g rs k') (hk : k < rs.length) :
    (∃ v, w.cell? ⟨g, k * 3, none⟩ = some v) ∧ (∃ v, w.cell? ⟨g, k * 3 + 1, none⟩ = some v) ∧ (∃ v, w.cell? ⟨g, k * 3 + 2, none⟩ = some v) ∧ (∀ o, w.frozen? ⟨g, o, none⟩ = false) ∧ B ≤ g := by
  obtain ⟨xs, hm, _⟩ := h
  have hlen := hm.1
  have rd : ∀ j, j < rs.length * 3 → ∃ v, w.cell? ⟨g, j, none⟩ = some v := fun j hj =>
    ⟨_, (World.ownsRow.cellAt hm j hj).trans (List.getElem?_eq_getElem (by omega))⟩
  exact ⟨rd _ (by omega), rd _ (by omega), rd _ (by omega), fun o => World.ownsRow.frozenAt hm o, (World.ownsRow.lt hm g rfl).1⟩
theorem FilR.step {w : World} {B D g k g' : Nat} {rs : List Rec} (hk : k < rs.length) (h : FilR w B g rs k) (hold : ∀ xs : List Value, w.ownsRow B 33 3 (.slice (some ⟨g, 0, none⟩) rs.length rs.length) rs.length xs → (∀ j (hj : j < rs.length), j < k → RecIs w B xs j rs[j]) → ∀ j u q, j < k → xs[j * 3 + 2]? = some u → u.ownBlock = some q → q < D)
    (hnew : D ≤ g') (hl : OwnUps w B (.slice (some ⟨g', 0, none⟩) rs[k].us.length rs[k].us.length) rs[k].us) :
    FilR (((w.setCell ⟨g, k * 3, none⟩ (.int .i64 rs[k].k)).setCell ⟨g, k * 3 + 1, none⟩ (.int .i64 rs[k].t)).setCell ⟨g, k * 3 + 2, none⟩ (.slice (some ⟨g', 0, none⟩) rs[k].us.length rs[k].us.length)) B g rs (k + 1) := by
  obtain ⟨xs, h1, h2, h3⟩ := h
  have hlen := h1.1
  have hold' := hold xs h1 h2
  have s1 := (World.ownsRow.stored h1 (k * 3) (.int .i64 rs[k].k)).1
  have s2 := (World.ownsRow.stored s1 (k * 3 + 1) (.int .i64 rs[k].t)).1
  have s3 := (World.ownsRow.stored s2 (k * 3 + 2) (.slice (some ⟨g', 0, none⟩) rs[k].us.length rs[k].us.length)).1
  have keep : ∀ {u : Value} {us : List Up}, OwnUps w B u us → OwnUps (((w.setCell ⟨g, k * 3, none⟩ (.int .i64 rs[k].k)).setCell ⟨g, k * 3 + 1, none⟩ (.int .i64 rs[k].t)).setCell ⟨g, k * 3 + 2, none⟩ (.slice (some ⟨g', 0, none⟩) rs[k].us.length rs[k].us.length)) B u us := fun {u us} h =>
    ((h.keptT (by decide) (but_set w g (k * 3) _) (fun q hq => row_typed h1 q (by injection hq with hq; rw [← hq]; rfl))).keptT (by decide) (but_set _ g (k * 3 + 1) _) (fun q hq => row_typed s1 q (by injection hq with hq; rw [← hq]; rfl))).keptT (by decide) (but_set _ g (k * 3 + 2) _) (fun q hq => row_typed s2 q (by injection hq with hq; rw [← hq]; rfl))
  have t : ∀ j d, j < rs.length → d < 3 → j ≠ k → (((xs.set (k * 3) (.int .i64 rs[k].k)).set (k * 3 + 1) (.int .i64 rs[k].t)).set (k * 3 + 2) (.slice (some ⟨g', 0, none⟩) rs[k].us.length rs[k].us.length))[j * 3 + d]? = xs[j * 3 + d]? := fun j d hj hd hne => by
    rw [List.getElem?_set_ne (by omega), List.getElem?_set_ne (by omega), List.getElem?_set_ne (by omega)]
  have tk : (((xs.set (k * 3) (.int .i64 rs[k].k)).set (k * 3 + 1) (.int .i64 rs[k].t)).set (k * 3 + 2) (.slice (some ⟨g', 0, none⟩) rs[k].us.length rs[k].us.length))[k * 3 + 2]? = some (.slice (some ⟨g', 0, none⟩) rs[k].us.length rs[k].us.length) := by
    rw [List.getElem?_set_self (by simp; omega)]
  refine ⟨_, s3, fun j hj hjk => ?_, fun i j a b hi hj hij ha hb => ?_⟩
  · by_cases e : j = k
    · subst e
      refine ⟨some ⟨g', 0, none⟩, rs[j].us.length, ?_, ?_, tk, Nat.le_refl _, keep hl⟩
      · rw [List.getElem?_set_ne (by omega), List.getElem?_set_ne (by omega), List.getElem?_set_self (by omega)]
      · rw [List.getElem?_set_ne (by omega), List.getElem?_set_self (by simp; omega)]
    · obtain ⟨A, c, q0, q1, q2, q3, q4⟩ := h2 j hj (by omega)
      exact ⟨A, c, by rw [show j * 3 = j * 3 + 0 from rfl, t j 0 hj (by omega) e]; exact q0, by rw [t j 1 hj (by omega) e]; exact q1, by rw [t j 2 hj (by omega) e]; exact q2, q3, keep q4⟩
  · have low : ∀ j x, j < k → xs[j * 3 + 2]? = some x → Ap2R x (.slice (some ⟨g', 0, none⟩) rs[k].us.length rs[k].us.length) := fun j x hj hx q h1 h2 => by
      have := hold' j x q hj hx h1
      have e : g' = q := by simpa [Value.ownBlock] using h2
      omega
    by_cases ei : i = k
    · subst ei
      rw [tk] at ha
      injection ha with ha
      subst ha
      rw [t j 2 (by omega) (by omega) (by omega)] at hb
      exact (low j b (by omega) hb).symm
    · rw [t i 2 (by omega) (by omega) ei] at ha
      by_cases ej : j = k
      · subst ej
        rw [tk] at hb
        injection hb with hb
        subst hb
        exact low i a (by omega) ha
      · rw [t j 2 (by omega) (by omega) ej] at hb
        exact h3 i j a b (by omega) (by omega) hij ha hb
theorem info_recI : (Tryd.prog.info? 33).map (fun i => (i.zero, i.size, i.bytes)) = some (some (.agg #[.int .i64 0, .int .i64 0, .slice none 0 0]), 3, 40) := by kernel_rfl
set_option maxHeartbeats 4000000 in
theorem toRecordS_any (A : Option Addr) (c : Nat) (rs : List Rec) (w : World) (h : Recs w w.heap.size A rs) (hs : FitR rs) :
    Calls Tryd.prog 73 #[.slice A rs.length c] w (fun e w' => ∃ g, e = .returned (.slice (some ⟨g, 0, none⟩) rs.length rs.length) ∧ OwnRecF w' w.heap.size (.slice (some ⟨g, 0, none⟩) rs.length rs.length) rs ∧ Below w.heap.size w w') := by
  obtain ⟨i0, hi, hz0, hz1, hz2⟩ := info_of info_recI
  obtain ⟨hn, hs⟩ := hs
  go_enter Tryd.func73, Tryd.ntmps73
  go_wp2_with (at_make; go_must (refine wpList_make_full _ rfl (.tmp 6) (.tmp 6) 23 rfl w.heap.size 33 i0 (.agg #[.int .i64 0, .int .i64 0, .slice none 0 0]) 3 Tryd.underlying23 hi hz0 hz1 .i64 .i64 rs.length rs.length rs.length rfl rfl rfl rfl (by rw [hz2]; omega) (by unfold maxLen; omega) (Nat.le_refl _) ?_); intro w1 hown hg)
  have hb1 : Below w.heap.size w w1 := (Below.refl _ _).grown hg (Nat.le_refl _) (by simp)
  have f1 : FilR w1 w.heap.size w.heap.size rs 0 := ⟨_, hown, fun j _ hj => absurd hj (by omega), fun i _ _ _ hi => absurd hi (by omega)⟩
  clear hown hg
  go_loopw [4] (fun i wr => ∃ k : Nat, k ≤ rs.length ∧ i = .int .i64 k ∧ FilR wr w.heap.size w.heap.size rs k ∧ Below w.heap.size w wr) (fun i _ => rs.length - (intOf i).toNat)
  case atStart => exact ⟨0, Nat.zero_le _, rfl, f1, hb1⟩
  case round =>
    clear f1 hb1
    obtain ⟨k, hk, rfl, hf, hb⟩ := hrel
    by_cases hlt : k < rs.length
    · obtain ⟨r, ad, A', c', hre, rfl, ha, g0, g1, g2, -, g4⟩ := (h.below hb (Nat.le_refl _)).rec hlt
      have hsk := hs r (by rw [← hre]; exact List.getElem_mem hlt)
      have k0 : 0 ≤ (k : Int) := by omega
      have k1 : (k : Int) < (rs.length : Int) := by omega
      have HRE := hid hre
      clear hre
      go_wp2_with fail
      refine (toRecord_any A' c' r wr (g4.more hb.size) hsk).mono ?_
      rintro e w2 ⟨g', rfl, o2, d2⟩
      have hf2 := hf.below d2
      have hb2 := hb.trans (d2.mono hb.size)
      have hg' : wr.heap.size ≤ g' := (OwnUps.lt o2 g' rfl)
      have o2' := OwnUps.base (B' := w.heap.size) o2 hb.size
      obtain ⟨⟨u0, c0⟩, ⟨u1, c1⟩, ⟨u2, c2⟩, cf, hBg⟩ := hf2.cells3 hlt
      have cf0 := cf (k * 3)
      have cf1 := cf (k * 3 + 1)
      have cf2 := cf (k * 3 + 2)
      have hst : Hid (FilR (((w2.setCell ⟨w.heap.size, k * 3, none⟩ (.int .i64 r.k)).setCell ⟨w.heap.size, k * 3 + 1, none⟩ (.int .i64 r.t)).setCell ⟨w.heap.size, k * 3 + 2, none⟩ (.slice (some ⟨g', 0, none⟩) r.us.length r.us.length)) w.heap.size w.heap.size rs (k + 1)) := by
        have e := HRE.out
        subst e
        obtain ⟨xs, h1, h2, h3⟩ := hf
        refine FilR.step (D := wr.heap.size) hlt ⟨xs, own_below h1 d2 (Nat.le_refl _), fun j hj hjk => ?_, h3⟩ ?_ hg' o2'
        · obtain ⟨A, c, q0, q1, q2, q3, q4⟩ := h2 j hj hjk
          exact ⟨A, c, q0, q1, q2, q3, q4.below d2⟩
        · intro ys hy1 _ j u q hj hu hq
          have h1' := own_below h1 d2 (Nat.le_refl _)
          have c1 := World.ownsRow.cells hy1 (g := w.heap.size) rfl _ _ hu
          have lx := h1.1
          have hjx : j * 3 + 2 < xs.length := by omega
          have c2 := World.ownsRow.cells h1' (g := w.heap.size) rfl _ _ (List.getElem?_eq_getElem hjx)
          rw [c1] at c2
          injection c2 with c2
          exact ((h2 j (by omega) hj).lt u q (by rw [List.getElem?_eq_getElem hjx, c2]) hq).2
      clear hf hf2 o2 o2' d2 hg' cf g0 g1 g2 g4
      go_wp2_with fail
      go_roundw
      case rel => exact ⟨k + 1, by omega, by go_num, hst.out, ((hb2.setCell (Nat.le_refl _) _).setCell (Nat.le_refl _) _).setCell (Nat.le_refl _) _⟩
      case measure => simp [intOf]; omega
    · have hk' : k = rs.length := by omega
      subst hk'
      obtain ⟨xs, h1, h2, h3⟩ := hf
      go_wp2
      go_ret
      exact ⟨_, rfl, ⟨xs, h1, fun j hj => h2 j hj hj, h3⟩, hb⟩
set_option maxHeartbeats 4000000 in
theorem toShard_any (v : Value) (rs : List Rec) (w : World) (h : Shd w w.heap.size v rs) (hs : FitR rs) :
    Calls Tryd.prog 35 #[v] w (NewShF rs w) := by
  obtain ⟨A, c, rfl, h0, -⟩ := h
  unfold shV
  have b3 := (((Below.refl w.heap.size w).alloc (Nat.le_refl _) (.cells #[.slice A rs.length c] 54)).alloc (by simp) (.cells #[.slice none 0 0] 25)).alloc (by simp; omega) (.cells #[.slice none 0 0] 25)
  have R3 := (Blk1.new_ (w.alloc (.cells #[.slice A rs.length c] 54)) 25 (.slice none 0 0)).alloc (.cells #[.slice none 0 0] 25)
  have O3 := Blk1.new_ ((w.alloc (.cells #[.slice A rs.length c] 54)).alloc (.cells #[.slice none 0 0] 25)) 25 (.slice none 0 0)
  simp only [World.size_alloc] at R3 O3
  go_enter Tryd.func35, Tryd.ntmps35
  go_wp2_with fail
  refine (toRecordS_any A c rs _ (h0.on b3) hs).mono ?_
  rintro e w4 ⟨g1, rfl, m4, hb4⟩
  have b4 := b3.trans (hb4.mono b3.size)
  have R4 := R3.later hb4
  have O4 := O3.later hb4
  have m5 := m4.base (B' := w.heap.size) b3.size
  clear R3 O3 b3 hb4 m4
  obtain ⟨o0, of⟩ := id O4.reads
  obtain ⟨r0, rf⟩ := id R4.reads
  have of0 := of 0
  have rf0 := rf 0
  clear of rf
  go_wp2_with fail
  have R5 := R4.far (p := ⟨w.heap.size + 1 + 1, 0, none⟩) (by simp) (.slice (some ⟨g1, 0, none⟩) rs.length rs.length)
  obtain ⟨t0, -⟩ := (R5.set0 (.slice (some ⟨g1, 0, none⟩) rs.length rs.length)).reads
  have q1 := m5.keptT (by decide) (by decide) (but_set w4 (w.heap.size + 1 + 1) 0 (.slice (some ⟨g1, 0, none⟩) rs.length rs.length)) (blk_type O4)
  have q2 := q1.keptT (by decide) (by decide) (but_set _ (w.heap.size + 1) 0 (.slice (some ⟨g1, 0, none⟩) rs.length rs.length)) (blk_type R5)
  have b9 := (b4.setCell (p := ⟨w.heap.size + 1 + 1, 0, none⟩) (by show w.heap.size ≤ w.heap.size + 1 + 1; omega) (.slice (some ⟨g1, 0, none⟩) rs.length rs.length)).setCell (p := ⟨w.heap.size + 1, 0, none⟩) (Nat.le_succ _) (.slice (some ⟨g1, 0, none⟩) rs.length rs.length)
  exact bodyPost_ret (v := .agg #[.slice (some ⟨g1, 0, none⟩) rs.length rs.length]) (by simp [results, Tryd.results35, go_sem, t0]) rfl ⟨_, rfl, OwnShF.mk_ q2, b9⟩
end Go.Proofs.YteeffchnbkkpfabDoor
