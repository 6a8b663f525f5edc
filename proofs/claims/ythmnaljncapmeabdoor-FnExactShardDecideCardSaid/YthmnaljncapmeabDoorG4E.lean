/-
  Walks: sizes of records and shards by the laws' own helpers; copies; comparisons.
  Walks: records, shards and states compared by the laws' own helpers.
  Walks: marks written into a shard of the call's own, whose lists lie apart, and read again.
-/
import Derived.Test.YthmnaljncapmeabDoorG1C
import Derived.Test.YthmnaljncapmeabDoorG1E
import Derived.Test.YthmnaljncapmeabDoorRefW
import Derived.Test.YthmnaljncapmeabDoorG4C
import Derived.Deep.Cut
namespace Go.Proofs.YthmnaljncapmeabDoor
open Go.RowKit Wo Pu Rf Lk Sh

def partSzR (rs : List Rec) (k : Nat) : Nat := ((rs.take k).map fun r => r.us.length).sum
def allSzR (rs : List Rec) : Nat := rs.length + partSzR rs rs.length
theorem partSzR_succ {rs : List Rec} {k : Nat} (hk : k < rs.length) : partSzR rs (k + 1) = partSzR rs k + rs[k].us.length := by
  unfold partSzR
  rw [List.take_succ_eq_append_getElem hk, List.map_append, List.sum_append]
  simp
theorem partSzR_ge {rs : List Rec} {i : Nat} (hi : i < rs.length) : ∀ k, i < k → k ≤ rs.length → rs[i].us.length ≤ partSzR rs k := by
  intro k
  induction k with
  | zero => intro h; omega
  | succ k ih =>
    intro h1 h2
    rw [partSzR_succ (by omega)]
    by_cases e : i = k
    · subst e; omega
    · have := ih (by omega) (by omega)
      omega
theorem allSzR_fit {rs : List Rec} {m : Nat} (h : allSzR rs ≤ m) (hm : m ≤ 1048576) : FitR rs := by
  unfold allSzR at h
  refine ⟨by omega, fun a ha => ?_⟩
  obtain ⟨i, hi, rfl⟩ := List.mem_iff_getElem.1 ha
  have := partSzR_ge hi rs.length hi (Nat.le_refl _)
  omega
theorem allSzR_snoc (rs : List Rec) (r : Rec) : allSzR (rs ++ [r]) = allSzR rs + 1 + r.us.length := by
  unfold allSzR partSzR
  rw [List.take_length, List.take_length, List.map_append, List.sum_append, List.length_append]
  simp
  omega
theorem allSzR_nil : allSzR [] = 0 := rfl
/-- The sizes: all fit, or not. -/
def SizedR (tot : Nat) (left : Int) (w : World) (e : Ending) (w' : World) : Prop := ∃ r : Int, e = .returned (.int .i64 r) ∧ (r = -1 ∨ (0 ≤ r ∧ r = left - tot)) ∧ Below w.heap.size w w'
set_option maxHeartbeats 2000000 in
theorem szRecord_any (A : Option Addr) (c : Nat) (r : Rec) (left : Int) (w : World) (hn : r.us.length ≤ maxLen) (h0 : 0 ≤ left) (h1 : left ≤ 1048576) :
    Calls Tryd.prog 87 #[.agg #[.int .i64 r.k, .int .i64 r.t, .slice A r.us.length c], .int .i64 left] w (SizedR r.us.length left w) := by
  have b0 := (Below.refl w.heap.size w).alloc (Nat.le_refl _) (.cells #[.int .i64 r.k, .int .i64 r.t, .slice A r.us.length c] 117)
  by_cases h2 : left < r.us.length
  · have CN := hid fun x => szUpdateS_no A r.us.length c left x hn h0 h1 h2
    clear h2
    go_enter Tryd.func87, Tryd.ntmps87
    go_wp2_with fail
    refine (CN.out _).mono ?_
    rintro e w1 ⟨rfl, rfl⟩
    go_wp2
    go_ret
    exact ⟨-1, rfl, .inl rfl, b0⟩
  · have CY := hid fun x => szUpdateS_yes A r.us.length c left x hn h0 h1 (by omega)
    have h3 : ¬ (left - (r.us.length : Int) < 0) := by omega
    have h4 : 0 ≤ left - (r.us.length : Int) := by omega
    go_enter Tryd.func87, Tryd.ntmps87
    go_wp2_with fail
    refine (CY.out _).mono ?_
    rintro e w1 ⟨rfl, rfl⟩
    go_wp2
    go_ret
    exact ⟨_, rfl, .inr ⟨h4, rfl⟩, b0⟩
set_option maxHeartbeats 2000000 in
theorem szRecordS_any (A : Option Addr) (c : Nat) (rs : List Rec) (left : Int) (w : World) (h : Recs w w.heap.size A rs) (hf : WideR rs) (h0 : 0 ≤ left) (h1 : left ≤ 1048576) :
    Calls Tryd.prog 68 #[.slice A rs.length c, .int .i64 left] w (SizedR (allSzR rs) left w) := by
  obtain ⟨hn, hf⟩ := hf
  unfold maxLen at hn
  by_cases h2 : left < rs.length
  · go_enter Tryd.func68, Tryd.ntmps68
    go_wp2
    go_ret
    exact ⟨-1, rfl, .inl rfl, Below.refl _ _⟩
  · go_enter Tryd.func68, Tryd.ntmps68
    go_wp2_with fail
    go_loopw [1, 5] (fun l i wr => ∃ k : Nat, k ≤ rs.length ∧ i = .int .i64 k ∧ l = .int .i64 (left - rs.length - partSzR rs k) ∧ 0 ≤ left - rs.length - partSzR rs k ∧ Below w.heap.size w wr) (fun _ i _ => rs.length - (intOf i).toNat)
    case atStart => exact ⟨0, Nat.zero_le _, rfl, by simp [partSzR], by simp [partSzR]; omega, Below.refl _ _⟩
    case round =>
      obtain ⟨k, hk, rfl, rfl, hp, hb⟩ := hrel
      by_cases hlt : k < rs.length
      · have hsucc := hid (partSzR_succ hlt)
        obtain ⟨r, ad, A', c', hre, rfl, ha, g0, g1, g2, -, -⟩ := ((h.below hb (Nat.le_refl _)).more hb.size).rec hlt
        have hfk := hf r (by rw [← hre]; exact List.getElem_mem hlt)
        have k0 : 0 ≤ (k : Int) := by omega
        have k1 : (k : Int) < (rs.length : Int) := by omega
        have HSU : Hid (partSzR rs (k + 1) = partSzR rs k + r.us.length) := by rw [← hre]; exact hsucc.out
        clear hre hsucc
        go_wp2_with fail
        refine (szRecord_any A' c' r _ wr hfk hp (by omega)).mono ?_
        rintro e w1 ⟨q, rfl, hr, hb1⟩
        rcases hr with rfl | ⟨r0, hr⟩
        · go_wp2
          go_ret
          exact ⟨-1, rfl, .inl rfl, hb.trans (hb1.mono hb.size)⟩
        · have HR := hid hr
          clear hr
          go_wp2
          go_roundw
          case rel => exact ⟨k + 1, by omega, by go_num, by have := HR.out; have := HSU.out; congr 1; omega, by have := HR.out; have := HSU.out; omega, hb.trans (hb1.mono hb.size)⟩
          case measure => simp [intOf]; omega
      · have hk' : k = rs.length := by omega
        subst hk'
        go_wp2
        go_ret
        exact ⟨_, rfl, .inr ⟨hp, by unfold allSzR; omega⟩, hb⟩
set_option maxHeartbeats 2000000 in
theorem szShard_any (v : Value) (rs : List Rec) (left : Int) (w : World) (h : Shd w w.heap.size v rs) (hf : WideR rs) (h0 : 0 ≤ left) (h1 : left ≤ 1048576) :
    Calls Tryd.prog 33 #[v, .int .i64 left] w (SizedR (allSzR rs) left w) := by
  obtain ⟨A, c, rfl, hr, -⟩ := h
  unfold shV
  have x0 := Blk1.new_ w 52 (.slice A rs.length c)
  have b0 := (Below.refl w.heap.size w).alloc (Nat.le_refl _) (.cells #[.slice A rs.length c] 52)
  go_enter Tryd.func33, Tryd.ntmps33
  go_wp2_with fail
  refine (szRecordS_any A c rs left _ (hr.on b0) hf h0 h1).mono ?_
  rintro e w1 ⟨r, rfl, hr, d⟩
  have b1 := b0.trans (d.mono b0.size)
  rcases hr with rfl | ⟨r0, hr⟩
  · go_wp2
    go_ret
    exact ⟨-1, rfl, .inl rfl, b1⟩
  · have HR := hid hr
    clear hr
    go_wp2
    go_ret
    exact ⟨r, rfl, .inr ⟨r0, HR.out⟩, b1⟩

/-! ### Copies. -/
def NewRecM (r : Rec) (w : World) (e : Ending) (w' : World) : Prop := ∃ g, e = .returned (.agg #[.int .i64 r.k, .int .i64 r.t, .slice (some ⟨g, 0, none⟩) r.us.length r.us.length]) ∧ OwnUps w' w.heap.size (.slice (some ⟨g, 0, none⟩) r.us.length r.us.length) r.us ∧ Below w.heap.size w w'
set_option maxHeartbeats 4000000 in
theorem toRecord_any (A : Option Addr) (c : Nat) (r : Rec) (w : World) (h : Row w w.heap.size A (upsV r.us)) (hn : r.us.length ≤ 1048576) :
    Calls Tryd.prog 88 #[.agg #[.int .i64 r.k, .int .i64 r.t, .slice A r.us.length c]] w (NewRecM r w) := by
  have b1 := (Below.refl w.heap.size w).alloc (Nat.le_refl _) (.cells #[.int .i64 r.k, .int .i64 r.t, .slice A r.us.length c] 117)
  have b2 := b1.alloc (by simp) (.cells #[.int .i64 0, .int .i64 0, .slice none 0 0] 42)
  have b3 := b2.alloc (by simp; omega) (.cells #[.int .i64 r.k, .int .i64 r.t, .slice none 0 0] 42)
  have X3 := ((Blk3s.new_ w 117 (.int .i64 r.k) (.int .i64 r.t) (.slice A r.us.length c)).alloc (.cells #[.int .i64 0, .int .i64 0, .slice none 0 0] 42)).alloc (.cells #[.int .i64 r.k, .int .i64 r.t, .slice none 0 0] 42)
  have R3 := (Blk3s.new_ (w.alloc (.cells #[.int .i64 r.k, .int .i64 r.t, .slice A r.us.length c] 117)) 42 (.int .i64 0) (.int .i64 0) (.slice none 0 0)).alloc (.cells #[.int .i64 r.k, .int .i64 r.t, .slice none 0 0] 42)
  have O3 := Blk3s.new_ ((w.alloc (.cells #[.int .i64 r.k, .int .i64 r.t, .slice A r.us.length c] 117)).alloc (.cells #[.int .i64 0, .int .i64 0, .slice none 0 0] 42)) 42 (.int .i64 r.k) (.int .i64 r.t) (.slice none 0 0)
  simp only [World.size_alloc] at R3 O3
  clear b1 b2
  go_enter Tryd.func88, Tryd.ntmps88
  go_wp2_with fail
  refine (toUpdateS_any A c r.us _ ((h.below b3 (Nat.le_refl _)).more b3.size) hn).mono ?_
  rintro e w4 ⟨g1, rfl, m4, hb4⟩
  have b4 := b3.trans (hb4.mono b3.size)
  have R4 := R3.later hb4
  have O4 := O3.later hb4
  have m5 : OwnUps w4 w.heap.size (.slice (some ⟨g1, 0, none⟩) r.us.length r.us.length) r.us := (show OwnUps w4 _ _ _ from m4).base b3.size
  clear R3 O3 X3 b3 hb4 m4
  obtain ⟨o0, o1, o2, of⟩ := id O4.reads
  obtain ⟨r0, r1, r2, rf⟩ := id R4.reads
  have of2 := of 2
  have rf0 := rf 0
  have rf1 := rf 1
  have rf2 := rf 2
  clear of rf
  go_wp2_with fail
  have T9 := (((R4.far (p := ⟨w.heap.size + 1 + 1, 2, none⟩) (by simp) (.slice (some ⟨g1, 0, none⟩) r.us.length r.us.length)).set0 (.int .i64 r.k)).set1 (.int .i64 r.t)).set2 (.slice (some ⟨g1, 0, none⟩) r.us.length r.us.length)
  obtain ⟨t0, t1, t2, -⟩ := T9.reads
  have q1 := m5.keptT (by decide) (but_set w4 (w.heap.size + 1 + 1) 2 (.slice (some ⟨g1, 0, none⟩) r.us.length r.us.length)) (blk_type O4)
  have R5 := R4.far (p := ⟨w.heap.size + 1 + 1, 2, none⟩) (by simp) (.slice (some ⟨g1, 0, none⟩) r.us.length r.us.length)
  have q2 := q1.keptT (by decide) (but_set _ (w.heap.size + 1) 0 (.int .i64 r.k)) (blk_type R5)
  have q3 := q2.keptT (by decide) (but_set _ (w.heap.size + 1) 1 (.int .i64 r.t)) (blk_type (R5.set0 _))
  have q4 := q3.keptT (by decide) (but_set _ (w.heap.size + 1) 2 (.slice (some ⟨g1, 0, none⟩) r.us.length r.us.length)) (blk_type ((R5.set0 _).set1 _))
  have b9 := (((b4.setCell (p := ⟨w.heap.size + 1 + 1, 2, none⟩) (by show w.heap.size ≤ w.heap.size + 1 + 1; omega) (.slice (some ⟨g1, 0, none⟩) r.us.length r.us.length)).setCell (p := ⟨w.heap.size + 1, 0, none⟩) (Nat.le_succ _) (.int .i64 r.k)).setCell (p := ⟨w.heap.size + 1, 1, none⟩) (Nat.le_succ _) (.int .i64 r.t)).setCell (p := ⟨w.heap.size + 1, 2, none⟩) (Nat.le_succ _) (.slice (some ⟨g1, 0, none⟩) r.us.length r.us.length)
  exact bodyPost_ret (v := .agg #[.int .i64 r.k, .int .i64 r.t, .slice (some ⟨g1, 0, none⟩) r.us.length r.us.length]) (by simp [results, Tryd.results88, go_sem, t0, t1, t2]) rfl ⟨g1, rfl, q4, b9⟩
/-- The new list so far: n places in block g, the first k filled with the first of rs. -/
def FilR (w : World) (B g : Nat) (rs : List Rec) (k : Nat) : Prop := ∃ xs : List Value, w.ownsRow B 42 3 (.slice (some ⟨g, 0, none⟩) rs.length rs.length) rs.length xs ∧ (∀ j (hj : j < rs.length), j < k → RecIs w B xs j rs[j]) ∧ AptR xs k
theorem FilR.below {w w' : World} {B g k : Nat} {rs : List Rec} (h : FilR w B g rs k) (hb : Below w.heap.size w w') : FilR w' B g rs k := by
  obtain ⟨xs, h1, h2, h3⟩ := h
  refine ⟨xs, own_below h1 hb (Nat.le_refl _), fun j hj hk => ?_, h3⟩
  obtain ⟨A, c, q0, q1, q2, q3, q4⟩ := h2 j hj hk
  exact ⟨A, c, q0, q1, q2, q3, q4.below hb⟩
theorem FilR.cells3 {w : World} {B g k k' : Nat} {rs : List Rec} (h : FilR w B g rs k') (hk : k < rs.length) :
    (∃ v, w.cell? ⟨g, k * 3, none⟩ = some v) ∧ (∃ v, w.cell? ⟨g, k * 3 + 1, none⟩ = some v) ∧ (∃ v, w.cell? ⟨g, k * 3 + 2, none⟩ = some v) ∧ (∀ o, w.frozen? ⟨g, o, none⟩ = false) ∧ B ≤ g := by
  obtain ⟨xs, hm, _⟩ := h
  have hlen := hm.1
  have rd : ∀ j, j < rs.length * 3 → ∃ v, w.cell? ⟨g, j, none⟩ = some v := fun j hj =>
    ⟨_, (World.ownsRow.cellAt hm j hj).trans (List.getElem?_eq_getElem (by omega))⟩
  exact ⟨rd _ (by omega), rd _ (by omega), rd _ (by omega), fun o => World.ownsRow.frozenAt hm o, (World.ownsRow.lt hm g rfl).1⟩
theorem FilR.step {w : World} {B D g k g' : Nat} {rs : List Rec} (hk : k < rs.length) (h : FilR w B g rs k) (hold : ∀ xs : List Value, w.ownsRow B 42 3 (.slice (some ⟨g, 0, none⟩) rs.length rs.length) rs.length xs → (∀ j (hj : j < rs.length), j < k → RecIs w B xs j rs[j]) → ∀ j u q, j < k → xs[j * 3 + 2]? = some u → u.ownBlock = some q → q < D)
    (hnew : D ≤ g') (hl : OwnUps w B (.slice (some ⟨g', 0, none⟩) rs[k].us.length rs[k].us.length) rs[k].us) :
    FilR (((w.setCell ⟨g, k * 3, none⟩ (.int .i64 rs[k].k)).setCell ⟨g, k * 3 + 1, none⟩ (.int .i64 rs[k].t)).setCell ⟨g, k * 3 + 2, none⟩ (.slice (some ⟨g', 0, none⟩) rs[k].us.length rs[k].us.length)) B g rs (k + 1) := by
  obtain ⟨xs, h1, h2, h3⟩ := h
  have hlen := h1.1
  have hold' := hold xs h1 h2
  have s1 := (World.ownsRow.stored h1 (k * 3) (.int .i64 rs[k].k)).1
  have s2 := (World.ownsRow.stored s1 (k * 3 + 1) (.int .i64 rs[k].t)).1
  have s3 := (World.ownsRow.stored s2 (k * 3 + 2) (.slice (some ⟨g', 0, none⟩) rs[k].us.length rs[k].us.length)).1
  have keep : ∀ {u : Value} {us : List Up}, OwnUps w B u us → OwnUps (((w.setCell ⟨g, k * 3, none⟩ (.int .i64 rs[k].k)).setCell ⟨g, k * 3 + 1, none⟩ (.int .i64 rs[k].t)).setCell ⟨g, k * 3 + 2, none⟩ (.slice (some ⟨g', 0, none⟩) rs[k].us.length rs[k].us.length)) B u us := fun {u us} h =>
    ((h.keptT (by decide) (but_set w g (k * 3) _) (fun q hq => row_typed h1 q (by injection hq with hq; rw [← hq]; rfl))).keptT (by decide) (but_set _ g (k * 3 + 1) _) (fun q hq => row_typed s1 q (by injection hq with hq; rw [← hq]; rfl))).keptT (by decide) (but_set _ g (k * 3 + 2) _) (fun q hq => row_typed s2 q (by injection hq with hq; rw [← hq]; rfl))
  have t : ∀ j d, j < rs.length → d < 3 → j ≠ k → (((xs.set (k * 3) (.int .i64 rs[k].k)).set (k * 3 + 1) (.int .i64 rs[k].t)).set (k * 3 + 2) (.slice (some ⟨g', 0, none⟩) rs[k].us.length rs[k].us.length))[j * 3 + d]? = xs[j * 3 + d]? := fun j d hj hd hne => by
    rw [List.getElem?_set_ne (by omega), List.getElem?_set_ne (by omega), List.getElem?_set_ne (by omega)]
  have tk : (((xs.set (k * 3) (.int .i64 rs[k].k)).set (k * 3 + 1) (.int .i64 rs[k].t)).set (k * 3 + 2) (.slice (some ⟨g', 0, none⟩) rs[k].us.length rs[k].us.length))[k * 3 + 2]? = some (.slice (some ⟨g', 0, none⟩) rs[k].us.length rs[k].us.length) := by
    rw [List.getElem?_set_self (by simp; omega)]
  refine ⟨_, s3, fun j hj hjk => ?_, fun i j a b hi hj hij ha hb => ?_⟩
  · by_cases e : j = k
    · subst e
      refine ⟨some ⟨g', 0, none⟩, rs[j].us.length, ?_, ?_, tk, Nat.le_refl _, keep hl⟩
      · rw [List.getElem?_set_ne (by omega), List.getElem?_set_ne (by omega), List.getElem?_set_self (by omega)]
      · rw [List.getElem?_set_ne (by omega), List.getElem?_set_self (by simp; omega)]
    · obtain ⟨A, c, q0, q1, q2, q3, q4⟩ := h2 j hj (by omega)
      exact ⟨A, c, by rw [show j * 3 = j * 3 + 0 from rfl, t j 0 hj (by omega) e]; exact q0, by rw [t j 1 hj (by omega) e]; exact q1, by rw [t j 2 hj (by omega) e]; exact q2, q3, keep q4⟩
  · have low : ∀ j x, j < k → xs[j * 3 + 2]? = some x → Ap2R x (.slice (some ⟨g', 0, none⟩) rs[k].us.length rs[k].us.length) := fun j x hj hx q h1 h2 => by
      have := hold' j x q hj hx h1
      have e : g' = q := by simpa [Value.ownBlock] using h2
      omega
    by_cases ei : i = k
    · subst ei
      rw [tk] at ha
      injection ha with ha
      subst ha
      rw [t j 2 (by omega) (by omega) (by omega)] at hb
      exact (low j b (by omega) hb).symm
    · rw [t i 2 (by omega) (by omega) ei] at ha
      by_cases ej : j = k
      · subst ej
        rw [tk] at hb
        injection hb with hb
        subst hb
        exact low i a (by omega) ha
      · rw [t j 2 (by omega) (by omega) ej] at hb
        exact h3 i j a b (by omega) (by omega) hij ha hb
theorem info_recI : (Tryd.prog.info? 42).map (fun i => (i.zero, i.size, i.bytes)) = some (some (.agg #[.int .i64 0, .int .i64 0, .slice none 0 0]), 3, 40) := by kernel_rfl
set_option maxHeartbeats 4000000 in
theorem toRecordS_any (A : Option Addr) (c : Nat) (rs : List Rec) (w : World) (h : Recs w w.heap.size A rs) (hs : FitR rs) :
    Calls Tryd.prog 69 #[.slice A rs.length c] w (fun e w' => ∃ g, e = .returned (.slice (some ⟨g, 0, none⟩) rs.length rs.length) ∧ OwnRecF w' w.heap.size (.slice (some ⟨g, 0, none⟩) rs.length rs.length) rs ∧ Below w.heap.size w w') := by
  obtain ⟨i0, hi, hz0, hz1, hz2⟩ := info_of info_recI
  obtain ⟨hn, hs⟩ := hs
  go_enter Tryd.func69, Tryd.ntmps69
  go_wp2_with (at_make; go_must (refine wpList_make_full _ rfl (.tmp 6) (.tmp 6) 23 rfl w.heap.size 42 i0 (.agg #[.int .i64 0, .int .i64 0, .slice none 0 0]) 3 Tryd.underlying23 hi hz0 hz1 .i64 .i64 rs.length rs.length rs.length rfl rfl rfl rfl (by rw [hz2]; omega) (by unfold maxLen; omega) (Nat.le_refl _) ?_); intro w1 hown hg)
  have hb1 : Below w.heap.size w w1 := (Below.refl _ _).grown hg (Nat.le_refl _) (by simp)
  have f1 : FilR w1 w.heap.size w.heap.size rs 0 := ⟨_, hown, fun j _ hj => absurd hj (by omega), fun i _ _ _ hi => absurd hi (by omega)⟩
  clear hown hg
  go_loopw [4] (fun i wr => ∃ k : Nat, k ≤ rs.length ∧ i = .int .i64 k ∧ FilR wr w.heap.size w.heap.size rs k ∧ Below w.heap.size w wr) (fun i _ => rs.length - (intOf i).toNat)
  case atStart => exact ⟨0, Nat.zero_le _, rfl, f1, hb1⟩
  case round =>
    clear f1 hb1
    obtain ⟨k, hk, rfl, hf, hb⟩ := hrel
    by_cases hlt : k < rs.length
    · obtain ⟨r, ad, A', c', hre, rfl, ha, g0, g1, g2, -, g4⟩ := (h.below hb (Nat.le_refl _)).rec hlt
      have hsk := hs r (by rw [← hre]; exact List.getElem_mem hlt)
      have k0 : 0 ≤ (k : Int) := by omega
      have k1 : (k : Int) < (rs.length : Int) := by omega
      have HRE := hid hre
      clear hre
      go_wp2_with fail
      refine (toRecord_any A' c' r wr (g4.more hb.size) hsk).mono ?_
      rintro e w2 ⟨g', rfl, o2, d2⟩
      have hf2 := hf.below d2
      have hb2 := hb.trans (d2.mono hb.size)
      have hg' : wr.heap.size ≤ g' := (OwnUps.lt o2 g' rfl)
      have o2' := OwnUps.base (B' := w.heap.size) o2 hb.size
      obtain ⟨⟨u0, c0⟩, ⟨u1, c1⟩, ⟨u2, c2⟩, cf, hBg⟩ := hf2.cells3 hlt
      have cf0 := cf (k * 3)
      have cf1 := cf (k * 3 + 1)
      have cf2 := cf (k * 3 + 2)
      have hst : Hid (FilR (((w2.setCell ⟨w.heap.size, k * 3, none⟩ (.int .i64 r.k)).setCell ⟨w.heap.size, k * 3 + 1, none⟩ (.int .i64 r.t)).setCell ⟨w.heap.size, k * 3 + 2, none⟩ (.slice (some ⟨g', 0, none⟩) r.us.length r.us.length)) w.heap.size w.heap.size rs (k + 1)) := by
        have e := HRE.out
        subst e
        obtain ⟨xs, h1, h2, h3⟩ := hf
        refine FilR.step (D := wr.heap.size) hlt ⟨xs, own_below h1 d2 (Nat.le_refl _), fun j hj hjk => ?_, h3⟩ ?_ hg' o2'
        · obtain ⟨A, c, q0, q1, q2, q3, q4⟩ := h2 j hj hjk
          exact ⟨A, c, q0, q1, q2, q3, q4.below d2⟩
        · intro ys hy1 _ j u q hj hu hq
          have h1' := own_below h1 d2 (Nat.le_refl _)
          have c1 := World.ownsRow.cells hy1 (g := w.heap.size) rfl _ _ hu
          have lx := h1.1
          have hjx : j * 3 + 2 < xs.length := by omega
          have c2 := World.ownsRow.cells h1' (g := w.heap.size) rfl _ _ (List.getElem?_eq_getElem hjx)
          rw [c1] at c2
          injection c2 with c2
          exact ((h2 j (by omega) hj).lt u q (by rw [List.getElem?_eq_getElem hjx, c2]) hq).2
      clear hf hf2 o2 o2' d2 hg' cf g0 g1 g2 g4
      go_wp2_with fail
      go_roundw
      case rel => exact ⟨k + 1, by omega, by go_num, hst.out, ((hb2.setCell (Nat.le_refl _) _).setCell (Nat.le_refl _) _).setCell (Nat.le_refl _) _⟩
      case measure => simp [intOf]; omega
    · have hk' : k = rs.length := by omega
      subst hk'
      obtain ⟨xs, h1, h2, h3⟩ := hf
      go_wp2
      go_ret
      exact ⟨_, rfl, ⟨xs, h1, fun j hj => h2 j hj hj, h3⟩, hb⟩
set_option maxHeartbeats 4000000 in
theorem toShard_any (v : Value) (rs : List Rec) (w : World) (h : Shd w w.heap.size v rs) (hs : FitR rs) :
    Calls Tryd.prog 34 #[v] w (NewShF rs w) := by
  obtain ⟨A, c, rfl, h0, -⟩ := h
  unfold shV
  have b3 := (((Below.refl w.heap.size w).alloc (Nat.le_refl _) (.cells #[.slice A rs.length c] 52)).alloc (by simp) (.cells #[.slice none 0 0] 25)).alloc (by simp; omega) (.cells #[.slice none 0 0] 25)
  have R3 := (Blk1.new_ (w.alloc (.cells #[.slice A rs.length c] 52)) 25 (.slice none 0 0)).alloc (.cells #[.slice none 0 0] 25)
  have O3 := Blk1.new_ ((w.alloc (.cells #[.slice A rs.length c] 52)).alloc (.cells #[.slice none 0 0] 25)) 25 (.slice none 0 0)
  simp only [World.size_alloc] at R3 O3
  go_enter Tryd.func34, Tryd.ntmps34
  go_wp2_with fail
  refine (toRecordS_any A c rs _ (h0.on b3) hs).mono ?_
  rintro e w4 ⟨g1, rfl, m4, hb4⟩
  have b4 := b3.trans (hb4.mono b3.size)
  have R4 := R3.later hb4
  have O4 := O3.later hb4
  have m5 := m4.base (B' := w.heap.size) b3.size
  clear R3 O3 b3 hb4 m4
  obtain ⟨o0, of⟩ := id O4.reads
  obtain ⟨r0, rf⟩ := id R4.reads
  have of0 := of 0
  have rf0 := rf 0
  clear of rf
  go_wp2_with fail
  have R5 := R4.far (p := ⟨w.heap.size + 1 + 1, 0, none⟩) (by simp) (.slice (some ⟨g1, 0, none⟩) rs.length rs.length)
  obtain ⟨t0, -⟩ := (R5.set0 (.slice (some ⟨g1, 0, none⟩) rs.length rs.length)).reads
  have q1 := m5.keptT (by decide) (by decide) (but_set w4 (w.heap.size + 1 + 1) 0 (.slice (some ⟨g1, 0, none⟩) rs.length rs.length)) (blk_type O4)
  have q2 := q1.keptT (by decide) (by decide) (but_set _ (w.heap.size + 1) 0 (.slice (some ⟨g1, 0, none⟩) rs.length rs.length)) (blk_type R5)
  have b9 := (b4.setCell (p := ⟨w.heap.size + 1 + 1, 0, none⟩) (by show w.heap.size ≤ w.heap.size + 1 + 1; omega) (.slice (some ⟨g1, 0, none⟩) rs.length rs.length)).setCell (p := ⟨w.heap.size + 1, 0, none⟩) (Nat.le_succ _) (.slice (some ⟨g1, 0, none⟩) rs.length rs.length)
  exact bodyPost_ret (v := .agg #[.slice (some ⟨g1, 0, none⟩) rs.length rs.length]) (by simp [results, Tryd.results34, go_sem, t0]) rfl ⟨_, rfl, OwnShF.mk_ q2, b9⟩
end Go.Proofs.YthmnaljncapmeabDoor
namespace Go.Proofs.YthmnaljncapmeabDoor
open Go.RowKit Wo Pu Rf Lk Sh

set_option linter.unusedSimpArgs false in
set_option maxHeartbeats 2000000 in
theorem eqRecord_is (A A' : Option Addr) (c c' : Nat) (r : Rec) (w : World) (B : Nat) (hr : Row w B A (upsV r.us)) (hr' : Row w B A' (upsV r.us)) (hB : B ≤ w.heap.size) (hm : r.us.length ≤ 1048576) :
    Calls Tryd.prog 89 #[.agg #[.int .i64 r.k, .int .i64 r.t, .slice A r.us.length c], .agg #[.int .i64 r.k, .int .i64 r.t, .slice A' r.us.length c']] w (Ret (.bool true) w) := by
  go_enter Tryd.func89, Tryd.ntmps89
  have al := ((Below.refl w.heap.size w).alloc (Nat.le_refl _) (.cells #[.int .i64 r.k, .int .i64 r.t, .slice A r.us.length c] 42)).alloc (by simp) (.cells #[.int .i64 r.k, .int .i64 r.t, .slice A' r.us.length c'] 42)
  have CU := hid (fun x (hx : Below w.heap.size w x) => eqUpdateS_same A A' c c' r.us x ((hr.below hx hB).more (Nat.le_trans hB hx.size)) ((hr'.below hx hB).more (Nat.le_trans hB hx.size)) hm)
  obtain ⟨w1, hw1⟩ : ∃ w1, (w.alloc (.cells #[.int .i64 r.k, .int .i64 r.t, .slice A r.us.length c] 42)).alloc (.cells #[.int .i64 r.k, .int .i64 r.t, .slice A' r.us.length c'] 42) = w1 := ⟨_, rfl⟩
  have x0 := (Blk3s.new_ w 42 (.int .i64 r.k) (.int .i64 r.t) (.slice A r.us.length c)).alloc (.cells #[.int .i64 r.k, .int .i64 r.t, .slice A' r.us.length c'] 42)
  have x1 := Blk3s.new_ (w.alloc (.cells #[.int .i64 r.k, .int .i64 r.t, .slice A r.us.length c] 42)) 42 (.int .i64 r.k) (.int .i64 r.t) (.slice A' r.us.length c')
  rw [World.size_alloc] at x1
  rw [hw1] at al x0 x1
  obtain ⟨y0, y1, y2, -⟩ := id x0.reads
  obtain ⟨z0, z1, z2, -⟩ := id x1.reads
  go_wp2_with fail
  refine (CU.out w1 al).mono ?_
  rintro e w2 ⟨rfl, d2⟩
  clear y0 y1 y2 z0 z1 z2 hw1
  go_wp2
  go_ret
  exact ⟨rfl, al.trans (d2.mono al.size)⟩
set_option linter.unusedSimpArgs false in
set_option maxRecDepth 100000 in
set_option maxHeartbeats 4000000 in
theorem eqRecordS_is (A A' : Option Addr) (c c' : Nat) (rs : List Rec) (w : World) (h0 : Recs w w.heap.size A rs) (h0' : Recs w w.heap.size A' rs) (hf : FitR rs) :
    Calls Tryd.prog 70 #[.slice A rs.length c, .slice A' rs.length c'] w (Ret (.bool true) w) := by
  go_enter Tryd.func70, Tryd.ntmps70
  go_wp2_with fail
  go_loopw [5] (fun i wr => ∃ k : Nat, k ≤ rs.length ∧ i = .int .i64 k ∧ Below w.heap.size w wr) (fun i _ => rs.length - (intOf i).toNat)
  case atStart => exact ⟨0, Nat.zero_le _, rfl, Below.refl _ _⟩
  case round =>
    obtain ⟨k, hk, rfl, hbw⟩ := hrel
    by_cases hlt : k < rs.length
    · obtain ⟨r, ad, A1, c1, ho, rfl, ha1, g0, g1, g2, -, g3⟩ := (h0.below hbw (Nat.le_refl _)).rec hlt
      obtain ⟨r2, ad2, A2, c2, ho2, rfl, ha2, g20, g21, g22, -, g23⟩ := (h0'.below hbw (Nat.le_refl _)).rec hlt
      obtain rfl : r = r2 := by rw [← ho, ← ho2]
      have hmk : r.us.length ≤ 1048576 := by rw [← ho]; exact hf.2 _ (List.getElem_mem hlt)
      have k0 : 0 ≤ (k : Int) := by omega
      have k1 : (k : Int) < (rs.length : Int) := by omega
      have hz := hbw.size
      have HKP : Hid (∀ x, Below wr.heap.size wr x → x.cell? (ad.add (k * 3)) = some (.int .i64 r.k) ∧ x.cell? ⟨(ad.add (k * 3)).block, (ad.add (k * 3)).off + 1, none⟩ = some (.int .i64 r.t) ∧ x.cell? ⟨(ad.add (k * 3)).block, (ad.add (k * 3)).off + 2, none⟩ = some (.slice A1 r.us.length c1) ∧
          x.cell? (ad2.add (k * 3)) = some (.int .i64 r.k) ∧ x.cell? ⟨(ad2.add (k * 3)).block, (ad2.add (k * 3)).off + 1, none⟩ = some (.int .i64 r.t) ∧ x.cell? ⟨(ad2.add (k * 3)).block, (ad2.add (k * 3)).off + 2, none⟩ = some (.slice A2 r.us.length c2)) := fun x hx =>
        ⟨(hx.cell (Nat.lt_of_lt_of_le ha1 hz)).trans g0, (hx.cell (p := ⟨(ad.add (k * 3)).block, (ad.add (k * 3)).off + 1, none⟩) (Nat.lt_of_lt_of_le ha1 hz)).trans g1, (hx.cell (p := ⟨(ad.add (k * 3)).block, (ad.add (k * 3)).off + 2, none⟩) (Nat.lt_of_lt_of_le ha1 hz)).trans g2,
          (hx.cell (Nat.lt_of_lt_of_le ha2 hz)).trans g20, (hx.cell (p := ⟨(ad2.add (k * 3)).block, (ad2.add (k * 3)).off + 1, none⟩) (Nat.lt_of_lt_of_le ha2 hz)).trans g21, (hx.cell (p := ⟨(ad2.add (k * 3)).block, (ad2.add (k * 3)).off + 2, none⟩) (Nat.lt_of_lt_of_le ha2 hz)).trans g22⟩
      clear ho ho2 g0 g1 g2 g20 g21 g22
      go_wp2_with fail
      have Dwd := (Below.refl wr.heap.size wr).drew
      refine wp_region_held_drew (S := fun x => x.cell? (ad.add (k * 3)) = some (.int .i64 r.k) ∧ x.cell? ⟨(ad.add (k * 3)).block, (ad.add (k * 3)).off + 1, none⟩ = some (.int .i64 r.t) ∧ x.cell? ⟨(ad.add (k * 3)).block, (ad.add (k * 3)).off + 2, none⟩ = some (.slice A1 r.us.length c1) ∧
          x.cell? (ad2.add (k * 3)) = some (.int .i64 r.k) ∧ x.cell? ⟨(ad2.add (k * 3)).block, (ad2.add (k * 3)).off + 1, none⟩ = some (.int .i64 r.t) ∧ x.cell? ⟨(ad2.add (k * 3)).block, (ad2.add (k * 3)).off + 2, none⟩ = some (.slice A2 r.us.length c2)) (by kernel_rfl) (HKP.out _ Dwd) (fun hHeld => ?_)
      obtain ⟨wd, hwd⟩ : ∃ wd, wr.drew = wd := ⟨_, rfl⟩
      rw [hwd] at hHeld Dwd ⊢
      clear hwd
      refine wpAnyH_take (i := 0) (oi := _) (v := ?_) rfl (by kernel_rfl) (by kernel_rfl) (by kernel_rfl) (fun _ _ _ h => h) (Or.inl ⟨by rfl, ?_⟩) hHeld ?_
      rotate_left
      · (intro w' hSw; (try dsimp only at hSw); go_simp <;> with_reducible rfl)
      try simp only [Act.put, List.getElem_toArray, List.getElem_cons_succ, List.getElem_cons_zero, List.setIfInBounds_toArray, List.set_cons_zero, List.set_cons_succ]
      refine wpAnyH_take (i := 1) (oi := _) (v := ?_) rfl (by kernel_rfl) (by kernel_rfl) (by kernel_rfl) (fun _ _ _ h => h) (Or.inl ⟨by rfl, ?_⟩) hHeld ?_
      rotate_left
      · (intro w' hSw; (try dsimp only at hSw); go_simp <;> with_reducible rfl)
      try simp only [Act.put, List.getElem_toArray, List.getElem_cons_succ, List.getElem_cons_zero, List.setIfInBounds_toArray, List.set_cons_zero, List.set_cons_succ]
      refine wpAnyH_take (i := 2) (oi := _) (v := ?_) rfl (by kernel_rfl) (by kernel_rfl) (by kernel_rfl) (fun _ _ _ h => h) (Or.inl ⟨by rfl, ?_⟩) hHeld ?_
      rotate_left
      · (intro w' hSw; (try dsimp only at hSw); go_simp <;> with_reducible rfl)
      try simp only [Act.put, List.getElem_toArray, List.getElem_cons_succ, List.getElem_cons_zero, List.setIfInBounds_toArray, List.set_cons_zero, List.set_cons_succ]
      refine wpAnyH_take (i := 3) (oi := _) (v := ?_) rfl (by kernel_rfl) (by kernel_rfl) (by kernel_rfl) (fun _ _ _ h => h) (Or.inl ⟨by rfl, ?_⟩) hHeld ?_
      rotate_left
      · (intro w' hSw; (try dsimp only at hSw); go_simp <;> with_reducible rfl)
      try simp only [Act.put, List.getElem_toArray, List.getElem_cons_succ, List.getElem_cons_zero, List.setIfInBounds_toArray, List.set_cons_zero, List.set_cons_succ]
      refine wpAnyH_take (i := 4) (oi := _) (v := ?_) rfl (by kernel_rfl) (by kernel_rfl) (by kernel_rfl) (fun _ _ _ h => h) (Or.inl ⟨by rfl, ?_⟩) hHeld ?_
      rotate_left
      · (intro w' hSw; (try dsimp only at hSw); go_simp <;> with_reducible rfl)
      try simp only [Act.put, List.getElem_toArray, List.getElem_cons_succ, List.getElem_cons_zero, List.setIfInBounds_toArray, List.set_cons_zero, List.set_cons_succ]
      refine wpAnyH_take (i := 5) (oi := _) (v := ?_) rfl (by kernel_rfl) (by kernel_rfl) (by kernel_rfl) (fun _ _ _ h => h) (Or.inl ⟨by rfl, ?_⟩) hHeld ?_
      rotate_left
      · (intro w' hSw; (try dsimp only at hSw); go_simp <;> with_reducible rfl)
      try simp only [Act.put, List.getElem_toArray, List.getElem_cons_succ, List.getElem_cons_zero, List.setIfInBounds_toArray, List.set_cons_zero, List.set_cons_succ]
      refine wpAnyH_take (i := 6) (oi := _) (v := ?_) rfl (by kernel_rfl) (by kernel_rfl) (by kernel_rfl) (fun _ _ _ h => h) (Or.inl ⟨by rfl, ?_⟩) hHeld ?_
      rotate_left
      · (intro w' hSw; (try dsimp only at hSw); go_simp <;> with_reducible rfl)
      try simp only [Act.put, List.getElem_toArray, List.getElem_cons_succ, List.getElem_cons_zero, List.setIfInBounds_toArray, List.set_cons_zero, List.set_cons_succ]
      refine wpAnyH_take (i := 7) (oi := _) (v := ?_) rfl (by kernel_rfl) (by kernel_rfl) (by kernel_rfl) (fun _ _ _ h => h) (Or.inl ⟨by rfl, ?_⟩) hHeld ?_
      rotate_left
      · (intro w' hSw; (try dsimp only at hSw); go_simp <;> with_reducible rfl)
      try simp only [Act.put, List.getElem_toArray, List.getElem_cons_succ, List.getElem_cons_zero, List.setIfInBounds_toArray, List.set_cons_zero, List.set_cons_succ]
      refine wpAnyH_ready (rs := [8]) (by kernel_rfl) (by simp) (AllReadyH.cons (o := _) rfl (fun K hK => ?_) AllReadyH.nil)
      try simp only [Act.put, List.getElem_toArray, List.getElem_cons_succ, List.getElem_cons_zero, List.setIfInBounds_toArray, List.set_cons_zero, List.set_cons_succ]
      go_simp
      go_at_call 89
      refine (eqRecord_is A1 A2 c1 c2 r wd w.heap.size (g3.below Dwd hz) (g23.below Dwd hz) (Nat.le_trans hz Dwd.size) hmk).mono ?_
      rintro e we ⟨rfl, de⟩
      have De := Dwd.trans (de.mono Dwd.size)
      have hb9 := hbw.trans (De.mono hz)
      refine hK.out _ _ (HKP.out _ De) (fun hHeld => ?_)
      clear hK K
      try simp only [Act.put, List.getElem_toArray, List.getElem_cons_succ, List.getElem_cons_zero, List.setIfInBounds_toArray, List.set_cons_zero, List.set_cons_succ]
      refine wpAnyH_take (i := 9) (oi := _) (v := ?_) rfl (by kernel_rfl) (by kernel_rfl) (by kernel_rfl) (fun _ _ _ h => h) (Or.inl ⟨by rfl, ?_⟩) hHeld ?_
      rotate_left
      · (intro w' hSw; (try dsimp only at hSw); go_simp <;> with_reducible rfl)
      try simp only [Act.put, List.getElem_toArray, List.getElem_cons_succ, List.getElem_cons_zero, List.setIfInBounds_toArray, List.set_cons_zero, List.set_cons_succ]
      refine wpAnyH_done (by kernel_rfl) ?_ _
      have hf1 := hf.1
      clear hHeld HKP Dwd de De
      go_wp2
      go_roundw
      case rel => exact ⟨k + 1, by omega, by go_num, hb9⟩
      case measure => simp [intOf]; omega
    · have hk' : k = rs.length := by omega
      subst hk'
      go_wp2
      go_ret
      exact ⟨rfl, hbw⟩
set_option maxHeartbeats 2000000 in
theorem eqShard_is (v v' : Value) (rs : List Rec) (w : World) (h : Shd w w.heap.size v rs) (h' : Shd w w.heap.size v' rs) (hf : FitR rs) :
    Calls Tryd.prog 35 #[v, v'] w (Ret (.bool true) w) := by
  obtain ⟨A, c, rfl, h0, hc⟩ := h
  obtain ⟨A', c', rfl, h0', hc'⟩ := h'
  unfold shV
  go_enter Tryd.func35, Tryd.ntmps35
  have al := ((Below.refl w.heap.size w).alloc (Nat.le_refl _) (.cells #[.slice A rs.length c] 25)).alloc (by simp) (.cells #[.slice A' rs.length c'] 25)
  have x0 := (Blk1.new_ w 25 (.slice A rs.length c)).alloc (.cells #[.slice A' rs.length c'] 25)
  have x1 := Blk1.new_ (w.alloc (.cells #[.slice A rs.length c] 25)) 25 (.slice A' rs.length c')
  rw [World.size_alloc] at x1
  obtain ⟨w1, hw1⟩ : ∃ w1, (w.alloc (.cells #[.slice A rs.length c] 25)).alloc (.cells #[.slice A' rs.length c'] 25) = w1 := ⟨_, rfl⟩
  rw [hw1] at al x0 x1
  obtain ⟨y0, -⟩ := id x0.reads
  obtain ⟨z0, -⟩ := id x1.reads
  go_wp2_with fail
  refine (eqRecordS_is A A' c c' rs w1 (h0.on al) (h0'.on al) hf).mono ?_
  rintro e w2 ⟨rfl, d2⟩
  clear y0 z0 hw1
  go_wp2
  go_ret
  exact ⟨rfl, al.trans (d2.mono al.size)⟩
set_option linter.unusedSimpArgs false in
set_option maxHeartbeats 2000000 in
theorem eqState_is (v v' : Value) (s : St) (w : World) (h : Stt w w.heap.size v s) (h' : Stt w w.heap.size v' s) (h4 : s.refs.length ≤ 4) (h4' : s.locks.length ≤ 4) :
    Calls Tryd.prog 36 #[v, v'] w (Ret (.bool true) w) := by
  obtain ⟨A, c, A2, c2, rfl, r1, -, r2, -⟩ := h
  obtain ⟨A', c', A2', c2', rfl, r1', -, r2', -⟩ := h'
  unfold stV
  have al := ((Below.refl w.heap.size w).alloc (Nat.le_refl _) (.cells #[.slice A s.refs.length c, .slice A2 s.locks.length c2] 30)).alloc (by simp) (.cells #[.slice A' s.refs.length c', .slice A2' s.locks.length c2'] 30)
  have C1 := hid (fun x (hx : Below w.heap.size w x) => eqIntS_ret A A' c c' s.refs x w.heap.size w.heap.size (r1.below hx (Nat.le_refl _)) (r1'.below hx (Nat.le_refl _)) (by unfold maxLen; omega))
  have C2 := hid (fun x (hx : Below w.heap.size w x) => eqIntS_ret A2 A2' c2 c2' s.locks x w.heap.size w.heap.size (r2.below hx (Nat.le_refl _)) (r2'.below hx (Nat.le_refl _)) (by unfold maxLen; omega))
  go_enter Tryd.func36, Tryd.ntmps36
  obtain ⟨w1, hw1⟩ : ∃ w1, (w.alloc (.cells #[.slice A s.refs.length c, .slice A2 s.locks.length c2] 30)).alloc (.cells #[.slice A' s.refs.length c', .slice A2' s.locks.length c2'] 30) = w1 := ⟨_, rfl⟩
  have x0 := (Blk2s.new_ w 30 (.slice A s.refs.length c) (.slice A2 s.locks.length c2)).alloc (.cells #[.slice A' s.refs.length c', .slice A2' s.locks.length c2'] 30)
  have x1 := Blk2s.new_ (w.alloc (.cells #[.slice A s.refs.length c, .slice A2 s.locks.length c2] 30)) 30 (.slice A' s.refs.length c') (.slice A2' s.locks.length c2')
  rw [World.size_alloc] at x1
  rw [hw1] at al x0 x1
  obtain ⟨y0, y1, -⟩ := id x0.reads
  obtain ⟨z0, z1, -⟩ := id x1.reads
  go_wp2_with fail
  refine (C1.out w1 al).mono ?_
  rintro e w2 ⟨rfl, d2⟩
  clear y0 y1 z0 z1 hw1
  have al2 := al.trans (d2.mono al.size)
  obtain ⟨y0, y1, -⟩ := id (x0.later d2).reads
  obtain ⟨z0, z1, -⟩ := id (x1.later d2).reads
  go_wp2_with fail
  refine (C2.out w2 al2).mono ?_
  rintro e w3 ⟨rfl, d3⟩
  clear y0 y1 z0 z1
  go_wp2
  go_ret
  exact ⟨rfl, al2.trans (d3.mono al2.size)⟩
end Go.Proofs.YthmnaljncapmeabDoor
namespace Go.Proofs.YthmnaljncapmeabDoor
open Go.RowKit Wo Pu Rf Lk Sh

/-! ### Blocks from B up to D are written. -/
structure OnlyBD (B D : Nat) (w w' : World) : Prop where
  os : w'.os = w.os
  tape : w'.tape = w.tape
  output : w'.output = w.output
  size : w.heap.size ≤ w'.heap.size
  block : ∀ k, k < w.heap.size → ¬ (B ≤ k ∧ k < D) → w'.heap[k]? = w.heap[k]?
section
variable {B D : Nat} {w w1 w2 : World}
theorem OnlyBD.refl (B D : Nat) (w : World) : OnlyBD B D w w := ⟨rfl, rfl, rfl, Nat.le_refl _, fun _ _ _ => rfl⟩
theorem OnlyBD.trans (h : OnlyBD B D w w1) (k : OnlyBD B D w1 w2) : OnlyBD B D w w2 :=
  ⟨k.os.trans h.os, k.tape.trans h.tape, k.output.trans h.output, Nat.le_trans h.size k.size, fun i hi hc => (k.block i (Nat.lt_of_lt_of_le hi h.size) hc).trans (h.block i hi hc)⟩
theorem OnlyBD.of_but {R : Nat} (h : But R w w1) (hR : (B ≤ R ∧ R < D) ∨ w.heap.size ≤ R) : OnlyBD B D w w1 :=
  ⟨h.os, h.tape, h.output, h.size, fun k hk hc => h.block k hk (fun e => by injection e with e; omega)⟩
theorem OnlyBD.of_below (h : Below w.heap.size w w1) : OnlyBD B D w w1 := ⟨h.os, h.tape, h.output, h.size, fun k hk _ => h.block k hk⟩
theorem OnlyBD.below (h : OnlyBD B D w w1) (hB : B ≤ w.heap.size) : Below B w w1 := ⟨h.os, h.tape, h.output, h.size, fun k hk => h.block k (by omega) (by omega)⟩
theorem OnlyBD.row {C n sz : Nat} {e : TypeId} {v : Value} {xs : List Value} (h : OnlyBD B D w w1) (hr : w.ownsRow C e sz v n xs) (hD : D ≤ C) : w1.ownsRow C e sz v n xs := by
  have hl := World.ownsRow.lt hr
  refine ⟨hr.1, ?_⟩
  rcases hr.2 with ⟨h1, h2⟩ | ⟨g, cap, cur, hv, hB, hh, hr⟩
  · exact .inl ⟨h1, h2⟩
  · refine .inr ⟨g, cap, cur, hv, hB, ?_, hr⟩
    have := hl g (by rw [hv]; rfl)
    rw [h.block g this.2 (by omega)]
    exact hh
theorem OwnRecF.only {C : Nat} {v : Value} {rs : List Rec} (h : OwnRecF w C v rs) (k : OnlyBD B D w w1) (hD : D ≤ C) : OwnRecF w1 C v rs := by
  obtain ⟨xs, h1, h2, h3⟩ := h
  refine ⟨xs, k.row h1 hD, fun j hj => ?_, h3⟩
  obtain ⟨A, c, q0, q1, q2, q3, q4⟩ := h2 j hj
  exact ⟨A, c, q0, q1, q2, q3, k.row q4 hD⟩
theorem OwnShF.only {C : Nat} {v : Value} {rs : List Rec} (h : OwnShF w C v rs) (k : OnlyBD B D w w1) (hD : D ≤ C) : OwnShF w1 C v rs := by
  obtain ⟨A, c, e, h1, h2⟩ := h
  exact ⟨A, c, e, h1.only k hD, h2⟩
/-- Blocks from B on stay. -/
def Keeps (B : Nat) (w w' : World) : Prop := w.heap.size ≤ w'.heap.size ∧ ∀ k, B ≤ k → k < w.heap.size → w'.heap[k]? = w.heap[k]?
theorem Keeps.of_below (h : Below w.heap.size w w1) (B : Nat) : Keeps B w w1 := ⟨h.size, fun k _ hk => h.block k hk⟩
theorem Keeps.of_only {C : Nat} (h : OnlyBD B D w w1) (hD : D ≤ C) : Keeps C w w1 := ⟨h.size, fun k h1 h2 => h.block k h2 (by omega)⟩
theorem Keeps.trans (h : Keeps B w w1) (k : Keeps B w1 w2) : Keeps B w w2 := ⟨Nat.le_trans h.1 k.1, fun i h1 h2 => (k.2 i h1 (Nat.lt_of_lt_of_le h2 h.1)).trans (h.2 i h1 h2)⟩
theorem Keeps.row {n sz : Nat} {e : TypeId} {v : Value} {xs : List Value} (h : Keeps B w w1) (hr : w.ownsRow B e sz v n xs) : w1.ownsRow B e sz v n xs := by
  have hl := World.ownsRow.lt hr
  refine ⟨hr.1, ?_⟩
  rcases hr.2 with ⟨h1, h2⟩ | ⟨g, cap, cur, hv, hB, hh, hr⟩
  · exact .inl ⟨h1, h2⟩
  · refine .inr ⟨g, cap, cur, hv, hB, ?_, hr⟩
    have := hl g (by rw [hv]; rfl)
    rw [h.2 g this.1 this.2]
    exact hh
theorem OwnRecF.keep {v : Value} {rs : List Rec} (h : OwnRecF w B v rs) (k : Keeps B w w1) : OwnRecF w1 B v rs := by
  obtain ⟨xs, h1, h2, h3⟩ := h
  refine ⟨xs, k.row h1, fun j hj => ?_, h3⟩
  obtain ⟨A, c, q0, q1, q2, q3, q4⟩ := h2 j hj
  exact ⟨A, c, q0, q1, q2, q3, k.row q4⟩
theorem OwnShF.keep {v : Value} {rs : List Rec} (h : OwnShF w B v rs) (k : Keeps B w w1) : OwnShF w1 B v rs := by
  obtain ⟨A, c, e, h1, h2⟩ := h
  exact ⟨A, c, e, h1.keep k, h2⟩
theorem OwnI.only {C : Nat} {v : Value} {zs : List Int} (h : OwnI w C v zs) (k : OnlyBD B D w w1) (hD : D ≤ C) : OwnI w1 C v zs := k.row h hD
theorem Blk1.only {g : Nat} {t : TypeId} {v : Value} (h : Blk1 w g t v) (k : OnlyBD B D w w1) (hg : ¬ (B ≤ g ∧ g < D)) : Blk1 w1 g t v := (k.block g h.lt hg).trans h
theorem Blk2s.only {g : Nat} {t : TypeId} {v u : Value} (h : Blk2s w g t v u) (k : OnlyBD B D w w1) (hg : ¬ (B ≤ g ∧ g < D)) : Blk2s w1 g t v u := (k.block g h.lt hg).trans h
end

/-! ### Marks from k0 on. -/
def kR (k0 : Nat) (rs : List Rec) (m : Nat) : Nat := k0 + ((rs.take m).map fun r => 2 + 3 * r.us.length).sum
theorem kR_zero (k0 : Nat) (rs : List Rec) : kR k0 rs 0 = k0 := rfl
theorem kR_succ {k0 : Nat} {rs : List Rec} {m : Nat} (hm : m < rs.length) : kR k0 rs (m + 1) = kR k0 rs m + (2 + 3 * rs[m].us.length) := by
  unfold kR
  rw [List.take_succ_eq_append_getElem hm, List.map_append, List.sum_append]
  simp
  omega
theorem kR_eq (k0 : Nat) (rs : List Rec) : ∀ m, m ≤ rs.length → kR k0 rs m = k0 + 2 * m + 3 * partSzR rs m := by
  intro m
  induction m with
  | zero => intro _; rfl
  | succ m ih =>
    intro h
    rw [kR_succ (by omega), ih (by omega), partSzR_succ (by omega)]
    omega
theorem kR_mono {k0 : Nat} {rs : List Rec} {m : Nat} (hm : m ≤ rs.length) : kR k0 rs m ≤ kR k0 rs rs.length := by
  have hp : ∀ k, m ≤ k → k ≤ rs.length → partSzR rs m ≤ partSzR rs k := by
    intro k
    induction k with
    | zero => intro h _; rw [show m = 0 by omega]; exact Nat.le_refl _
    | succ k ih =>
      intro a b
      rcases Nat.lt_or_ge k m with e | e
      · rw [show m = k + 1 by omega]; exact Nat.le_refl _
      · have := ih e (by omega)
        rw [partSzR_succ (by omega)]
        omega
  rw [kR_eq k0 rs m hm, kR_eq k0 rs rs.length (Nat.le_refl _)]
  have := hp rs.length hm (Nat.le_refl _)
  omega
theorem kR_le {k0 : Nat} {rs : List Rec} : kR k0 rs rs.length ≤ k0 + 3 * allSzR rs := by
  rw [kR_eq k0 rs rs.length (Nat.le_refl _)]
  unfold allSzR
  omega
def mkR (k : Nat) (r : Rec) : Rec := ⟨(k : Int), ((k + 1 : Nat) : Int), mksU (k + 2) r.us.length⟩
def mkRs (k0 : Nat) (rs : List Rec) : List Rec := (List.finRange rs.length).map fun j => mkR (kR k0 rs j.1) rs[j.1]
theorem mkRs_length (k0 : Nat) (rs : List Rec) : (mkRs k0 rs).length = rs.length := by simp [mkRs]
theorem mkRs_get {k0 : Nat} {rs : List Rec} {j : Nat} (h : j < rs.length) : (mkRs k0 rs)[j]'(by rw [mkRs_length]; exact h) = mkR (kR k0 rs j) rs[j] := by simp [mkRs]
/-- The updates of the first n records lie below D. -/
def BelR (xs : List Value) (n D : Nat) : Prop := ∀ i v q, i < n → xs[i * 3 + 2]? = some v → v.ownBlock = some q → q < D
/-- The list, the first m records of it marked. -/
def MixR (k0 : Nat) (w : World) (B D g c : Nat) (rs : List Rec) (m : Nat) : Prop :=
  ∃ xs, w.ownsRow B 42 3 (.slice (some ⟨g, 0, none⟩) rs.length c) rs.length xs ∧ (∀ j (hj : j < rs.length), RecIs w B xs j (if j < m then mkR (kR k0 rs j) rs[j] else rs[j])) ∧ AptR xs rs.length ∧ BelR xs rs.length D ∧ g < D
theorem MixR.begin_ {w : World} {B g c k0 : Nat} {rs : List Rec} (h : OwnRecF w B (.slice (some ⟨g, 0, none⟩) rs.length c) rs) : MixR k0 w B w.heap.size g c rs 0 := by
  obtain ⟨xs, h1, h2, h3⟩ := h
  exact ⟨xs, h1, fun j hj => by rw [if_neg (Nat.not_lt_zero _)]; exact h2 j hj, h3, fun i v q hi hv hq => ((h2 i hi).lt v q hv hq).2, (World.ownsRow.lt h1 g rfl).2⟩
theorem MixR.end_ {w : World} {B D g c k0 : Nat} {rs : List Rec} (h : MixR k0 w B D g c rs rs.length) : OwnRecF w B (.slice (some ⟨g, 0, none⟩) rs.length c) (mkRs k0 rs) := by
  obtain ⟨xs, h1, h2, h3, -, -⟩ := h
  have hl := mkRs_length k0 rs
  refine ⟨xs, by rw [hl]; exact h1, fun j hj => ?_, by rw [hl]; exact h3⟩
  rw [hl] at hj
  have := h2 j hj
  rw [if_pos hj] at this
  rw [mkRs_get hj]
  exact this
/-- What the round at record m finds. -/
theorem MixR.step {w : World} {B D g c k0 m : Nat} {rs : List Rec} (h : MixR k0 w B D g c rs m) (hm : m < rs.length) (K : Nat) (hK : K = kR k0 rs m) :
    ∃ (A : Option Addr) (c' : Nat), (∃ v, w.cell? ⟨g, m * 3, none⟩ = some v) ∧ (∃ v, w.cell? ⟨g, m * 3 + 1, none⟩ = some v) ∧ (∀ o, w.frozen? ⟨g, o, none⟩ = false) ∧ w.cell? ⟨g, m * 3 + 2, none⟩ = some (.slice A rs[m].us.length c') ∧ (B ≤ g ∧ g < D) ∧
      OwnUps ((w.setCell ⟨g, m * 3, none⟩ (.int .i64 (K : Nat))).setCell ⟨g, m * 3 + 1, none⟩ (.int .i64 ((K : Int) + 1))) B (.slice A rs[m].us.length c') rs[m].us ∧ (∀ q, (Value.slice A rs[m].us.length c').ownBlock = some q → B ≤ q ∧ q < D) ∧
      ∀ R w2, InB A R → (A = none → w.heap.size ≤ R) → But R ((w.setCell ⟨g, m * 3, none⟩ (.int .i64 (K : Nat))).setCell ⟨g, m * 3 + 1, none⟩ (.int .i64 ((K : Int) + 1))) w2 → OwnUps w2 B (.slice A rs[m].us.length c') (mksU (K + 2) rs[m].us.length) → MixR k0 w2 B D g c rs (m + 1) := by
  obtain ⟨xs, h1, h2, h3, h4, h5⟩ := h
  have hl := h1.1
  obtain ⟨A, c', q0, q1, q2, q3, q4⟩ := h2 m hm
  rw [if_neg (Nat.lt_irrefl m)] at q0 q1 q2 q3 q4
  have s1 := (World.ownsRow.stored h1 (m * 3) (.int .i64 (K : Nat))).1
  have s2 := (World.ownsRow.stored s1 (m * 3 + 1) (.int .i64 ((K : Int) + 1))).1
  have keep : ∀ {u : Value} {us : List Up}, OwnUps w B u us → OwnUps ((w.setCell ⟨g, m * 3, none⟩ (.int .i64 (K : Nat))).setCell ⟨g, m * 3 + 1, none⟩ (.int .i64 ((K : Int) + 1))) B u us := fun {u us} h =>
    (h.keptT (by decide) (but_set w g (m * 3) _) (fun q hq => row_typed h1 q (by injection hq with hq; rw [← hq]; rfl))).keptT (by decide) (but_set _ g (m * 3 + 1) _) (fun q hq => row_typed s1 q (by injection hq with hq; rw [← hq]; rfl))
  have rd : ∀ j, j < rs.length * 3 → w.cell? ⟨g, j, none⟩ = xs[j]? := fun j hj => World.ownsRow.cellAt h1 j hj
  have t : ∀ j d, j < rs.length → d < 3 → (j ≠ m ∨ d = 2) → ((xs.set (m * 3) (.int .i64 (K : Nat))).set (m * 3 + 1) (.int .i64 ((K : Int) + 1)))[j * 3 + d]? = xs[j * 3 + d]? := fun j d hj hd hne => by
    rw [List.getElem?_set_ne (by omega), List.getElem?_set_ne (by omega)]
  refine ⟨A, c', ⟨_, (rd _ (by omega)).trans (List.getElem?_eq_getElem (by omega))⟩, ⟨_, (rd _ (by omega)).trans (List.getElem?_eq_getElem (by omega))⟩, fun o => World.ownsRow.frozenAt h1 o, (rd _ (by omega)).trans q2, ⟨(World.ownsRow.lt h1 g rfl).1, h5⟩, keep q4, fun q hq => ⟨(World.ownsRow.lt q4 q hq).1, h4 m _ q hm q2 hq⟩, fun R w2 hR hN hb ho => ?_⟩
  have hty : ∀ q, some R = some q → A ≠ none → ∃ cur fr, ((w.setCell ⟨g, m * 3, none⟩ (.int .i64 (K : Nat))).setCell ⟨g, m * 3 + 1, none⟩ (.int .i64 ((K : Int) + 1))).heap[q]? = some (.cells cur 97 fr) := fun q hq hA => by
    injection hq with hq
    subst hq
    rcases A with _ | ad
    · exact absurd rfl hA
    · have := hR ad rfl
      have k4 := keep q4
      refine row_typed k4 R ?_
      rw [← this]
      rfl
  have big : A = none → ∀ {C n sz : Nat} {e : TypeId} {u : Value} {ys : List Value}, ((w.setCell ⟨g, m * 3, none⟩ (.int .i64 (K : Nat))).setCell ⟨g, m * 3 + 1, none⟩ (.int .i64 ((K : Int) + 1))).ownsRow C e sz u n ys → w2.ownsRow C e sz u n ys := fun hA {C n sz e u ys} hr => by
    refine World.ownsRow.kept hr hb ?_
    rcases hu : u.ownBlock with _ | q
    · exact .inl rfl
    · refine .inr fun e => ?_
      injection e with e
      have h1 := (World.ownsRow.lt hr q hu).2
      have h2 := hN hA
      simp [World.setCell] at h1
      omega
  refine ⟨(xs.set (m * 3) (.int .i64 (K : Nat))).set (m * 3 + 1) (.int .i64 ((K : Int) + 1)), ?_, fun j hj => ?_, fun i j a b hi hj hij ha hb' => ?_, fun i v q hi hv hq => ?_, h5⟩
  · rcases A with _ | ad
    · exact big rfl s2
    · exact row_far_type s2 (by decide) hb (fun q hq => hty q hq (by simp))
  · by_cases e : j = m
    · subst e
      rw [if_pos (Nat.lt_succ_self _)]
      have e2 : (mkR (kR k0 rs j) rs[j]).us.length = rs[j].us.length := mksU_length _ _
      refine ⟨A, c', ?_, ?_, ?_, ?_, ?_⟩
      · rw [List.getElem?_set_ne (by omega), List.getElem?_set_self (by omega), hK]; rfl
      · rw [List.getElem?_set_self (by simp; omega), hK]; rfl
      · rw [e2, t j 2 hj (by omega) (.inr rfl)]; exact q2
      · rw [e2]; exact q3
      · rw [e2]
        rw [hK] at ho
        exact ho
    · have e3 : (if j < m + 1 then mkR (kR k0 rs j) rs[j] else rs[j]) = (if j < m then mkR (kR k0 rs j) rs[j] else rs[j]) := by
        by_cases hjm : j < m
        · rw [if_pos hjm, if_pos (by omega)]
        · rw [if_neg hjm, if_neg (by omega)]
      rw [e3]
      obtain ⟨A2, c2, r0, r1, r2, r3, r4⟩ := h2 j hj
      refine ⟨A2, c2, by rw [show j * 3 = j * 3 + 0 from rfl, t j 0 hj (by omega) (.inl e)]; exact r0, by rw [t j 1 hj (by omega) (.inl e)]; exact r1, by rw [t j 2 hj (by omega) (.inl e)]; exact r2, r3, ?_⟩
      have k4 := keep r4
      rcases A with _ | ad
      · exact big rfl k4
      · refine World.ownsRow.kept k4 hb ?_
        rcases hu : (Value.slice A2 (if j < m then mkR (kR k0 rs j) rs[j] else rs[j]).us.length c2).ownBlock with _ | q
        · exact .inl rfl
        · refine .inr fun e9 => ?_
          injection e9 with e9
          have := h3 j m _ _ hj hm e r2 q2 q hu
          apply this
          show some ad.block = some q
          rw [hR ad rfl, e9]
  · rw [t i 2 hi (by omega) (.inr rfl)] at ha
    rw [t j 2 hj (by omega) (.inr rfl)] at hb'
    exact h3 i j a b hi hj hij ha hb'
  · rw [t i 2 hi (by omega) (.inr rfl)] at hv
    exact h4 i v q hi hv hq
set_option maxRecDepth 100000 in
set_option maxHeartbeats 4000000 in
theorem markRecordS_any (B D g c : Nat) (rs : List Rec) (w : World) (h0 : MixR 1 w B D g c rs 0) (_ : D ≤ w.heap.size) (hf : FitR rs) (hk : kR 1 rs rs.length ≤ 4000000) :
    Calls Tryd.prog 71 #[.slice (some ⟨g, 0, none⟩) rs.length c, .int .i64 1] w (fun e w' => e = .returned (.int .i64 (kR 1 rs rs.length : Nat)) ∧ MixR 1 w' B D g c rs rs.length ∧ OnlyBD B D w w') := by
  have hf1 := hf.1
  have HF := hid hf.2
  have HKM : Hid (∀ m, m ≤ rs.length → kR 1 rs m ≤ 4000000) := fun m hm => Nat.le_trans (kR_mono hm) hk
  go_enter Tryd.func71, Tryd.ntmps71
  go_wp2_with fail
  go_loopw [1, 5] (fun q i wr => ∃ m K : Nat, m ≤ rs.length ∧ i = .int .i64 m ∧ q = .int .i64 (K : Nat) ∧ K ≤ 4000000 ∧ 1 ≤ K ∧ Hid (K = kR 1 rs m) ∧ MixR 1 wr B D g c rs m ∧ OnlyBD B D w wr) (fun _ i _ => rs.length - (intOf i).toNat)
  case atStart => exact ⟨0, 1, Nat.zero_le _, rfl, rfl, by omega, Nat.le_refl _, rfl, h0, OnlyBD.refl _ _ _⟩
  case round =>
    obtain ⟨m, K, hm, rfl, rfl, hK1, hK2, HK, hX, hO⟩ := hrel
    clear h0
    by_cases hlt : m < rs.length
    · obtain ⟨A, c', ⟨v0, c0⟩, ⟨v1, c1⟩, cf, c2, hgB, ou, hq, HN⟩ := hX.step hlt K HK.out
      have hk2 := HKM.out (m + 1) (by omega)
      have hks := kR_succ (k0 := 1) hlt
      have hul := HF.out _ (List.getElem_mem hlt)
      obtain ⟨us, hus⟩ : ∃ us, rs[m].us = us := ⟨_, rfl⟩
      rw [hus] at c2 ou hq HN hks hul
      rw [← HK.out] at hks
      have HKS := hid hks
      rw [hks] at hk2
      have hz := hO.size
      have f0 := cf (m * 3)
      have f1 := cf (m * 3 + 1)
      obtain ⟨R, hR1, hR2⟩ := inB_of A wr.heap.size
      have k0 : 0 ≤ (m : Int) := by omega
      have k1 : (m : Int) < (rs.length : Int) := by omega
      have HOS : Hid (OnlyBD B D w ((wr.setCell ⟨g, m * 3, none⟩ (.int .i64 (K : Nat))).setCell ⟨g, m * 3 + 1, none⟩ (.int .i64 ((K : Int) + 1)))) := (hO.trans (OnlyBD.of_but (but_set wr g (m * 3) _) (.inl hgB))).trans (OnlyBD.of_but (but_set _ g (m * 3 + 1) _) (.inl hgB))
      have HNN := hid HN
      have HRR : Hid ((B ≤ R ∧ R < D) ∨ wr.heap.size ≤ R) := by
        show _ ∨ _
        rcases A with _ | ad
        · exact .inr (by rw [hR2 rfl]; exact Nat.le_refl _)
        · have := hR1 ad rfl
          exact .inl (hq R (by rw [← this]; rfl))
      have e2 : ((K + 2 : Nat) : Int) = (K : Int) + 2 := by omega
      have HMU : Hid (∀ x : World, OwnUps x B (.slice A us.length c') us → Calls Tryd.prog 45 #[.slice A us.length c', .int .i64 ((K : Int) + 2)] x (UpsMarked ((K : Int) + 2 + 3 * (us.length : Int)) (.slice A us.length c') (K + 2) us.length R B x)) := fun x ho => by
        have := markUps_to ((K : Int) + 2 + 3 * (us.length : Int)) (K + 2) R B A c' us x ho hR1 hul (by omega) (by omega) (by omega)
        rwa [e2] at this
      have HOU := hid ou
      clear HN hX hO hks cf hq hus e2 ou
      go_wp2_with fail
      refine (HMU.out _ HOU.out).mono ?_
      rintro e w2 ⟨rfl, ho2, hb2⟩
      have X2 := HNN.out R w2 hR1 (fun e => by rw [hR2 e]; exact Nat.le_refl _) hb2 ho2
      have O2 := HOS.out.trans (OnlyBD.of_but hb2 (HRR.out.imp id (fun e => by simpa [World.setCell] using e)))
      have HK3 : Hid (K + 2 + 3 * us.length = kR 1 rs (m + 1)) := by show _ = _; rw [HKS.out]; omega
      clear HMU HNN HOS HOU ho2 hb2
      go_wp2_with fail
      go_roundw
      case rel => exact ⟨m + 1, K + 2 + 3 * us.length, by omega, by go_num, by congr 1, by omega, by omega, HK3, X2, O2⟩
      case measure => simp [intOf]; omega
    · have hm' : m = rs.length := by omega
      subst hm'
      go_wp2
      go_ret
      exact ⟨by rw [HK.out]; rfl, hX, hO⟩
set_option maxRecDepth 100000 in
set_option maxHeartbeats 4000000 in
theorem markShard_D (B : Nat) (v : Value) (rs : List Rec) (wx w : World) (h : OwnShF wx B v rs) (hb : Keeps B wx w) (hf : FitR rs) (hk : allSzR rs ≤ 1048577) :
    Calls Tryd.prog 37 #[v, .int .i64 1] w (fun e w' => e = .returned (.int .i64 (kR 1 rs rs.length : Nat)) ∧ OwnShF w' B v (mkRs 1 rs) ∧ OnlyBD B wx.heap.size w w') := by
  obtain ⟨A, c, rfl, h0, hc⟩ := h
  have hkk : kR 1 rs rs.length ≤ 4000000 := Nat.le_trans kR_le (by omega)
  unfold shV
  have al := (Below.refl w.heap.size w).alloc (Nat.le_refl _) (.cells #[.slice A rs.length c] 25)
  have x0 := Blk1.new_ w 25 (.slice A rs.length c)
  obtain ⟨w1, hw1⟩ : ∃ x, w.alloc (.cells #[.slice A rs.length c] 25) = x := ⟨_, rfl⟩
  rw [hw1] at al x0
  obtain ⟨y0, -⟩ := id x0.reads
  have hl := mkRs_length 1 rs
  obtain ⟨xs, h1, h2, h3⟩ := id h0
  rcases h1.2 with ⟨hv, hz⟩ | ⟨g, cap, cur, hv, -⟩
  · injection hv with e1 e2 e3
    subst e1
    subst e3
    have hrs : rs = [] := List.eq_nil_of_length_eq_zero hz
    subst hrs
    have hO : OnlyBD B wx.heap.size w w1 := OnlyBD.of_below al
    have hN : OwnShF w1 B (.agg #[.slice none 0 0]) (mkRs 1 []) := OwnShF.mk_ (OwnRecF.nil_none w1 B)
    clear h0 h1 h2 h3 hz hf hk e2 hl
    go_enter Tryd.func37, Tryd.ntmps37
    go_upto_region 1 with fail
    have hw2 : w.alloc (.cells #[.slice none 0 0] 25) = w1 := hw1
    rw [hw2]
    clear hw1 hw2
    go_wp2_with fail
    have CM : Calls Tryd.prog 71 #[.slice none 0 0, .int .i64 1] w1 (Same (.int .i64 1) w1) := by
      clear hO hN y0 x0 al
      go_enter Tryd.func71, Tryd.ntmps71
      go_wp2_with fail
      go_loopw [1, 5] (fun q i wr => i = .int .i64 0 ∧ q = .int .i64 1 ∧ w1 = wr) (fun _ _ _ => 0)
      case atStart => exact ⟨rfl, rfl, rfl⟩
      case round =>
        obtain ⟨rfl, rfl, rfl⟩ := hrel
        go_wp2
        go_ret
        exact ⟨rfl, rfl⟩
    refine CM.mono ?_
    rintro e w2 ⟨rfl, rfl⟩
    go_wp2
    go_ret
    exact ⟨rfl, hN, hO⟩
  · injection hv with e1 e2 e3
    subst e1
    subst e3
    have hX : MixR 1 w1 B wx.heap.size g c rs 0 := by
      have alx := hb.trans (Keeps.of_below al B)
      have hbm := MixR.begin_ (k0 := 1) h0
      obtain ⟨ys, k1, k2, k3, k4, k5⟩ := hbm
      refine ⟨ys, alx.row k1, fun j hj => ?_, k3, k4, k5⟩
      obtain ⟨A, c, q0, q1, q2, q3, q4⟩ := k2 j hj
      exact ⟨A, c, q0, q1, q2, q3, alx.row q4⟩
    have HM := hid (markRecordS_any B wx.heap.size g c rs w1 hX (Nat.le_trans hb.1 al.size) hf hkk)
    clear h0 h1 h2 h3 hX hf hk
    go_enter Tryd.func37, Tryd.ntmps37
    go_upto_region 1 with fail
    clear hw1
    go_wp2_with fail
    refine HM.out.mono ?_
    rintro e w2 ⟨rfl, hX2, hO2⟩
    have hO : OnlyBD B wx.heap.size w w2 := (OnlyBD.of_below al).trans hO2
    have hE := hX2.end_
    have hN : OwnShF w2 B (.agg #[.slice (some ⟨g, 0, none⟩) rs.length c]) (mkRs 1 rs) := ⟨some ⟨g, 0, none⟩, c, by rw [hl]; rfl, by rw [hl]; exact hE, by rw [hl]; exact hc⟩
    clear hX2 hE hO2 HM y0 hl
    go_wp2
    go_ret
    exact ⟨rfl, hN, hO⟩
set_option maxRecDepth 100000 in
set_option maxHeartbeats 4000000 in
theorem heldRecordS_any (A : Option Addr) (c : Nat) (rs : List Rec) (w : World) (h : Recs w w.heap.size A (mkRs 1 rs)) (hf : FitR rs) (hk : kR 1 rs rs.length ≤ 4000000) :
    Calls Tryd.prog 75 #[.slice A rs.length c, .int .i64 1] w (Ret (.int .i64 (kR 1 rs rs.length : Nat)) w) := by
  have hf1 := hf.1
  have HF := hid hf.2
  have HKM : Hid (∀ m, m ≤ rs.length → kR 1 rs m ≤ 4000000) := fun m hm => Nat.le_trans (kR_mono hm) hk
  go_enter Tryd.func75, Tryd.ntmps75
  go_wp2_with fail
  go_loopw [1, 5] (fun q i wr => ∃ m K : Nat, m ≤ rs.length ∧ i = .int .i64 m ∧ q = .int .i64 (K : Nat) ∧ K ≤ 4000000 ∧ 1 ≤ K ∧ Hid (K = kR 1 rs m) ∧ Below w.heap.size w wr) (fun _ i _ => rs.length - (intOf i).toNat)
  case atStart => exact ⟨0, 1, Nat.zero_le _, rfl, rfl, by omega, Nat.le_refl _, rfl, Below.refl _ _⟩
  case round =>
    obtain ⟨m, K, hm, rfl, rfl, hK1, hK2, HK, hb⟩ := hrel
    by_cases hlt : m < rs.length
    · obtain ⟨o, ad, A1, c1, ho, rfl, ha, g0, g1, g2, -, g4⟩ := (h.on hb).rec (k := m) (by rw [mkRs_length]; exact hlt)
      rw [mkRs_get hlt] at ho
      have hk2 := HKM.out (m + 1) (by omega)
      have hks := kR_succ (k0 := 1) hlt
      have hul := HF.out _ (List.getElem_mem hlt)
      obtain ⟨us, hus⟩ : ∃ us, rs[m].us = us := ⟨_, rfl⟩
      have eo : o = ⟨(K : Int), (K : Int) + 1, mksU (K + 2) us.length⟩ := by rw [← ho, ← HK.out]; unfold mkR; rw [hus]; rfl
      rw [hus] at hks hul
      rw [← HK.out] at hks
      rw [hks] at hk2
      subst eo
      simp only [mksU_length] at g0 g1 g2 g4
      have k0 : 0 ≤ (m : Int) := by omega
      have k1 : (m : Int) < (rs.length : Int) := by omega
      have e2 : ((K + 2 : Nat) : Int) = (K : Int) + 2 := by omega
      have HH : Hid (Calls Tryd.prog 91 #[.slice A1 us.length c1, .int .i64 ((K : Int) + 2)] wr (Ret (.int .i64 ((K : Int) + 2 + 3 * (us.length : Int))) wr)) := by
        have := heldUps_to ((K : Int) + 2 + 3 * (us.length : Int)) (K + 2) A1 c1 us.length wr g4 hul (by omega) (by omega)
        rwa [e2] at this
      have HK3 : Hid (K + 2 + 3 * us.length = kR 1 rs (m + 1)) := by show _ = _; rw [hks]; omega
      have hneg : ¬ ((K : Int) + 2 + 3 * (us.length : Int) < 0) := by omega
      clear hks hus ho e2 g4
      go_wp2_with fail
      refine HH.out.mono ?_
      rintro e w2 ⟨rfl, d2⟩
      have hb2 := hb.trans (d2.mono hb.size)
      clear HH
      go_wp2_with fail
      go_roundw
      case rel => exact ⟨m + 1, K + 2 + 3 * us.length, by omega, by go_num, by congr 1, by omega, by omega, HK3, hb2⟩
      case measure => simp [intOf]; omega
    · have hm' : m = rs.length := by omega
      subst hm'
      go_wp2
      go_ret
      exact ⟨by rw [HK.out]; rfl, hb⟩
set_option maxHeartbeats 2000000 in
theorem heldShard_F (v : Value) (rs : List Rec) (w : World) (h : Shd w w.heap.size v (mkRs 1 rs)) (hf : FitR rs) (hk : allSzR rs ≤ 1048577) :
    Calls Tryd.prog 46 #[v, .int .i64 1] w (Ret (.int .i64 (kR 1 rs rs.length : Nat)) w) := by
  obtain ⟨A, c, rfl, h0, hc⟩ := h
  have hkk : kR 1 rs rs.length ≤ 4000000 := Nat.le_trans kR_le (by omega)
  rw [mkRs_length] at *
  unfold shV
  have al := (Below.refl w.heap.size w).alloc (Nat.le_refl _) (.cells #[.slice A rs.length c] 25)
  have HM := hid (heldRecordS_any A c rs _ (h0.on al) hf hkk)
  obtain ⟨K, hK⟩ : ∃ K, kR 1 rs rs.length = K := ⟨_, rfl⟩
  rw [hK] at HM hkk ⊢
  have hneg : ¬ ((K : Int) < 0) := by omega
  clear h0 hf hk hK
  go_enter Tryd.func46, Tryd.ntmps46
  go_wp2_with fail
  refine HM.out.mono ?_
  rintro e w2 ⟨rfl, d2⟩
  clear HM
  go_wp2
  go_ret
  exact ⟨rfl, al.trans (d2.mono al.size)⟩
end Go.Proofs.YthmnaljncapmeabDoor
