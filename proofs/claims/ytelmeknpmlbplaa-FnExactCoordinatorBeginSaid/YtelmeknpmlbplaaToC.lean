/-
  Walks: copies of parts, transactions and coordinators by the laws' own helpers.
-/
import Derived.Test.YtelmeknpmlbplaaSizC
namespace Go.Proofs.Ytelmeknpmlbplaa
open Go.RowKit Wo Pu Rf Co
set_option linter.unusedVariables false
set_option linter.unusedSimpArgs false

theorem OwnPs.len_ {col : Nat → Nat} {c l cc B : Nat} {w : World} {A : Option Addr} {ps : List Part} (h : OwnPs col c w B (.slice A l cc) ps) : l = ps.length := by
  obtain ⟨A', c', e, -, -⟩ := h.form
  injection e
theorem OwnTxs.len_ {col : Nat → Nat} {l cc B : Nat} {w : World} {A : Option Addr} {ts : List Tx} (h : OwnTxs col w B (.slice A l cc) ts) : l = ts.length := by
  obtain ⟨A', c', e, -, -⟩ := h.form
  injection e
/-! ### Lists as they are made. -/
def zP : Part := ⟨0, []⟩
def zT : Tx := ⟨[], [], 0⟩
theorem made_at (zs : Array Value) (n j d : Nat) (hj : j < n) (hd : d < zs.size) : (madeCells zs (n * zs.size)).toList[j * zs.size + d]? = some zs[d] := by
  have h : j * zs.size + d < n * zs.size := by
    have := Nat.mul_le_mul_right zs.size (show j + 1 ≤ n from hj)
    rw [Nat.add_mul, Nat.one_mul] at this
    omega
  unfold madeCells
  simp only [Array.toList_map, Array.toList_range, List.getElem?_map]
  rw [List.getElem?_range h]
  simp only [Option.map_some]
  rw [Nat.mul_comm, Nat.mul_add_mod, Nat.mod_eq_of_lt hd]
  simp [hd]
theorem made_parts {w : World} {B g n : Nat} (h : w.ownsRow B 36 2 (.slice (some ⟨g, 0, none⟩) n n) n (madeCells (Value.agg #[.int .i64 0, .slice none 0 0]).cells (n * 2)).toList) :
    OwnPs (fun _ => 0) 0 w B (.slice (some ⟨g, 0, none⟩) n n) (List.replicate n zP) := by
  have hl : (List.replicate n zP).length = n := List.length_replicate
  refine ⟨_, by rw [hl]; exact h, fun j hj => ?_, fun i j v u hi hj hij hv hu => ?_, fun _ _ _ _ _ _ => rfl, fun _ _ => rfl⟩
  · have hj' : j < n := by rw [hl] at hj; exact hj
    have e0 := made_at (Value.agg #[.int .i64 0, .slice none 0 0]).cells n j 0 hj' (by decide)
    have e1 := made_at (Value.agg #[.int .i64 0, .slice none 0 0]).cells n j 1 hj' (by decide)
    rw [List.getElem_replicate]
    exact ⟨none, 0, e0, e1, Nat.le_refl _, ⟨rfl, .inl ⟨rfl, rfl⟩⟩⟩
  · have hi' : i < n := by rw [hl] at hi; exact hi
    have e1 := made_at (Value.agg #[.int .i64 0, .slice none 0 0]).cells n i 1 hi' (by decide)
    have e2 : v = .slice none 0 0 := by
      have := hv.symm.trans e1
      injection this
    subst e2
    intro g hg
    cases hg
theorem made_txs {w : World} {B g n : Nat} (h : w.ownsRow B 33 3 (.slice (some ⟨g, 0, none⟩) n n) n (madeCells (Value.agg #[.slice none 0 0, .slice none 0 0, .int .i64 0]).cells (n * 3)).toList) :
    OwnTxs (fun _ => 1) w B (.slice (some ⟨g, 0, none⟩) n n) (List.replicate n zT) := by
  have hl : (List.replicate n zT).length = n := List.length_replicate
  refine ⟨_, by rw [hl]; exact h, fun j hj => ?_, fun _ _ => rfl⟩
  have hj' : j < n := by rw [hl] at hj; exact hj
  have e0 := made_at (Value.agg #[.slice none 0 0, .slice none 0 0, .int .i64 0]).cells n j 0 hj' (by decide)
  have e1 := made_at (Value.agg #[.slice none 0 0, .slice none 0 0, .int .i64 0]).cells n j 1 hj' (by decide)
  have e2 := made_at (Value.agg #[.slice none 0 0, .slice none 0 0, .int .i64 0]).cells n j 2 hj' (by decide)
  rw [List.getElem_replicate]
  exact ⟨.slice none 0 0, .slice none 0 0, e0, e1, e2, ⟨[], ⟨rfl, .inl ⟨rfl, rfl⟩⟩, (fun j hj => absurd hj (by simp [zT])), (fun i _ _ _ hi => absurd hi (by simp [zT])), (fun i _ hi => absurd hi (by simp [zT])), fun g hg => by cases hg⟩, ⟨rfl, .inl ⟨rfl, rfl⟩⟩, fun g hg => by cases hg⟩
/-- Part n is another one, whose updates are new. -/
theorem OwnPs.put {w3 w4 : World} {B g l c c' n : Nat} {A : Option Addr} {ps : List Part} {p : Part} (h : OwnPs (fun _ => 0) 0 w3 B (.slice (some ⟨g, 0, none⟩) l c) ps) (hn : n < ps.length) (d : Below w3.heap.size w3 w4) (hB : B ≤ w3.heap.size) (hu : OwnUps w4 w3.heap.size (.slice A p.us.length c') p.us) (hc : p.us.length ≤ c') :
    (∃ v, w4.cell? ⟨g, n * 2, none⟩ = some v) ∧ (∃ v, w4.cell? ⟨g, n * 2 + 1, none⟩ = some v) ∧ (∀ o, w4.frozen? ⟨g, o, none⟩ = false) ∧ B ≤ g ∧
      OwnPs (fun _ => 0) 0 ((w4.setCell ⟨g, n * 2, none⟩ (.int .i64 p.s)).setCell ⟨g, n * 2 + 1, none⟩ (.slice A p.us.length c')) B (.slice (some ⟨g, 0, none⟩) l c) (ps.set n p) := by
  obtain rfl := h.len_
  obtain ⟨xs, h1, h2, h3, h4, h5⟩ := h
  have hl : xs.length = ps.length * 2 := h1.1
  have hrow := own_below h1 d (Nat.le_refl _)
  have s1 := (World.ownsRow.stored hrow (n * 2) (.int .i64 p.s)).1
  have s2 := (World.ownsRow.stored s1 (n * 2 + 1) (.slice A p.us.length c')).1
  have keep : ∀ {u : Value} {us : List Up}, OwnUps w4 B u us → OwnUps ((w4.setCell ⟨g, n * 2, none⟩ (.int .i64 p.s)).setCell ⟨g, n * 2 + 1, none⟩ (.slice A p.us.length c')) B u us := fun h =>
    row_far_type (row_far_type h (by decide) (but_set _ g _ _) (row_typed hrow)) (by decide) (but_set _ g _ _) (row_typed s1)
  have t : ∀ j e, j < ps.length → e < 2 → j ≠ n → ((xs.set (n * 2) (.int .i64 p.s)).set (n * 2 + 1) (.slice A p.us.length c'))[j * 2 + e]? = xs[j * 2 + e]? := fun j e hj he hne => by
    rw [List.getElem?_set_ne (by omega), List.getElem?_set_ne (by omega)]
  have tn : ((xs.set (n * 2) (.int .i64 p.s)).set (n * 2 + 1) (.slice A p.us.length c'))[n * 2 + 1]? = some (.slice A p.us.length c') := by
    rw [List.getElem?_set_self (by simp; omega)]
  have low : ∀ j v, j < ps.length → xs[j * 2 + 1]? = some v → Ap2P v (.slice A p.us.length c') := fun j v hj hv q q1 q2 => by
    obtain ⟨A', c2, r0, r1, r2, r3⟩ := h2 j hj
    rw [r1] at hv
    injection hv with hv
    subst hv
    have := (World.ownsRow.lt r3 q q1).2
    have := hu.lt q q2
    omega
  refine ⟨⟨_, (World.ownsRow.cellAt hrow _ (by omega)).trans (List.getElem?_eq_getElem (by omega))⟩, ⟨_, (World.ownsRow.cellAt hrow _ (by omega)).trans (List.getElem?_eq_getElem (by omega))⟩, fun o => World.ownsRow.frozenAt hrow o, (World.ownsRow.lt h1 g rfl).1, _, by rw [List.length_set]; exact s2, fun j hj => ?_, fun i j v u hi hj hij hv hu' => ?_, fun _ _ _ _ _ _ => rfl, fun _ _ => rfl⟩
  · have hj' : j < ps.length := by rw [List.length_set] at hj; exact hj
    rw [List.getElem_set]
    by_cases e : n = j
    · subst e
      rw [if_pos rfl]
      refine ⟨A, c', ?_, tn, hc, keep (hu.base hB)⟩
      rw [List.getElem?_set_ne (by omega), List.getElem?_set_self (by omega)]
    · rw [if_neg e]
      obtain ⟨A', c2, r0, r1, r2, r3⟩ := h2 j hj'
      exact ⟨A', c2, by have := t j 0 hj' (by omega) (fun q => e q.symm); simp only [Nat.add_zero] at this; rw [this]; exact r0, by rw [t j 1 hj' (by omega) (fun q => e q.symm)]; exact r1, r2, keep (r3.below d)⟩
  · rw [List.length_set] at hi hj
    by_cases ei : i = n
    · subst ei
      rw [tn] at hv
      injection hv with hv
      subst hv
      rw [t j 1 hj (by omega) (fun q => hij q.symm)] at hu'
      exact (low j u hj hu').symm
    · rw [t i 1 hi (by omega) ei] at hv
      by_cases ej : j = n
      · subst ej
        rw [tn] at hu'
        injection hu' with hu'
        subst hu'
        exact low i v hi hv
      · rw [t j 1 hj (by omega) ej] at hu'
        exact h3 i j v u hi hj hij hv hu'

/-! ### Copies. -/
def NewPart (p : Part) (w : World) (e : Ending) (w' : World) : Prop := ∃ g, e = .returned (.agg #[.int .i64 p.s, .slice (some ⟨g, 0, none⟩) p.us.length p.us.length]) ∧ OwnUps w' w.heap.size (.slice (some ⟨g, 0, none⟩) p.us.length p.us.length) p.us ∧ Below w.heap.size w w'
set_option maxHeartbeats 4000000 in
theorem toPart_any (A : Option Addr) (c : Nat) (p : Part) (w : World) (h : Row w w.heap.size A (upsV p.us)) (hn : p.us.length ≤ 1048576) :
    Calls Try.prog 83 #[.agg #[.int .i64 p.s, .slice A p.us.length c]] w (NewPart p w) := by
  have b1 := (Below.refl w.heap.size w).alloc (Nat.le_refl _) (.cells #[.int .i64 p.s, .slice A p.us.length c] 104)
  have b2 := b1.alloc (by simp) (.cells #[.int .i64 0, .slice none 0 0] 36)
  have b3 := b2.alloc (by simp; omega) (.cells #[.int .i64 p.s, .slice none 0 0] 36)
  have R3 := (Blk2s.new_ (w.alloc (.cells #[.int .i64 p.s, .slice A p.us.length c] 104)) 36 (.int .i64 0) (.slice none 0 0)).alloc (.cells #[.int .i64 p.s, .slice none 0 0] 36)
  have O3 := Blk2s.new_ ((w.alloc (.cells #[.int .i64 p.s, .slice A p.us.length c] 104)).alloc (.cells #[.int .i64 0, .slice none 0 0] 36)) 36 (.int .i64 p.s) (.slice none 0 0)
  simp only [World.size_alloc] at R3 O3
  clear b1 b2
  go_enter Try.func83, Try.ntmps83
  go_wp2_with fail
  refine (toUpdateS_any A c p.us _ ((h.below b3 (Nat.le_refl _)).more b3.size) hn).mono ?_
  rintro e w4 ⟨g1, rfl, m4, hb4⟩
  have b4 := b3.trans (hb4.mono b3.size)
  have R4 := R3.later hb4
  have O4 := O3.later hb4
  have m5 : OwnUps w4 w.heap.size (.slice (some ⟨g1, 0, none⟩) p.us.length p.us.length) p.us := (show OwnUps w4 _ _ _ from m4).base b3.size
  clear R3 O3 b3 hb4 m4
  obtain ⟨o0, o1, of⟩ := id O4.reads
  obtain ⟨r0, r1, rf⟩ := id R4.reads
  have of1 := of 1
  have rf0 := rf 0
  have rf1 := rf 1
  clear of rf
  go_wp2_with fail
  have R5 := R4.far (p := ⟨w.heap.size + 1 + 1, 1, none⟩) (by simp) (.slice (some ⟨g1, 0, none⟩) p.us.length p.us.length)
  have T9 := (R5.set0 (.int .i64 p.s)).set1 (.slice (some ⟨g1, 0, none⟩) p.us.length p.us.length)
  obtain ⟨t0, t1, -⟩ := T9.reads
  have q1 := row_far_type m5 (by decide) (but_set w4 (w.heap.size + 1 + 1) 1 (.slice (some ⟨g1, 0, none⟩) p.us.length p.us.length)) (blk_type O4)
  have q2 := row_far_type q1 (by decide) (but_set _ (w.heap.size + 1) 0 (.int .i64 p.s)) (blk_type R5)
  have q3 := row_far_type q2 (by decide) (but_set _ (w.heap.size + 1) 1 (.slice (some ⟨g1, 0, none⟩) p.us.length p.us.length)) (blk_type (R5.set0 _))
  have b9 := ((b4.setCell (p := ⟨w.heap.size + 1 + 1, 1, none⟩) (by show w.heap.size ≤ w.heap.size + 1 + 1; omega) (.slice (some ⟨g1, 0, none⟩) p.us.length p.us.length)).setCell (p := ⟨w.heap.size + 1, 0, none⟩) (Nat.le_succ _) (.int .i64 p.s)).setCell (p := ⟨w.heap.size + 1, 1, none⟩) (Nat.le_succ _) (.slice (some ⟨g1, 0, none⟩) p.us.length p.us.length)
  exact bodyPost_ret (v := .agg #[.int .i64 p.s, .slice (some ⟨g1, 0, none⟩) p.us.length p.us.length]) (by simp [results, Try.results83, go_sem, t0, t1]) rfl ⟨g1, rfl, q3, b9⟩
set_option maxHeartbeats 4000000 in
theorem toPartS_any (A : Option Addr) (c : Nat) (ps : List Part) (w : World) (h : Parts w w.heap.size A ps) (hn : ps.length ≤ 1048576) (hs : ∀ p ∈ ps, p.us.length ≤ 1048576) :
    Calls Try.prog 36 #[.slice A ps.length c] w (NewPs ps w) := by
  obtain ⟨i0, hi, hz0, hz1, hz2⟩ := info_of info_part
  go_enter Try.func36, Try.ntmps36
  go_wp2_with (at_make; go_must (refine wpList_make_full _ rfl (.tmp 6) (.tmp 6) 31 rfl w.heap.size 36 i0 (.agg #[.int .i64 0, .slice none 0 0]) 2 Try.underlying31 hi hz0 hz1 .i64 .i64 ps.length ps.length ps.length rfl rfl rfl rfl (by rw [hz2]; omega) (by unfold maxLen; omega) (Nat.le_refl _) ?_); intro w1 hown hg)
  have hb1 : Below w.heap.size w w1 := (Below.refl _ _).grown hg (Nat.le_refl _) (by simp)
  have f1 : OwnPs (fun _ => 0) 0 w1 w.heap.size (.slice (some ⟨w.heap.size, 0, none⟩) ps.length ps.length) (mixL ps (List.replicate ps.length zP) 0) := by rw [mixL_zero]; exact made_parts hown
  have HL : Hid (ps.length = (List.replicate ps.length zP).length) := by show _ = _; rw [List.length_replicate]
  clear hown hg
  go_loopw [4] (fun i wr => ∃ k : Nat, k ≤ ps.length ∧ i = .int .i64 k ∧ OwnPs (fun _ => 0) 0 wr w.heap.size (.slice (some ⟨w.heap.size, 0, none⟩) ps.length ps.length) (mixL ps (List.replicate ps.length zP) k) ∧ Below w.heap.size w wr) (fun i _ => ps.length - (intOf i).toNat)
  case atStart => exact ⟨0, Nat.zero_le _, rfl, f1, hb1⟩
  case round =>
    clear f1 hb1
    obtain ⟨k, hk, rfl, hf, hb⟩ := hrel
    by_cases hlt : k < ps.length
    · obtain ⟨p, ad, A', c', hre, rfl, ha, g0, g1, -, g4⟩ := (h.on hb).part hlt
      have hsk := hs p (by rw [← hre]; exact List.getElem_mem hlt)
      have k0 : 0 ≤ (k : Int) := by omega
      have k1 : (k : Int) < (ps.length : Int) := by omega
      have HMS : Hid ((mixL ps (List.replicate ps.length zP) k).set k p = mixL ps (List.replicate ps.length zP) (k + 1)) := by
        have := mixL_set (m := k) HL.out (by rw [List.length_replicate]; exact hlt)
        rw [hre] at this
        exact this
      have HML : Hid (k < (mixL ps (List.replicate ps.length zP) k).length) := by
        show _ < _
        rw [mixL_len HL.out, List.length_replicate]
        exact hlt
      clear hre
      go_wp2_with fail
      refine (toPart_any A' c' p wr g4 hsk).mono ?_
      rintro e w2 ⟨g', rfl, o2, d2⟩
      have hb2 := hb.trans (d2.mono hb.size)
      obtain ⟨⟨u0, c0⟩, ⟨u1, c1⟩, cf, hBg, hst⟩ := hf.put HML.out d2 hb.size o2 (Nat.le_refl _)
      rw [HMS.out] at hst
      have cf0 := cf (k * 2)
      have cf1 := cf (k * 2 + 1)
      have HST := hid hst
      clear hf o2 d2 cf g0 g1 g4 hst
      go_wp2_with fail
      go_roundw
      case rel => exact ⟨k + 1, by omega, by go_num, HST.out, (hb2.setCell (Nat.le_refl _) _).setCell (Nat.le_refl _) _⟩
      case measure => simp [intOf]; omega
    · have hk' : k = ps.length := by omega
      subst hk'
      have e : mixL ps (List.replicate ps.length zP) ps.length = ps := by
        have := mixL_done HL.out
        rwa [List.length_replicate] at this
      rw [e] at hf
      go_wp2
      go_ret
      exact ⟨_, rfl, hf, hb⟩
set_option maxHeartbeats 4000000 in
theorem toTxn_any (A : Option Addr) (c : Nat) (A2 : Option Addr) (c2 : Nat) (t : Tx) (w : World) (h : Parts w w.heap.size A t.ps) (hv : Row w w.heap.size A2 (ints t.vs)) (hn : t.ps.length ≤ 1048576) (hs : ∀ p ∈ t.ps, p.us.length ≤ 1048576) (hm : t.vs.length ≤ 1048576) :
    Calls Try.prog 103 #[.agg #[.slice A t.ps.length c, .slice A2 t.vs.length c2, .int .i64 t.d]] w (NewTx t w) := by
  have b1 := (Below.refl w.heap.size w).alloc (Nat.le_refl _) (.cells #[.slice A t.ps.length c, .slice A2 t.vs.length c2, .int .i64 t.d] 131)
  have b2 := b1.alloc (by simp) (.cells #[.slice none 0 0, .slice none 0 0, .int .i64 0] 33)
  have b3 := b2.alloc (by simp; omega) (.cells #[.slice none 0 0, .slice none 0 0, .int .i64 0] 33)
  have X3 := ((Blk3s.new_ w 131 (.slice A t.ps.length c) (.slice A2 t.vs.length c2) (.int .i64 t.d)).alloc (.cells #[.slice none 0 0, .slice none 0 0, .int .i64 0] 33)).alloc (.cells #[.slice none 0 0, .slice none 0 0, .int .i64 0] 33)
  have R3 := (Blk3s.new_ (w.alloc (.cells #[.slice A t.ps.length c, .slice A2 t.vs.length c2, .int .i64 t.d] 131)) 33 (.slice none 0 0) (.slice none 0 0) (.int .i64 0)).alloc (.cells #[.slice none 0 0, .slice none 0 0, .int .i64 0] 33)
  have O3 := Blk3s.new_ ((w.alloc (.cells #[.slice A t.ps.length c, .slice A2 t.vs.length c2, .int .i64 t.d] 131)).alloc (.cells #[.slice none 0 0, .slice none 0 0, .int .i64 0] 33)) 33 (.slice none 0 0) (.slice none 0 0) (.int .i64 0)
  simp only [World.size_alloc] at R3 O3
  clear b1 b2
  go_enter Try.func103, Try.ntmps103
  go_wp2_with fail
  refine (toPartS_any A c t.ps _ (h.on b3) hn hs).mono ?_
  rintro e w4 ⟨v1, rfl, m4, hb4⟩
  obtain ⟨A1, c1, rfl, -, -⟩ := m4.form
  have b4 := b3.trans (hb4.mono b3.size)
  have R4 := R3.later hb4
  have O4 := O3.later hb4
  have X4 := X3.later hb4
  have m5 := m4.base (B' := w.heap.size) b3.size
  obtain ⟨o0, o1, o2, of⟩ := id O4.reads
  obtain ⟨x0, x1, x2, -⟩ := id X4.reads
  have of0 := of 0
  have O5 := O4.set0 (.slice A1 t.ps.length c1)
  have R5 := R4.far (p := ⟨w.heap.size + 1 + 1, 0, none⟩) (by simp) (.slice A1 t.ps.length c1)
  have X5 := X4.far (p := ⟨w.heap.size + 1 + 1, 0, none⟩) (by simp; omega) (.slice A1 t.ps.length c1)
  have m6 := m5.keptT (by decide) (by decide) (by decide) (but_set w4 (w.heap.size + 1 + 1) 0 (.slice A1 t.ps.length c1)) (blk_type O4)
  have b5 := b4.setCell (p := ⟨w.heap.size + 1 + 1, 0, none⟩) (by show w.heap.size ≤ w.heap.size + 1 + 1; omega) (.slice A1 t.ps.length c1)
  clear R3 O3 X3 b3 hb4 m4 of
  go_wp2_with fail
  obtain ⟨w5, hw5⟩ : ∃ x, w4.setCell ⟨w.heap.size + 1 + 1, 0, none⟩ (.slice A1 t.ps.length c1) = x := ⟨_, rfl⟩
  rw [hw5] at O5 R5 X5 m6 b5 ⊢
  clear hw5 o0 o1 o2 of0 x0 x1 x2 O4 R4 X4 m5 b4
  refine (toIntS_any w.heap.size A2 c2 t.vs w5 (hv.below b5 (Nat.le_refl _)) b5.size hm).mono ?_
  rintro e w6 ⟨g2, rfl, m7, d6⟩
  have b6 := b5.trans (d6.mono b5.size)
  have R6 := R5.later d6
  have O6 := O5.later d6
  have X6 := X5.later d6
  have m8 := m6.below d6
  have i8 : OwnI w6 w.heap.size (.slice (some ⟨g2, 0, none⟩) t.vs.length t.vs.length) t.vs := OwnI.base (show OwnI w6 w5.heap.size _ _ from m7) b5.size
  obtain ⟨o0, o1, o2, of⟩ := id O6.reads
  obtain ⟨x0, x1, x2, -⟩ := id X6.reads
  obtain ⟨r0, r1, r2, rf⟩ := id R6.reads
  have of1 := of 1
  have of2 := of 2
  have rf0 := rf 0
  have rf1 := rf 1
  have rf2 := rf 2
  clear of rf R5 O5 X5 m6 b5 m7 d6
  go_wp2_with fail
  have O7 := O6.set1 (.slice (some ⟨g2, 0, none⟩) t.vs.length t.vs.length)
  have R7 := (R6.far (p := ⟨w.heap.size + 1 + 1, 1, none⟩) (by simp) (.slice (some ⟨g2, 0, none⟩) t.vs.length t.vs.length)).far (p := ⟨w.heap.size + 1 + 1, 2, none⟩) (by simp) (.int .i64 t.d)
  have R8 := R7.set0 (.slice A1 t.ps.length c1)
  have R9 := R8.set1 (.slice (some ⟨g2, 0, none⟩) t.vs.length t.vs.length)
  obtain ⟨t0, t1, t2, -⟩ := (R9.set2 (.int .i64 t.d)).reads
  have q1 := m8.keptT (by decide) (by decide) (by decide) (but_set w6 (w.heap.size + 1 + 1) 1 (.slice (some ⟨g2, 0, none⟩) t.vs.length t.vs.length)) (blk_type O6)
  have q2 := q1.keptT (by decide) (by decide) (by decide) (but_set _ (w.heap.size + 1 + 1) 2 (.int .i64 t.d)) (blk_type O7)
  have q3 := q2.keptT (by decide) (by decide) (by decide) (but_set _ (w.heap.size + 1) 0 (.slice A1 t.ps.length c1)) (blk_type R7)
  have q4 := q3.keptT (by decide) (by decide) (by decide) (but_set _ (w.heap.size + 1) 1 (.slice (some ⟨g2, 0, none⟩) t.vs.length t.vs.length)) (blk_type R8)
  have q5 := q4.keptT (by decide) (by decide) (by decide) (but_set _ (w.heap.size + 1) 2 (.int .i64 t.d)) (blk_type R9)
  have j1 := row_far_type i8 (by decide) (but_set w6 (w.heap.size + 1 + 1) 1 (.slice (some ⟨g2, 0, none⟩) t.vs.length t.vs.length)) (blk_type O6)
  have j2 := row_far_type j1 (by decide) (but_set _ (w.heap.size + 1 + 1) 2 (.int .i64 t.d)) (blk_type O7)
  have j3 := row_far_type j2 (by decide) (but_set _ (w.heap.size + 1) 0 (.slice A1 t.ps.length c1)) (blk_type R7)
  have j4 := row_far_type j3 (by decide) (but_set _ (w.heap.size + 1) 1 (.slice (some ⟨g2, 0, none⟩) t.vs.length t.vs.length)) (blk_type R8)
  have j5 := row_far_type j4 (by decide) (but_set _ (w.heap.size + 1) 2 (.int .i64 t.d)) (blk_type R9)
  have b9 := ((((b6.setCell (p := ⟨w.heap.size + 1 + 1, 1, none⟩) (by show w.heap.size ≤ w.heap.size + 1 + 1; omega) (.slice (some ⟨g2, 0, none⟩) t.vs.length t.vs.length)).setCell (p := ⟨w.heap.size + 1 + 1, 2, none⟩) (by show w.heap.size ≤ w.heap.size + 1 + 1; omega) (.int .i64 t.d)).setCell (p := ⟨w.heap.size + 1, 0, none⟩) (Nat.le_succ _) (.slice A1 t.ps.length c1)).setCell (p := ⟨w.heap.size + 1, 1, none⟩) (Nat.le_succ _) (.slice (some ⟨g2, 0, none⟩) t.vs.length t.vs.length)).setCell (p := ⟨w.heap.size + 1, 2, none⟩) (Nat.le_succ _) (.int .i64 t.d)
  exact bodyPost_ret (v := .agg #[.slice A1 t.ps.length c1, .slice (some ⟨g2, 0, none⟩) t.vs.length t.vs.length, .int .i64 t.d]) (by simp [results, Try.results103, go_sem, t0, t1, t2]) rfl ⟨_, _, rfl, ⟨q5, j5, fun _ _ => rfl⟩, b9⟩
set_option maxHeartbeats 4000000 in
theorem toTxnS_any (A : Option Addr) (c : Nat) (ts : List Tx) (w : World) (h : Txs w w.heap.size A ts) (hn : ts.length ≤ 1048576) (hps : ∀ t ∈ ts, t.ps.length ≤ 1048576 ∧ t.vs.length ≤ 1048576) (hus : ∀ t ∈ ts, ∀ p ∈ t.ps, p.us.length ≤ 1048576) :
    Calls Try.prog 77 #[.slice A ts.length c] w (fun e w' => ∃ v col, e = .returned v ∧ OwnTxs col w' w.heap.size v ts ∧ Below w.heap.size w w') := by
  obtain ⟨i0, hi, hz0, hz1, hz2⟩ := info_of info_txn
  go_enter Try.func77, Try.ntmps77
  go_wp2_with (at_make; go_must (refine wpList_make_full _ rfl (.tmp 6) (.tmp 6) 23 rfl w.heap.size 33 i0 (.agg #[.slice none 0 0, .slice none 0 0, .int .i64 0]) 3 Try.underlying23 hi hz0 hz1 .i64 .i64 ts.length ts.length ts.length rfl rfl rfl rfl (by rw [hz2]; omega) (by unfold maxLen; omega) (Nat.le_refl _) ?_); intro w1 hown hg)
  have hb1 : Below w.heap.size w w1 := (Below.refl _ _).grown hg (Nat.le_refl _) (by simp)
  have f1 : OwnTxs (fun _ => 1) w1 w.heap.size (.slice (some ⟨w.heap.size, 0, none⟩) ts.length ts.length) (mixL ts (List.replicate ts.length zT) 0) := by rw [mixL_zero]; exact made_txs hown
  have HL : Hid (ts.length = (List.replicate ts.length zT).length) := by show _ = _; rw [List.length_replicate]
  clear hown hg
  go_loopw [4] (fun i wr => ∃ (k : Nat) (col : Nat → Nat), k ≤ ts.length ∧ i = .int .i64 k ∧ OwnTxs col wr w.heap.size (.slice (some ⟨w.heap.size, 0, none⟩) ts.length ts.length) (mixL ts (List.replicate ts.length zT) k) ∧ Below w.heap.size w wr) (fun i _ => ts.length - (intOf i).toNat)
  case atStart => exact ⟨0, _, Nat.zero_le _, rfl, f1, hb1⟩
  case round =>
    clear f1 hb1
    obtain ⟨k, col, hk, rfl, hf, hb⟩ := hrel
    by_cases hlt : k < ts.length
    · obtain ⟨t, ad, A1, c1, B1, e1, hre, rfl, ha, g0, g1, g2, -, -, g5, g6⟩ := (h.on hb).tx hlt
      have hps' := hps t (by rw [← hre]; exact List.getElem_mem hlt)
      have hus' := hus t (by rw [← hre]; exact List.getElem_mem hlt)
      have k0 : 0 ≤ (k : Int) := by omega
      have k1 : (k : Int) < (ts.length : Int) := by omega
      have HMS : Hid ((mixL ts (List.replicate ts.length zT) k).set k t = mixL ts (List.replicate ts.length zT) (k + 1)) := by
        have := mixL_set (m := k) HL.out (by rw [List.length_replicate]; exact hlt)
        rw [hre] at this
        exact this
      have hll : (mixL ts (List.replicate ts.length zT) k).length = ts.length := by rw [mixL_len HL.out, List.length_replicate]
      have HLL := hid hll
      clear hre hll
      go_wp2_with fail
      refine (toTxn_any A1 c1 B1 e1 t wr g5 g6 hps'.1 hus' hps'.2).mono ?_
      rintro e w2 ⟨a, b, rfl, o2, d2⟩
      have hb2 := hb.trans (d2.mono hb.size)
      have hf' : OwnTxs col wr w.heap.size (.slice (some ⟨w.heap.size, 0, none⟩) (mixL ts (List.replicate ts.length zT) k).length ts.length) (mixL ts (List.replicate ts.length zT) k) := by rw [HLL.out]; exact hf
      obtain ⟨⟨a0, b0, c0, c1, c2⟩, cf, hst⟩ := hf'.put (n := k) (by rw [HLL.out]; exact hlt) d2 hb.size o2
      rw [HMS.out, HLL.out] at hst
      have cf0 := cf (k * 3)
      have cf1 := cf (k * 3 + 1)
      have cf2 := cf (k * 3 + 2)
      obtain ⟨u2, cu2⟩ : ∃ u, w2.cell? ⟨w.heap.size, k * 3 + 2, none⟩ = some u := ⟨_, c2⟩
      have HST := hid hst
      obtain ⟨Aa, ca, Ab, cb, rfl, rfl, -⟩ := o2.form
      clear hf hf' o2 d2 cf g0 g1 g2 g5 g6 hst c2
      go_wp2_with fail
      go_roundw
      case rel => exact ⟨k + 1, _, by omega, by go_num, HST.out, ((hb2.setCell (Nat.le_refl _) _).setCell (Nat.le_refl _) _).setCell (Nat.le_refl _) _⟩
      case measure => simp [intOf]; omega
    · have hk' : k = ts.length := by omega
      subst hk'
      have e : mixL ts (List.replicate ts.length zT) ts.length = ts := by
        have := mixL_done HL.out
        rwa [List.length_replicate] at this
      rw [e] at hf
      go_wp2
      go_ret
      exact ⟨_, col, rfl, hf, hb⟩
set_option maxHeartbeats 4000000 in
theorem toCoordinator_any (v : Value) (q : Crd) (w : World) (h : Crdd w w.heap.size v q) (hf : FitC q) :
    Calls Try.prog 32 #[v] w (NewCr q w) := by
  obtain ⟨A, c, A2, c2, rfl, hT, hc, hO, hc2⟩ := h
  have f2 := hf.os
  unfold crV
  have b3 := (((Below.refl w.heap.size w).alloc (Nat.le_refl _) (.cells #[.slice A q.ts.length c, .slice A2 q.os.length c2] 56)).alloc (by simp) (.cells #[.slice none 0 0, .slice none 0 0] 26)).alloc (by simp; omega) (.cells #[.slice none 0 0, .slice none 0 0] 26)
  have X3 := ((Blk2s.new_ w 56 (.slice A q.ts.length c) (.slice A2 q.os.length c2)).alloc (.cells #[.slice none 0 0, .slice none 0 0] 26)).alloc (.cells #[.slice none 0 0, .slice none 0 0] 26)
  have R3 := (Blk2s.new_ (w.alloc (.cells #[.slice A q.ts.length c, .slice A2 q.os.length c2] 56)) 26 (.slice none 0 0) (.slice none 0 0)).alloc (.cells #[.slice none 0 0, .slice none 0 0] 26)
  have O3 := Blk2s.new_ ((w.alloc (.cells #[.slice A q.ts.length c, .slice A2 q.os.length c2] 56)).alloc (.cells #[.slice none 0 0, .slice none 0 0] 26)) 26 (.slice none 0 0) (.slice none 0 0)
  simp only [World.size_alloc] at R3 O3
  go_enter Try.func32, Try.ntmps32
  go_wp2_with fail
  refine (toTxnS_any A c q.ts _ (hT.on b3) hf.ts hf.ps hf.us).mono ?_
  rintro e w4 ⟨v1, col, rfl, m4, hb4⟩
  obtain ⟨A1, c1, rfl, -, -⟩ := m4.form
  have b4 := b3.trans (hb4.mono b3.size)
  have R4 := R3.later hb4
  have O4 := O3.later hb4
  have X4 := X3.later hb4
  have m5 := m4.base (B' := w.heap.size) b3.size
  obtain ⟨o0, o1, of⟩ := id O4.reads
  obtain ⟨x0, x1, -⟩ := id X4.reads
  have of0 := of 0
  have O5 := O4.set0 (.slice A1 q.ts.length c1)
  have R5 := R4.far (p := ⟨w.heap.size + 1 + 1, 0, none⟩) (by simp) (.slice A1 q.ts.length c1)
  have X5 := X4.far (p := ⟨w.heap.size + 1 + 1, 0, none⟩) (by simp; omega) (.slice A1 q.ts.length c1)
  have m6 := m5.keptT (by decide) (by decide) (by decide) (by decide) (but_set w4 (w.heap.size + 1 + 1) 0 (.slice A1 q.ts.length c1)) (blk_type O4)
  have b5 := b4.setCell (p := ⟨w.heap.size + 1 + 1, 0, none⟩) (by show w.heap.size ≤ w.heap.size + 1 + 1; omega) (.slice A1 q.ts.length c1)
  clear R3 O3 X3 b3 hb4 m4 of
  go_wp2_with fail
  obtain ⟨w5, hw5⟩ : ∃ x, w4.setCell ⟨w.heap.size + 1 + 1, 0, none⟩ (.slice A1 q.ts.length c1) = x := ⟨_, rfl⟩
  rw [hw5] at O5 R5 X5 m6 b5 ⊢
  clear hw5 o0 o1 of0 x0 x1 O4 R4 X4 m5 b4
  refine (toIntS_any w.heap.size A2 c2 q.os w5 (hO.below b5 (Nat.le_refl _)) b5.size f2).mono ?_
  rintro e w6 ⟨g2, rfl, m7, d6⟩
  have b6 := b5.trans (d6.mono b5.size)
  have R6 := R5.later d6
  have O6 := O5.later d6
  have m8 := m6.below d6
  have i7 : OwnI w6 w5.heap.size (.slice (some ⟨g2, 0, none⟩) q.os.length q.os.length) q.os := m7
  have i8 : OwnI w6 w.heap.size (.slice (some ⟨g2, 0, none⟩) q.os.length q.os.length) q.os := OwnI.base i7 b5.size
  obtain ⟨o0, o1, of⟩ := id O6.reads
  obtain ⟨r0, r1, rf⟩ := id R6.reads
  have of1 := of 1
  have rf0 := rf 0
  have rf1 := rf 1
  have m9 : OwnTxs (tint w5 col 0) w6 w.heap.size (.slice A1 q.ts.length c1) q.ts := m6.map (fun _ _ _ _ _ _ _ hr hcv => ⟨own_below hr d6 (Nat.le_refl _), tint_old hr hcv⟩) fun _ _ _ _ hr hcv => ⟨own_below hr d6 (Nat.le_refl _), tint_old hr hcv⟩
  clear of rf R5 O5 X5 m7 d6
  go_wp2_with fail
  have R7 := R6.far (p := ⟨w.heap.size + 1 + 1, 1, none⟩) (by simp) (.slice (some ⟨g2, 0, none⟩) q.os.length q.os.length)
  have R8 := R7.set0 (.slice A1 q.ts.length c1)
  obtain ⟨t0, t1, -⟩ := (R8.set1 (.slice (some ⟨g2, 0, none⟩) q.os.length q.os.length)).reads
  have q1 := m9.keptT (by decide) (by decide) (by decide) (by decide) (but_set w6 (w.heap.size + 1 + 1) 1 (.slice (some ⟨g2, 0, none⟩) q.os.length q.os.length)) (blk_type O6)
  have q2 := q1.keptT (by decide) (by decide) (by decide) (by decide) (but_set _ (w.heap.size + 1) 0 (.slice A1 q.ts.length c1)) (blk_type R7)
  have q3 := q2.keptT (by decide) (by decide) (by decide) (by decide) (but_set _ (w.heap.size + 1) 1 (.slice (some ⟨g2, 0, none⟩) q.os.length q.os.length)) (blk_type R8)
  have j1 := row_far_type i8 (by decide) (but_set w6 (w.heap.size + 1 + 1) 1 (.slice (some ⟨g2, 0, none⟩) q.os.length q.os.length)) (blk_type O6)
  have j2 := row_far_type j1 (by decide) (but_set _ (w.heap.size + 1) 0 (.slice A1 q.ts.length c1)) (blk_type R7)
  have j3 := row_far_type j2 (by decide) (but_set _ (w.heap.size + 1) 1 (.slice (some ⟨g2, 0, none⟩) q.os.length q.os.length)) (blk_type R8)
  have b9 := ((b6.setCell (p := ⟨w.heap.size + 1 + 1, 1, none⟩) (by show w.heap.size ≤ w.heap.size + 1 + 1; omega) (.slice (some ⟨g2, 0, none⟩) q.os.length q.os.length)).setCell (p := ⟨w.heap.size + 1, 0, none⟩) (Nat.le_succ _) (.slice A1 q.ts.length c1)).setCell (p := ⟨w.heap.size + 1, 1, none⟩) (Nat.le_succ _) (.slice (some ⟨g2, 0, none⟩) q.os.length q.os.length)
  have hcol : ColV (tint w5 col 0) 0 (.slice (some ⟨g2, 0, none⟩) q.os.length q.os.length) := tint_new i7
  exact bodyPost_ret (v := .agg #[.slice A1 q.ts.length c1, .slice (some ⟨g2, 0, none⟩) q.os.length q.os.length]) (by simp [results, Try.results32, go_sem, t0, t1]) rfl ⟨_, _, rfl, ⟨_, _, rfl, q3, j3, hcol⟩, b9⟩
end Go.Proofs.Ytelmeknpmlbplaa
