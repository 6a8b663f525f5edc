/-
  Walks: matching by closures, as the program does it.
-/
import Derived.Test.YtdjfglebnblfkabDoorNamM
namespace Go.Proofs.YtdjfglebnblfkabDoor
open Go.RowKit Wo Pu Nm

/-! ### How many parts. -/
set_option maxHeartbeats 1000000 in
theorem countMatches_is (b : Bool) (g c n : Nat) (ts : List ByteArray) (w : World) (hc : ∀ k (hk : k < ts.length), w.cell? ⟨g, k, none⟩ = some (.string ts[k])) (h0 : 0 < ts.length) (h1 : ts.length ≤ 1048601)
    (hb : b = true ↔ ts.length = n ∨ (ts.length < n ∧ ts.getLast? = some starB)) :
    Calls Tryd.prog 34 #[.slice (some ⟨g, 0, none⟩) ts.length c, .int .i64 n] w (Same (.bool b) w) := by
  obtain ⟨m, hm⟩ : ∃ m, ts.length = m + 1 := ⟨ts.length - 1, by omega⟩
  obtain ⟨t, ht⟩ : ∃ t, ts[m]'(by omega) = t := ⟨_, rfl⟩
  have hlast : ts.getLast? = some t := by rw [List.getLast?_eq_getElem?, show ts.length - 1 = m from by omega, List.getElem?_eq_getElem (by omega), ht]
  have q0 : w.cell? ⟨g, m, none⟩ = some (.string t) := by rw [hc m (by omega), ht]
  rw [hlast] at hb
  have q1 : IntKind.i64.wrap ((ts.length : Int) - 1) = (m : Int) := by rw [IntWalk.i64_in _ (by omega)]; omega
  have q2 : (ts.length : Int) - 1 = (m : Int) := by omega
  have q3 : (m : Int) < (ts.length : Int) := by omega
  have HB := hid hb
  clear hc ht hb hlast
  by_cases h42 : t = starB
  · have f1 : (t.toList == [42]) = true := (eq_star _).2 h42
    by_cases hle : ts.length ≤ n
    · have F := hid (HB.out.2 (by rcases Nat.lt_or_ge ts.length n with h | h; exact .inr ⟨h, by rw [h42]⟩; exact .inl (by omega)))
      have e0 : decide ((ts.length : Int) ≤ (n : Int)) = true := decide_eq_true (by omega)
      clear HB h42 hm
      go_enter Tryd.func34, Tryd.ntmps34
      go_wp2
      go_ret
      rw [F.out]
      exact ⟨rfl, rfl⟩
    · have F : Hid (b = false) := by
        show b = false
        rw [← Bool.not_eq_true]
        intro e
        rcases HB.out.1 e with h | h <;> omega
      have e0 : decide ((ts.length : Int) ≤ (n : Int)) = false := decide_eq_false (by omega)
      have e1 : decide (ts.length ≤ n) = false := decide_eq_false hle
      clear HB h42 hm
      go_enter Tryd.func34, Tryd.ntmps34
      go_wp2
      go_ret
      rw [F.out]
      exact ⟨rfl, rfl⟩
  · have f1 : (t.toList == [42]) = false := (ne_star _).2 h42
    by_cases hle : ts.length = n
    · have F := hid (HB.out.2 (.inl hle))
      have e0 : ((ts.length : Int) == (n : Int)) = true := by rw [beq_iff_eq]; omega
      clear HB h42 hm hle
      go_enter Tryd.func34, Tryd.ntmps34
      go_wp2
      go_ret
      rw [F.out]
      exact ⟨rfl, rfl⟩
    · have F : Hid (b = false) := by
        show b = false
        rw [← Bool.not_eq_true]
        intro e
        rcases HB.out.1 e with h | ⟨_, h⟩
        · exact hle h
        · injection h with h; exact h42 h
      have e0 : ((ts.length : Int) == (n : Int)) = false := by rw [beq_eq_false_iff_ne]; omega
      clear HB h42 hm hle
      go_enter Tryd.func34, Tryd.ntmps34
      go_wp2
      go_ret
      rw [F.out]
      exact ⟨rfl, rfl⟩

/-! ### The closures. -/
/-- A box with a text. -/
def Bx (w : World) (g : Nat) (t : ByteArray) : Prop := w.heap[g]? = some (.cells #[.string t] 9 (0, 0))
theorem Bx.lt {w : World} {g : Nat} {t : ByteArray} (h : Bx w g t) : g < w.heap.size := (Array.getElem?_eq_some_iff.1 h).1
theorem Bx.cell {w : World} {g : Nat} {t : ByteArray} (h : Bx w g t) : w.cell? ⟨g, 0, none⟩ = some (.string t) := by simp [World.cell?, show w.heap[g]? = _ from h]
theorem Bx.new_ (w : World) (t : ByteArray) : Bx (w.alloc (.cells #[.string t] 9)) w.heap.size t := heap_alloc_new w _
theorem Bx.below {w w' : World} {g C : Nat} {t : ByteArray} (h : Bx w g t) (hb : Below C w w') (hC : g < C) : Bx w' g t := (hb.block g hC).trans h
theorem Bx.kept {w w' : World} {g : Nat} {t : ByteArray} {row : Option Nat} (h : Bx w g t) (hg : w.grownBy w' row) (hne : some g ≠ row) : Bx w' g t := (hg.block g h.lt hne).trans h
theorem Bx.not_row {w : World} {g n B : Nat} {t : ByteArray} {v : Value} {xs : List Value} (h : Bx w g t) (hr : w.ownsRow B 31 1 v n xs) : some g ≠ v.ownBlock := by
  rcases hr.2 with ⟨rfl, _⟩ | ⟨g', cap, cur, rfl, _, hgb, _⟩
  · simp [Value.ownBlock]
  · intro e
    injection e with e
    have e2 : g = g' := e
    subst e2
    have h2 := h.symm.trans hgb
    injection h2 with h2
    injection h2 with _ h2
    cases h2
/-- What matches the part t. -/
def MFn (w : World) (v : Value) (t : ByteArray) : Prop := (t = starB ∧ v = .func (.func 48) #[] #[]) ∨ (t ≠ starB ∧ ∃ g, v = .func (.func 49) #[] #[.pointer (some ⟨g, 0, none⟩)] ∧ Bx w g t)
theorem MFn.below {w w' : World} {v : Value} {t : ByteArray} (h : MFn w v t) (hb : Below w.heap.size w w') : MFn w' v t := by
  rcases h with h | ⟨h1, g, h2, h3⟩
  · exact .inl h
  · exact .inr ⟨h1, g, h2, h3.below hb h3.lt⟩
theorem MFn.kept {w w' : World} {v u : Value} {t : ByteArray} {B n : Nat} {xs : List Value} (h : MFn w v t) (hr : w.ownsRow B 31 1 u n xs) (hg : w.grownBy w' u.ownBlock) : MFn w' v t := by
  rcases h with h | ⟨h1, g, h2, h3⟩
  · exact .inl h
  · exact .inr ⟨h1, g, h2, h3.kept hg (h3.not_row hr)⟩
theorem MFn.one {w : World} {v : Value} {t : ByteArray} (h : MFn w v t) : v.oneCell' = true := by
  rcases h with ⟨_, rfl⟩ | ⟨_, g, rfl, _⟩ <;> rfl
theorem partMatcher_any (t : ByteArray) (w : World) :
    Calls Tryd.prog 41 #[.string t] w (fun e w' => ∃ v, e = .returned v ∧ MFn w' v t ∧ Below w.heap.size w w') := by
  have al := (Below.refl w.heap.size w).alloc (Nat.le_refl _) (.cells #[.string t] 9)
  have bx := Bx.new_ w t
  have cx := bx.cell
  by_cases h42 : t = starB
  · have f1 : (t.toList == [42]) = true := (eq_star _).2 h42
    have H := hid h42
    clear h42
    go_enter Tryd.func41, Tryd.ntmps41
    go_wp2
    go_ret
    exact ⟨_, rfl, .inl ⟨H.out, rfl⟩, al⟩
  · have f1 : (t.toList == [42]) = false := (ne_star _).2 h42
    have H := hid h42
    clear h42
    go_enter Tryd.func41, Tryd.ntmps41
    go_wp2
    go_ret
    exact ⟨_, rfl, .inr ⟨H.out, _, rfl, bx⟩, al⟩
theorem clo1_any (x : ByteArray) (w : World) : Calls Tryd.prog 48 #[.string x] w (Same (.bool true) w) := by
  go_enter Tryd.func48, Tryd.ntmps48
  go_wp2
  go_ret
  exact ⟨rfl, rfl⟩
theorem clo2_any (b : Bool) (x t : ByteArray) (g : Nat) (w : World) (hx : Bx w g t) (hb : b = true ↔ x = t) : Calls Tryd.prog 49 #[.string x, .pointer (some ⟨g, 0, none⟩)] w (Same (.bool b) w) := by
  have cx := hx.cell
  have e : (x.toList == t.toList) = b := by
    rw [Bool.eq_iff_iff, eq_toList, hb]
  subst e
  clear hb
  go_enter Tryd.func49, Tryd.ntmps49
  go_wp2
  go_ret
  exact ⟨rfl, rfl⟩

/-! ### All matchers. -/
theorem info_fn : (Tryd.prog.info? 31).map (fun i => (i.zero, i.size, i.bytes)) = some (some .nilFunc, 1, 8) := by kernel_rfl
/-- The matchers fs of the first parts of ts. -/
def MFns (w : World) (fs : List Value) (ts : List ByteArray) : Prop := fs.length ≤ ts.length ∧ ∀ j (h : j < fs.length) (h' : j < ts.length), MFn w fs[j] ts[j]
theorem MFns.nil (w : World) (ts : List ByteArray) : MFns w [] ts := ⟨Nat.zero_le _, fun _ h => absurd h (Nat.not_lt_zero _)⟩
theorem MFns.below {w w' : World} {fs : List Value} {ts : List ByteArray} (h : MFns w fs ts) (hb : Below w.heap.size w w') : MFns w' fs ts := ⟨h.1, fun j h1 h2 => (h.2 j h1 h2).below hb⟩
theorem MFns.kept {w w' : World} {u : Value} {fs : List Value} {ts : List ByteArray} {B n : Nat} {xs : List Value} (h : MFns w fs ts) (hr : w.ownsRow B 31 1 u n xs) (hg : w.grownBy w' u.ownBlock) : MFns w' fs ts := ⟨h.1, fun j h1 h2 => (h.2 j h1 h2).kept hr hg⟩
theorem MFns.snoc {w : World} {fs : List Value} {ts : List ByteArray} {v : Value} (h : MFns w fs ts) (hl : fs.length < ts.length) (hv : MFn w v ts[fs.length]) : MFns w (fs ++ [v]) ts := by
  refine ⟨by rw [List.length_append, List.length_singleton]; omega, fun j h1 h2 => ?_⟩
  rw [List.length_append, List.length_singleton] at h1
  by_cases hj : j < fs.length
  · rw [List.getElem_append_left hj]; exact h.2 j hj h2
  · have : j = fs.length := by omega
    subst this
    simpa using hv
set_option maxRecDepth 100000 in
set_option maxHeartbeats 4000000 in
theorem partMatchers_any (g c : Nat) (ts : List ByteArray) (w : World) (hg : g < w.heap.size) (hc : ∀ k (hk : k < ts.length), w.cell? ⟨g, k, none⟩ = some (.string ts[k])) (h1 : ts.length ≤ 1048601) :
    Calls Tryd.prog 35 #[.slice (some ⟨g, 0, none⟩) ts.length c] w (fun e w' => ∃ A cc fs, e = .returned (.slice A ts.length cc) ∧ fs.length = ts.length ∧ Row w' w'.heap.size A fs ∧ MFns w' fs ts ∧ Below w.heap.size w w') := by
  obtain ⟨i0, hi, hz0, hz1, hz2⟩ := info_of info_fn
  have HC := hid hc
  clear hc
  go_enter Tryd.func35, Tryd.ntmps35
  go_wp2_with fail
  go_loopw [3, 9] (fun v i wr => ∃ (k : Nat) (fs : List Value), k ≤ ts.length ∧ i = .int .i64 k ∧ fs.length = k ∧ wr.ownsRow w.heap.size 31 1 v k fs ∧ Hid (MFns wr fs ts) ∧ Below w.heap.size w wr) (fun _ i _ => ts.length - (intOf i).toNat)
  case atStart => exact ⟨0, [], Nat.zero_le _, rfl, rfl, nil_own (Nat.le_refl _) _ _, .nil _ _, (Below.refl _ _).alloc (Nat.le_refl _) _⟩
  case round =>
    obtain ⟨k, fs, hk, rfl, hfl, ho, HM, hb⟩ := hrel
    have hz := hb.size
    by_cases hlk : k < ts.length
    · have c1 := (hb.cell (p := ⟨g, k, none⟩) hg).trans (HC.out k hlk)
      have HF := hid hfl
      clear hfl
      go_wp2_with fail
      refine (partMatcher_any ts[k] wr).mono ?_
      rintro e w2 ⟨v, rfl, hm, b2⟩
      have ho2 := own_below ho b2 (Nat.le_refl _)
      have hb2 := hb.trans (b2.mono hz)
      have HM2 := HM.out.below b2
      have hz2' := hb2.size
      rcases hm with ⟨hs, rfl⟩ | ⟨hs, gb, rfl, hbx⟩
      · have hm : MFn w2 (.func (.func 48) #[] #[]) ts[k] := .inl ⟨hs, rfl⟩
        clear hs
        have a2 := World.ownsRow.alloc ho2 (.cells #[(Value.func (.func 48) #[] #[])] 31)
        have b3 := hb2.alloc hz2' (.cells #[(Value.func (.func 48) #[] #[])] 31)
        have HM3 := hid ((HM2.snoc (by rw [HF.out]; exact hlk) (by simpa [HF.out] using hm)).below ((Below.refl _ w2).alloc (Nat.le_refl _) (.cells #[(Value.func (.func 48) #[] #[])] 31)))
        have h1c : ∀ u ∈ [((Value.func (.func 48) #[] #[]) : Value)], u.oneCell' = true := by intro u hu; rw [List.mem_singleton.1 hu]; exact hm.one
        have lt1 := World.ownsRow.lt a2
        clear ho hb HM HM2 b2 hm ho2 hb2
        go_wp2_with (at_builtin; go_must (refine wpList_append_own _ rfl _ _ 43 rfl w.heap.size 31 i0 .nilFunc 1 8 Tryd.underlying43 hi hz0 hz1 hz2 rfl (by decide) _ k fs rfl a2 ⟨w2.heap.size, 0, none⟩ 1 1 [(Value.func (.func 48) #[] #[])] rfl rfl (cell_one_new _ _ _) h1c (by unfold maxLen; omega) (by omega) (by simp; omega) ?_); intro u4 w4 hown hg4 _)
        have b4 : Below w.heap.size w w4 := b3.grown hg4 (by simp; omega) (fun j hj => (lt1 j hj).1)
        have HM4 := hid (HM3.out.kept a2 hg4)
        clear hg4 a2 b3 lt1 HM3
        go_wp2
        go_roundw
        case rel => exact ⟨k + 1, fs ++ [(Value.func (.func 48) #[] #[])], by omega, by go_num, by rw [List.length_append, List.length_singleton, HF.out], hown, HM4, b4⟩
        case measure => simp [intOf]; omega
      · have hm : MFn w2 (.func (.func 49) #[] #[.pointer (some ⟨gb, 0, none⟩)]) ts[k] := .inr ⟨hs, gb, rfl, hbx⟩
        clear hs hbx
        have a2 := World.ownsRow.alloc ho2 (.cells #[(Value.func (.func 49) #[] #[.pointer (some ⟨gb, 0, none⟩)])] 31)
        have b3 := hb2.alloc hz2' (.cells #[(Value.func (.func 49) #[] #[.pointer (some ⟨gb, 0, none⟩)])] 31)
        have HM3 := hid ((HM2.snoc (by rw [HF.out]; exact hlk) (by simpa [HF.out] using hm)).below ((Below.refl _ w2).alloc (Nat.le_refl _) (.cells #[(Value.func (.func 49) #[] #[.pointer (some ⟨gb, 0, none⟩)])] 31)))
        have h1c : ∀ u ∈ [((Value.func (.func 49) #[] #[.pointer (some ⟨gb, 0, none⟩)]) : Value)], u.oneCell' = true := by intro u hu; rw [List.mem_singleton.1 hu]; exact hm.one
        have lt1 := World.ownsRow.lt a2
        clear ho hb HM HM2 b2 hm ho2 hb2
        go_wp2_with (at_builtin; go_must (refine wpList_append_own _ rfl _ _ 43 rfl w.heap.size 31 i0 .nilFunc 1 8 Tryd.underlying43 hi hz0 hz1 hz2 rfl (by decide) _ k fs rfl a2 ⟨w2.heap.size, 0, none⟩ 1 1 [(Value.func (.func 49) #[] #[.pointer (some ⟨gb, 0, none⟩)])] rfl rfl (cell_one_new _ _ _) h1c (by unfold maxLen; omega) (by omega) (by simp; omega) ?_); intro u4 w4 hown hg4 _)
        have b4 : Below w.heap.size w w4 := b3.grown hg4 (by simp; omega) (fun j hj => (lt1 j hj).1)
        have HM4 := hid (HM3.out.kept a2 hg4)
        clear hg4 a2 b3 lt1 HM3
        go_wp2
        go_roundw
        case rel => exact ⟨k + 1, fs ++ [(Value.func (.func 49) #[] #[.pointer (some ⟨gb, 0, none⟩)])], by omega, by go_num, by rw [List.length_append, List.length_singleton, HF.out], hown, HM4, b4⟩
        case measure => simp [intOf]; omega
    · have hk' : k = ts.length := by omega
      have HF := hid (hfl.trans hk')
      clear hfl
      subst hk'
      go_wp2
      go_ret
      rcases ho.2 with ⟨rfl, h0⟩ | ⟨g', cap, cur, rfl, _⟩
      · exact ⟨none, 0, fs, by rw [h0]; rfl, HF.out, by have := HF.out; rw [h0] at this; rw [List.eq_nil_of_length_eq_zero this]; exact .inl rfl, HM.out, hb⟩
      · refine ⟨_, _, fs, rfl, HF.out, Row.of_own ho (fun hx => ?_), HM.out, hb⟩
        rw [← HF.out]
        exact List.length_pos_iff.2 hx
end Go.Proofs.YtdjfglebnblfkabDoor
