/-
  Walk: DeltaMake of the program.
-/
import Derived.Test.YtkekbobnbipmoaaList
namespace Go.Proofs.Ytkekbobnbipmoaa
open Go.RowKit Wo Pu

theorem getD_at (s : ByteArray) {k : Nat} (h : k < s.size) : (bl s).getD k 0 = s[k] := by
  have h' : k < (bl s).length := by rw [bl_size]; exact h
  simp only [List.getD, List.getElem?_eq_getElem h', Option.getD_some]
  rfl

set_option maxRecDepth 100000 in
set_option maxHeartbeats 4000000 in
theorem implDeltaMake_any (B T : ByteArray) (w : World) (hB : B.size ≤ 1048576) (hT : T.size ≤ 1048576) :
    Calls Try.prog 70 #[.string B, .string T] w (NewOps (dMake B T) w) := by
  by_cases h8 : B.size ≤ 8
  · by_cases t8 : T.size ≤ 8
    · have lT := hid (bl_size T)
      go_enter Try.func70, Try.ntmps70
      go_wp2_with fail
      have z1 : (w.alloc (.cells #[.pointer none, .pointer none] 111)).heap.size = w.heap.size + 1 := by simp
      have L1 := LL.nil_ (w := w.alloc (.cells #[.pointer none, .pointer none] 111)) (B := w.heap.size) (g := w.heap.size) (heap_alloc_new w _) (Nat.le_refl _)
      have b1 := (Below.refl w.heap.size w).alloc (Nat.le_refl _) (.cells #[.pointer none, .pointer none] 111)
      go_loopw [6] (fun i wr => ∃ (k f : Nat) (os : List Op2) (gs : List Nat), k ≤ T.size ∧ i = .int .i64 k ∧ T.size ≤ k + f ∧ Hid (dMake B T = dMk (bl B) (bl T) f k os) ∧ LL wr w.heap.size w.heap.size os gs ∧ Below w.heap.size w wr ∧ Hid (Inv B T k os)) (fun i _ => T.size - (intOf i).toNat)
      case atStart => exact ⟨0, T.size, [], [], Nat.zero_le _, rfl, by omega, dMake_yes h8 t8, L1, b1, Inv.nil_ B T⟩
      case round =>
        clear L1 b1 z1
        obtain ⟨k, f, os, gs, hk, rfl, hf, HM, hL, hb, HI⟩ := hrel
        by_cases hlt : k < T.size
        · obtain ⟨f, rfl⟩ : ∃ f', f = f' + 1 := ⟨f - 1, by omega⟩
          obtain ⟨a, ha⟩ : ∃ a, Hid (a = (best (bl B) ((bl T).drop k)).1) := ⟨_, rfl⟩
          obtain ⟨n, hn⟩ : ∃ n, Hid (n = (best (bl B) ((bl T).drop k)).2) := ⟨_, rfl⟩
          have hbi := best_is (bl B) ((bl T).drop k)
          rw [← ha.out, ← hn.out, List.length_drop, bl_size, bl_size] at hbi
          obtain ⟨q1, q2, -⟩ := hbi
          have E : Hid (best (bl B) (bl (T.extract k T.size)) = (a, n)) := by show _ = _; rw [bl_tail, ha.out, hn.out]
          have hsz : (T.extract k T.size).size ≤ 8 := by rw [ByteArray.size_extract]; omega
          have HC : 2 ≤ n → Hid (dMake B T = dMk (bl B) (bl T) f (k + n) (os ++ [⟨a, n, ⟨#[]⟩⟩])) := fun h2 => by
            show _ = _
            rw [HM.out, dMk_cop os (by rw [bl_size]; exact hlt) (by rw [← hn.out]; exact h2), ← ha.out, ← hn.out]
          have HCI : 2 ≤ n → Hid (Inv B T (k + n) (os ++ [⟨a, n, ⟨#[]⟩⟩])) := fun h2 => by
            have := HI.out.copy (by rw [← hn.out]; exact h2)
            rw [← ha.out, ← hn.out] at this
            exact this
          have HS : ¬ 2 ≤ n → Hid (dMake B T = dMk (bl B) (bl T) f (k + 1) (addB os T[k])) := fun h2 => by
            show _ = _
            rw [HM.out, dMk_ins os (by rw [bl_size]; exact hlt) (by rw [← hn.out]; exact h2), getD_at T hlt]
          have HSI : Hid (Inv B T (k + 1) (addB os T[k])) := by
            have := HI.out.insert t8 hlt
            rw [getD_at T hlt] at this
            exact this
          have ht : ∀ o ∈ os, o.t.size ≤ 8 := fun o ho => (opf_in (HI.out.fit o ho)).2.2.2
          clear HM HI
          go_wp2_with fail
          refine (implLongest_any B (T.extract k T.size) _ h8 hsz).mono ?_
          rintro e w2 ⟨rfl, h2⟩
          rw [E.out]
          have bd := h2.below wr.heap.size
          have hL2 := hL.below bd (Nat.le_refl _)
          have hb2 := hb.trans (bd.mono hb.size)
          clear h2 bd E hsz hL hb
          by_cases hn2 : 2 ≤ n
          · have H2 := HC hn2
            have I2 := HCI hn2
            clear HC HCI HS HSI
            go_wp2_with fail
            refine (add_any w.heap.size w.heap.size os gs ⟨a, n, ⟨#[]⟩⟩ w2 hL2).mono ?_
            rintro e w3 ⟨rfl, ⟨gs3, hL3⟩, b3⟩
            go_wp2
            go_roundw
            case rel => exact ⟨k + n, f, _, gs3, by omega, by go_num, by omega, H2, hL3, hb2.trans b3, I2⟩
            case measure => simp [intOf]; omega
          · have H2 := HS hn2
            clear HC HCI HS
            go_wp2_with fail
            refine (insertByte_any w.heap.size w.heap.size os gs T[k] w2 hL2 ht).mono ?_
            rintro e w3 ⟨rfl, ⟨gs3, hL3⟩, b3⟩
            go_wp2
            go_roundw
            case rel => exact ⟨k + 1, f, _, gs3, by omega, by go_num, by omega, H2, hL3, hb2.trans b3, HSI⟩
            case measure => simp [intOf]; omega
        · have hk' : k = T.size := by omega
          have HF : Hid (dMake B T = os) := by
            show _ = _
            rw [HM.out, dMk_end _ _ (by rw [bl_size]; exact hlt)]
          have hfew := HI.out.few
          clear HM HI
          subst hk'
          go_wp2_with fail
          refine (ops_any w.heap.size w.heap.size os gs wr hL (by omega)).mono ?_
          rintro e w3 ⟨v, rfl, ho3, b3⟩
          obtain ⟨A, c, rfl, _, _⟩ := ho3.form
          go_wp2
          go_ret
          rw [HF.out]
          exact .mk_ (ho3.base hb.size) (hb.trans (b3.mono hb.size))
    · have HF := hid (dMake_no (base := B) (text := T) fun h => t8 h.2)
      go_enter Try.func70, Try.ntmps70
      go_wp2
      go_ret
      rw [HF.out]
      exact .mk_ (OwnOps.nil_new (Nat.le_refl _)) ((Below.refl _ _).alloc (Nat.le_refl _) _)
  · have HF := hid (dMake_no (base := B) (text := T) fun h => h8 h.1)
    go_enter Try.func70, Try.ntmps70
    go_wp2
    go_ret
    rw [HF.out]
    exact .mk_ (OwnOps.nil_new (Nat.le_refl _)) ((Below.refl _ _).alloc (Nat.le_refl _) _)
end Go.Proofs.Ytkekbobnbipmoaa
