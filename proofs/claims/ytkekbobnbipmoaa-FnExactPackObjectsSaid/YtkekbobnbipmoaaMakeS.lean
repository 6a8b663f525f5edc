/-
  Walk: DeltaMake of the model.
-/
import Derived.Test.YtkekbobnbipmoaaMake
namespace Go.Proofs.Ytkekbobnbipmoaa
open Go.RowKit Wo Pu

theorem opsV_text (ps : List Op2) (o : Op2) (t : ByteArray) : (opsV (ps ++ [o])).set (ps.length * 3 + 2) (.string t) = opsV (ps ++ [⟨o.a, o.n, t⟩]) := by
  rw [opsV_append, opsV_append, opsV_one, opsV_one, List.set_append_right _ _ (by rw [opsV_length]; omega), opsV_length, show ps.length * 3 + 2 - ps.length * 3 = 2 from by omega]
  rfl
theorem OwnOps.text {w : World} {B g c : Nat} {ps : List Op2} {o : Op2} (h : OwnOps w B (.slice (some ⟨g, 0, none⟩) (ps.length + 1) c) (ps ++ [o])) (t : ByteArray) :
    OwnOps (w.setCell ⟨g, ps.length * 3 + 2, none⟩ (.string t)) B (.slice (some ⟨g, 0, none⟩) (ps.length + 1) c) (ps ++ [⟨o.a, o.n, t⟩]) := by
  have h' : w.ownsRow B 99 3 (.slice (some ⟨g, 0, none⟩) (ps.length + 1) c) (ps.length + 1) (opsV (ps ++ [o])) := by
    unfold OwnOps at h
    rw [List.length_append, List.length_singleton] at h
    exact h
  have hs := (World.ownsRow.stored h' (ps.length * 3 + 2) (.string t)).1
  rw [opsV_text] at hs
  unfold OwnOps
  rw [List.length_append, List.length_singleton]
  exact hs
/-- The last operation of a list of the call's own. -/
theorem OwnOps.last {w : World} {B : Nat} {v : Value} {ps : List Op2} {o : Op2} (h : OwnOps w B v (ps ++ [o])) :
    ∃ g c, v = .slice (some ⟨g, 0, none⟩) (ps.length + 1) c ∧ w.cell? ⟨g, ps.length * 3, none⟩ = some (.int .i64 o.a) ∧ w.cell? ⟨g, ps.length * 3 + 1, none⟩ = some (.int .i64 o.n) ∧ w.cell? ⟨g, ps.length * 3 + 2, none⟩ = some (.string o.t) ∧ (∀ j, w.frozen? ⟨g, j, none⟩ = false) ∧ B ≤ g ∧ ps.length + 1 ≤ c := by
  have h1 := h
  rcases h.2 with ⟨rfl, h0⟩ | ⟨g, cap, cur, rfl, hB, hh, hn, _⟩
  · simp at h0
  · refine ⟨g, cap, by simp, ?_, ?_, ?_, fun j => World.ownsRow.frozenAt h1 j, hB, by simpa using hn⟩
    · have := World.ownsRow.cellAt h1 (ps.length * 3) (by simp)
      rw [this, show ps.length * 3 = ps.length * 3 + 0 from rfl, opsV_get (by simp) (by omega)]
      simp [opV]
    · have := World.ownsRow.cellAt h1 (ps.length * 3 + 1) (by simp; omega)
      rw [this, opsV_get (by simp) (by omega)]
      simp [opV]
    · have := World.ownsRow.cellAt h1 (ps.length * 3 + 2) (by simp; omega)
      rw [this, opsV_get (by simp) (by omega)]
      simp [opV]
theorem OwnOps.empty {w : World} {B : Nat} {v : Value} (h : OwnOps w B v []) : ∃ A c, v = .slice A 0 c := by
  obtain ⟨A, c, rfl, _, _⟩ := h.form
  exact ⟨A, c, rfl⟩
theorem OwnOps.app {w w' : World} {B : Nat} {v v' : Value} {os : List Op2} {o : Op2} (h : OwnOps w B v os) (hB : B ≤ w.heap.size)
    (hown : w'.ownsRow B 99 3 v' (os.length + 1) (opsV os ++ [.int .i64 o.a, .int .i64 o.n, .string o.t]))
    (hg : (w.alloc (.cells #[.int .i64 o.a, .int .i64 o.n, .string o.t] 99)).grownBy w' v.ownBlock) : OwnOps w' B v' (os ++ [o]) ∧ Below B w w' := by
  have lt1 := World.ownsRow.lt h
  refine ⟨?_, ((Below.refl B w).alloc hB _).grown hg (by simp; omega) (fun j hj => (lt1 j hj).1)⟩
  unfold OwnOps
  rw [List.length_append, List.length_singleton, opsV_append, opsV_one]
  exact hown
theorem one_text {T X : ByteArray} {k : Nat} (h : bl X = (bl T).drop k) (hk : k < T.size) : X.extract 0 1 = ⟨#[T[k]]⟩ := by
  apply bl_inj
  rw [bl_extract, h, List.drop_zero, bl_one, List.drop_eq_getElem_cons (by rw [bl_size]; exact hk)]
  rfl
theorem rest_text {T X : ByteArray} {k n : Nat} (h : bl X = (bl T).drop k) : bl (X.extract n X.size) = (bl T).drop (k + n) := by rw [bl_tail, h, List.drop_drop]

set_option maxRecDepth 100000 in
set_option maxHeartbeats 4000000 in
theorem specDeltaMake_any (B T : ByteArray) (w : World) (hB : B.size ≤ 1048576) (hT : T.size ≤ 1048576) :
    Calls Try.prog 40 #[.string B, .string T] w (NewOps (dMake B T) w) := by
  by_cases h8 : B.size ≤ 8
  · by_cases t8 : T.size ≤ 8
    · obtain ⟨i0, hi, hz0, hz1, hz2⟩ := info_of info_op
      go_enter Try.func40, Try.ntmps40
      go_wp2_with fail
      go_loopw [1, 5] (fun x v wr => ∃ (X : ByteArray) (k f : Nat) (os : List Op2), k ≤ T.size ∧ x = .string X ∧ X.size + k = T.size ∧ Hid (bl X = (bl T).drop k) ∧ T.size ≤ k + f ∧ Hid (dMake B T = dMk (bl B) (bl T) f k os) ∧ OwnOps wr w.heap.size v os ∧ Below w.heap.size w wr ∧ Hid (Inv B T k os)) (fun x _ _ => match x with | .string s => s.size | _ => 0)
      case atStart => exact ⟨T, 0, T.size, [], Nat.zero_le _, rfl, rfl, rfl, by omega, dMake_yes h8 t8, OwnOps.nil_new (Nat.le_refl _), (Below.refl _ _).alloc (Nat.le_refl _) _, Inv.nil_ B T⟩
      case round =>
        obtain ⟨X, k, f, os, hk, rfl, hX, HX, hf, HM, hv, hb, HI⟩ := hrel
        by_cases hlt : k < T.size
        · obtain ⟨f, rfl⟩ : ∃ f', f = f' + 1 := ⟨f - 1, by omega⟩
          obtain ⟨a, ha⟩ : ∃ a, Hid (a = (best (bl B) ((bl T).drop k)).1) := ⟨_, rfl⟩
          obtain ⟨n, hn⟩ : ∃ n, Hid (n = (best (bl B) ((bl T).drop k)).2) := ⟨_, rfl⟩
          have hbi := best_is (bl B) ((bl T).drop k)
          rw [← ha.out, ← hn.out, List.length_drop, bl_size, bl_size] at hbi
          obtain ⟨q1, q2, -⟩ := hbi
          have E : Hid (best (bl B) (bl X) = (a, n)) := by show _ = _; rw [HX.out, ha.out, hn.out]
          have HC : 2 ≤ n → Hid (dMake B T = dMk (bl B) (bl T) f (k + n) (os ++ [⟨a, n, ⟨#[]⟩⟩])) := fun h2 => by
            show _ = _
            rw [HM.out, dMk_cop os (by rw [bl_size]; exact hlt) (by rw [← hn.out]; exact h2), ← ha.out, ← hn.out]
          have HCI : 2 ≤ n → Hid (Inv B T (k + n) (os ++ [⟨a, n, ⟨#[]⟩⟩])) := fun h2 => by
            have := HI.out.copy (by rw [← hn.out]; exact h2)
            rw [← ha.out, ← hn.out] at this
            exact this
          have HS : ¬ 2 ≤ n → Hid (dMake B T = dMk (bl B) (bl T) f (k + 1) (addB os T[k])) := fun h2 => by
            show _ = _
            rw [HM.out, dMk_ins os (by rw [bl_size]; exact hlt) (by rw [← hn.out]; exact h2), getD_at T hlt]
          have HSI : Hid (Inv B T (k + 1) (addB os T[k])) := by
            have := HI.out.insert t8 hlt
            rw [getD_at T hlt] at this
            exact this
          have ht : ∀ o ∈ os, o.t.size ≤ 8 := fun o ho => (opf_in (HI.out.fit o ho)).2.2.2
          have hfew := HI.out.few
          have HO1 := hid (one_text HX.out hlt)
          have hx8 : X.size ≤ 8 := by omega
          have hx0 : 0 < X.size := by omega
          clear HM HI
          go_wp2_with fail
          refine (specLongest_any B X _ h8 hx8).mono ?_
          rintro e w2 ⟨rfl, h2⟩
          rw [E.out]
          have bd := h2.below wr.heap.size
          have hv2 := hv.below bd
          have hb2 := hb.trans (bd.mono hb.size)
          have hz := hb2.size
          clear h2 bd E hv hb
          by_cases hn2 : 2 ≤ n
          · have H2 := HC hn2
            have I2 := HCI hn2
            have HR := hid (rest_text (n := n) HX.out)
            have hRs : (X.extract n X.size).size = X.size - n := by rw [ByteArray.size_extract]; omega
            have HRS := hid hRs
            clear HC HCI HS HSI hRs HO1
            obtain ⟨A, c, rfl, _, _⟩ := hv2.form
            go_wp2_with (at_builtin; go_must (refine wpList_append_own _ rfl _ _ 31 rfl w.heap.size 99 i0 (.agg #[.int .i64 0, .int .i64 0, .string ⟨#[]⟩]) 3 32 Try.underlying31 hi hz0 hz1 hz2 rfl (by decide) _ os.length (opsV os) rfl (World.ownsRow.alloc hv2 _) ⟨_, 0, none⟩ 1 1 [.int .i64 a, .int .i64 n, .string ⟨#[]⟩] rfl rfl (new_three _ _ _ _ _) (opV_cells ⟨a, n, ⟨#[]⟩⟩) (by unfold maxLen; omega) (by omega) (by simp; omega) ?_); intro v' w5 hown hg _)
            obtain ⟨hv5, b5⟩ := OwnOps.app (o := ⟨a, n, ⟨#[]⟩⟩) hv2 hz hown hg
            clear hown hg hv2
            go_wp2
            go_roundw
            case rel => exact ⟨_, k + n, f, _, by omega, rfl, by rw [HRS.out]; omega, HR, by omega, H2, hv5, hb2.trans b5, I2⟩
            case measure => simp; omega
          · have H2 := HS hn2
            have HR := hid (rest_text (n := 1) HX.out)
            have hRs : (X.extract 1 X.size).size = X.size - 1 := by rw [ByteArray.size_extract]; omega
            have HRS := hid hRs
            clear HC HCI HS hRs
            rcases snoc_cases os with rfl | ⟨ps, o, rfl⟩
            · obtain ⟨A, c, rfl⟩ := hv2.empty
              rw [addB_nil, ← HO1.out] at H2 HSI
              go_wp2_with (at_builtin; go_must (refine wpList_append_own _ rfl _ _ 31 rfl w.heap.size 99 i0 (.agg #[.int .i64 0, .int .i64 0, .string ⟨#[]⟩]) 3 32 Try.underlying31 hi hz0 hz1 hz2 rfl (by decide) _ 0 [] rfl (World.ownsRow.alloc hv2 _) ⟨_, 0, none⟩ 1 1 [.int .i64 0, .int .i64 0, .string (X.extract 0 1)] rfl rfl (new_three _ _ _ _ _) (opV_cells ⟨0, 0, X.extract 0 1⟩) (by unfold maxLen; omega) (by omega) (by simp; omega) ?_); intro v' w5 hown hg _)
              obtain ⟨hv5, b5⟩ := OwnOps.app (o := ⟨0, 0, X.extract 0 1⟩) hv2 hz hown hg
              clear hown hg hv2
              go_wp2
              go_roundw
              case rel => exact ⟨_, k + 1, f, _, by omega, rfl, by rw [HRS.out]; omega, HR, by omega, H2, hv5, hb2.trans b5, HSI⟩
              case measure => simp; omega
            · obtain ⟨g, c, rfl, p0, p1, p2, pf, hgB, hc⟩ := hv2.last
              have hto := ht o (by simp)
              have hps : ps.length + 1 ≤ k := by simpa using hfew
              by_cases h0 : o.n = 0
              · rw [addB_ins _ h0, ← HO1.out] at H2 HSI
                have e0 : (o.n == 0) = true := by rw [h0]; rfl
                clear h0 HO1
                go_wp2_with fail
                have k0 : 0 ≤ (ps.length : Int) := by omega
                have k1 : (ps.length : Int) < (ps.length : Int) + 1 := by omega
                have k2 : 1 ≤ X.size := by omega
                have k3 : 1 ≤ (X.size : Int) := by omega
                have pf2 := pf (ps.length * 3 + 2)
                have k4 : ¬ 9223372036854775807 < o.t.size + 1 := by omega
                have hv3 := hv2.text (o.t ++ X.extract 0 1)
                have b3 := (Below.refl w.heap.size w2).setCell (p := ⟨g, ps.length * 3 + 2, none⟩) hgB (.string (o.t ++ X.extract 0 1))
                clear pf
                go_region_law (fail)
                clear k4
                go_wp2
                go_roundw
                case rel => exact ⟨_, k + 1, f, _, by omega, rfl, by rw [HRS.out]; omega, HR, by omega, H2, hv3, hb2.trans b3.drew, HSI⟩
                case measure => simp; omega
              · rw [addB_cop _ h0, ← HO1.out] at H2 HSI
                have e0 : (o.n == 0) = false := by rw [beq_eq_false_iff_ne]; exact h0
                clear h0 HO1 p0 p2
                have hl : (ps ++ [o]).length = ps.length + 1 := by simp
                have hv3 : w2.ownsRow w.heap.size 99 3 (.slice (some ⟨g, 0, none⟩) (ps.length + 1) c) (ps.length + 1) (opsV (ps ++ [o])) := by
                  unfold OwnOps at hv2
                  rwa [hl] at hv2
                have HLN := hid hl
                clear hl pf
                go_wp2_with (at_builtin; go_must (refine wpList_append_own _ rfl _ _ 31 rfl w.heap.size 99 i0 (.agg #[.int .i64 0, .int .i64 0, .string ⟨#[]⟩]) 3 32 Try.underlying31 hi hz0 hz1 hz2 rfl (by decide) _ (ps.length + 1) (opsV (ps ++ [o])) rfl (World.ownsRow.alloc hv3 _) ⟨_, 0, none⟩ 1 1 [.int .i64 0, .int .i64 0, .string (X.extract 0 1)] rfl rfl (new_three _ _ _ _ _) (opV_cells ⟨0, 0, X.extract 0 1⟩) (by unfold maxLen; omega) (by omega) (by simp; omega) ?_); intro v' w5 hown hg _)
                obtain ⟨hv5, b5⟩ := OwnOps.app (o := ⟨0, 0, X.extract 0 1⟩) hv2 hz (by rw [HLN.out]; exact hown) hg
                clear hown hg hv2 hv3
                go_wp2
                go_roundw
                case rel => exact ⟨_, k + 1, f, _, by omega, rfl, by rw [HRS.out]; omega, HR, by omega, H2, hv5, hb2.trans b5, HSI⟩
                case measure => simp; omega
        · have HF : Hid (dMake B T = os) := by
            show _ = _
            rw [HM.out, dMk_end _ _ (by rw [bl_size]; exact hlt)]
          have hx0 : X.size = 0 := by omega
          obtain rfl := size_zero hx0
          obtain ⟨A, c, rfl, _, _⟩ := hv.form
          clear HM HI hX hx0
          go_wp2
          go_ret
          rw [HF.out]
          exact .mk_ hv hb
    · have HF := hid (dMake_no (base := B) (text := T) fun h => t8 h.2)
      go_enter Try.func40, Try.ntmps40
      go_wp2
      go_ret
      rw [HF.out]
      exact .mk_ (OwnOps.nil_new (Nat.le_refl _)) ((Below.refl _ _).alloc (Nat.le_refl _) _)
  · have HF := hid (dMake_no (base := B) (text := T) fun h => h8 h.1)
    go_enter Try.func40, Try.ntmps40
    go_wp2
    go_ret
    rw [HF.out]
    exact .mk_ (OwnOps.nil_new (Nat.le_refl _)) ((Below.refl _ _).alloc (Nat.le_refl _) _)
end Go.Proofs.Ytkekbobnbipmoaa
