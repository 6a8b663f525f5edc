/-
  Walks: RefsApply, RefsDiffer and UpdatesCross of the model.
-/
import Derived.Test.YtimoabghkmebfabRefA
namespace Go.Proofs.Ytimoabghkmebfab
open Go.RowKit Wo Pu Rf

/-- What RefsApply answers. -/
def Applied (zs : List Int) (us : List Up) (y : RWay) (w : World) (e : Ending) (w' : World) : Prop := ∃ A c, e = .returned (.tuple #[.slice A (applied zs us y).length c, .bool y.ok]) ∧ OwnI w' w.heap.size (.slice A (applied zs us y).length c) (applied zs us y) ∧ Below w.heap.size w w'
set_option maxRecDepth 100000 in
set_option maxHeartbeats 4000000 in
theorem specRefsApply_is (y : RWay) (A A2 : Option Addr) (c c2 : Nat) (zs : List Int) (us : List Up) (w : World) (hz : Row w w.heap.size A (ints zs)) (hu : Row w w.heap.size A2 (upsV us)) (hmz : zs.length ≤ 1048600) (hm : us.length ≤ 1048600) (hy : IsRWay zs us y) :
    Calls Try.prog 19 #[.slice A zs.length c, .slice A2 us.length c2] w (Applied zs us y w) := by
  obtain ⟨vz, hvz⟩ := bool_of (RV zs)
  obtain ⟨vu, hvu⟩ := bool_of (UV us)
  have CZ : Hid (Calls Try.prog 16 #[.slice A zs.length c] w (Same (.bool vz) w)) := specRefsValid_is vz A c zs w _ hz hmz hvz
  have CU : Hid (Calls Try.prog 13 #[.slice A2 us.length c2] w (Ret (.bool vu) w)) := specUpdatesValid_is vu A2 c2 us w hu hm hvu
  cases vz with
  | false =>
    obtain rfl : y = .bad := by
      cases y with
      | bad => rfl
      | no => exact absurd (hvz.2 hy.1) (by simp)
      | yes => exact absurd (hvz.2 hy.1) (by simp)
    clear hvz hvu hy
    go_enter Try.func19, Try.ntmps19
    go_wp2_with fail
    refine CZ.out.mono ?_
    rintro e w1 ⟨rfl, rfl⟩
    go_wp2_with fail
    go_ret2
    exact ⟨_, _, rfl, OwnI.nil_new (Nat.le_refl _), (Below.refl _ _).alloc (Nat.le_refl _) _⟩
  | true =>
    cases vu with
    | false =>
      obtain rfl : y = .bad := by
        cases y with
        | bad => rfl
        | no => exact absurd (hvu.2 hy.2.1) (by simp)
        | yes => exact absurd (hvu.2 hy.2.1) (by simp)
      clear hvz hvu hy
      go_enter Try.func19, Try.ntmps19
      go_wp2_with fail
      refine CZ.out.mono ?_
      rintro e w1 ⟨rfl, rfl⟩
      go_wp2_with fail
      refine CU.out.mono ?_
      rintro e w2 ⟨rfl, b2⟩
      have z2 := b2.size
      go_wp2_with fail
      go_ret2
      exact ⟨_, _, rfl, OwnI.nil_new z2, b2.alloc z2 _⟩
    | true =>
      have rv := hvz.1 rfl
      have uv := hvu.1 rfl
      have h4 := rv.1
      obtain ⟨f, hf⟩ := bool_of (Fits zs us)
      cases f with
      | false =>
        obtain rfl : y = .no := by
          cases y with
          | bad => exact absurd ⟨rv, uv⟩ hy
          | no => rfl
          | yes => exact absurd (hf.2 hy.2.2) (by simp)
        have CF : Hid (∀ x, Row x x.heap.size A (ints zs) → Row x x.heap.size A2 (upsV us) → Calls Try.prog 44 #[.slice A zs.length c, .slice A2 us.length c2] x (Ret (.bool false) x)) := fun x h1 h2 => l11Fits_is false A A2 c c2 zs us x _ _ h1 h4 h2 (refs4_of uv) hm hf
        have H4 := hid h4
        obtain ⟨i0, hi, hi0, hi1, hi2⟩ := info_of info_int
        clear hvz hvu hy hf rv uv h4 hmz
        go_enter Try.func19, Try.ntmps19
        go_wp2_with fail
        refine CZ.out.mono ?_
        rintro e w1 ⟨rfl, rfl⟩
        go_wp2_with fail
        refine CU.out.mono ?_
        rintro e w2 ⟨rfl, b2⟩
        have rz := (hz.below b2 (Nat.le_refl _)).more b2.size
        have ru := (hu.below b2 (Nat.le_refl _)).more b2.size
        clear hz hu
        go_wp2_with fail
        refine (CF.out _ rz ru).mono ?_
        rintro e w3 ⟨rfl, hb3⟩
        have b3 := b2.trans (hb3.mono b2.size)
        have rz3 := (rz.below hb3 (Nat.le_refl _)).more hb3.size
        have hz3 := b3.size
        have al := (Below.refl w3.heap.size w3).alloc (Nat.le_refl _) (.cells #[] 3)
        have b3a := b3.alloc hz3 (.cells #[] 3)
        have hq : Hid (zs.length ≤ 10) := by show _ ≤ _; rw [H4.out]; omega
        clear rz ru b2 b3
        go_wp2_with (at_builtin; go_must (refine wpList_append_row _ rfl _ _ 27 rfl w.heap.size 3 i0 (.int .i64 0) 1 8 Try.underlying27 hi hi0 hi1 hi2 rfl (by decide) _ 0 [] rfl (nil_own hz3 _ _) w3.heap.size A zs.length c (ints zs) rfl (rz3.below al (Nat.le_refl _)) (by rw [ints_length]; omega) (by intro u hu; obtain ⟨x, _, rfl⟩ := List.mem_map.1 hu; rfl) (by have := hq.out; unfold maxLen; omega) (by have := hq.out; omega) (by simp; omega) ?_); intro v4 w4 hown hg)
        have b4 : Below w.heap.size w w4 := b3a.grown hg (by simp; omega) (fun j hj => by injection hj with hj; have e : w3.heap.size = j := hj; omega)
        have ho0 : OwnI w4 w.heap.size v4 zs := by
          unfold OwnI
          rw [Nat.zero_add, List.nil_append] at hown
          exact hown
        obtain ⟨A5, c5, rfl, -, -⟩ := ho0.form
        go_wp2_with fail
        go_ret2
        exact ⟨A5, c5, rfl, ho0, b4⟩
      | true =>
        obtain rfl : y = .yes := by
          cases y with
          | bad => exact absurd ⟨rv, uv⟩ hy
          | no => exact absurd (hf.1 rfl) hy.2.2
          | yes => rfl
        have CF : Hid (∀ x, Row x x.heap.size A (ints zs) → Row x x.heap.size A2 (upsV us) → Calls Try.prog 44 #[.slice A zs.length c, .slice A2 us.length c2] x (Ret (.bool true) x)) := fun x h1 h2 => l11Fits_is true A A2 c c2 zs us x _ _ h1 h4 h2 (refs4_of uv) hm hf
        have CS : Hid (∀ x, Row x x.heap.size A (ints zs) → Row x x.heap.size A2 (upsV us) → Calls Try.prog 45 #[.slice A zs.length c, .slice A2 us.length c2] x (IntsOf (setR zs us) x)) := fun x h1 h2 => l11Set_any A A2 c c2 zs us x h1 h4 h2 (refs4_of uv) hm
        clear hvz hvu hy hf rv uv h4 hmz
        go_enter Try.func19, Try.ntmps19
        go_wp2_with fail
        refine CZ.out.mono ?_
        rintro e w1 ⟨rfl, rfl⟩
        go_wp2_with fail
        refine CU.out.mono ?_
        rintro e w2 ⟨rfl, b2⟩
        have rz := (hz.below b2 (Nat.le_refl _)).more b2.size
        have ru := (hu.below b2 (Nat.le_refl _)).more b2.size
        clear hz hu
        go_wp2_with fail
        refine (CF.out _ rz ru).mono ?_
        rintro e w3 ⟨rfl, hb3⟩
        have b3 := b2.trans (hb3.mono b2.size)
        have rz3 := (rz.below hb3 (Nat.le_refl _)).more hb3.size
        have ru3 := (ru.below hb3 (Nat.le_refl _)).more hb3.size
        have hz3 := b3.size
        clear rz ru b2 hb3
        go_wp2_with fail
        refine (CS.out _ rz3 ru3).mono ?_
        rintro e w4 ⟨A5, c5, rfl, ho5, hb4⟩
        have b4 := b3.trans (hb4.mono hz3)
        have ho6 := ho5.base hz3
        clear CS CF CU CZ
        go_wp2_with fail
        go_ret2
        exact ⟨A5, c5, rfl, ho6, b4⟩
end Go.Proofs.Ytimoabghkmebfab
