/-
  Walks: locks taken, by the model.
-/
import Derived.Test.YtdaodkacgoljbaaDoorLockS
namespace Go.Proofs.YtdaodkacgoljbaaDoor
open Go.RowKit Wo Pu Rf Lk

/-- Behind it: numbers of the call's own, and whether. -/
def Took (qs : List Int) (ok : Bool) (w : World) (e : Ending) (w' : World) : Prop := ∃ A c, e = .returned (.tuple #[.slice A qs.length c, .bool ok]) ∧ OwnI w' w.heap.size (.slice A qs.length c) qs ∧ Below w.heap.size w w'
/-- What l12Take answers. -/
def takes (zs : List Int) (t : Int) (us : List Up) (ok : Bool) : List Int := if ok then setR zs (lk t us) else zs
theorem lk_get {t : Int} {us : List Up} {k : Nat} (h : k < us.length) (h2 : k < (lk t us).length) : (lk t us)[k] = lk1 t us[k] := by
  have e : (lk t us)[k]? = some (lk1 t us[k]) := by
    unfold lk
    rw [List.getElem?_map, List.getElem?_eq_getElem h]
    rfl
  rw [List.getElem?_eq_getElem h2] at e
  injection e
set_option maxRecDepth 100000 in
set_option maxHeartbeats 8000000 in
theorem l12Take_any (ok : Bool) (A A2 : Option Addr) (c c2 : Nat) (zs : List Int) (t : Int) (us : List Up) (w : World) (hz : Row w w.heap.size A (ints zs)) (h4 : zs.length = 4) (hu : Row w w.heap.size A2 (upsV us)) (hr : Refs4 us) (hm : us.length ≤ 1048600) (hok : ok = true ↔ Fits zs (lk t us)) :
    Calls Tryd.prog 35 #[.slice A zs.length c, .int .i64 t, .slice A2 us.length c2] w (Took (takes zs t us ok) ok w) := by
  obtain ⟨i0, hi, hz0, hz1, hz2⟩ := info_of info_int
  have H4 := hid h4
  have HO := hid hok
  have al := (Below.refl w.heap.size w).alloc (Nat.le_refl _) (.cells #[] 3)
  have hzl : Hid (zs.length ≤ 10) := by show _ ≤ _; omega
  clear h4 hok
  go_enter Tryd.func35, Tryd.ntmps35
  go_wp2_with (at_builtin; go_must (refine wpList_append_row _ rfl _ _ 23 rfl w.heap.size 3 i0 (.int .i64 0) 1 8 Tryd.underlying23 hi hz0 hz1 hz2 rfl (by decide) _ 0 [] rfl (nil_own (Nat.le_refl _) _ _) w.heap.size A zs.length c (ints zs) rfl (hz.below al (Nat.le_refl _)) (by rw [ints_length]; omega) (by intro u hu; obtain ⟨x, _, rfl⟩ := List.mem_map.1 hu; rfl) (by have := hzl.out; unfold maxLen; omega) (by have := hzl.out; omega) (by simp) ?_); intro v4 w4 hown hg)
  have b4 : Below w.heap.size w w4 := al.grown hg (by simp) (fun j hj => by injection hj with hj; exact Nat.le_of_eq hj)
  have ho0 : OwnI w4 w.heap.size v4 zs := by
    unfold OwnI
    rw [Nat.zero_add, List.nil_append] at hown
    exact hown
  obtain ⟨g, c4, rfl, hg1, hg2⟩ := ho0.at (by rw [H4.out]; omega)
  clear hown hg al
  go_wp2_with fail
  go_loopw [9] (fun i wr => ∃ k : Nat, k ≤ us.length ∧ i = .int .i64 k ∧ OwnI wr w.heap.size (.slice (some ⟨g, 0, none⟩) zs.length c4) (setR zs (lk t (us.take k))) ∧ Hid (FitTo zs (lk t us) k) ∧ Below w.heap.size w wr) (fun i _ => us.length - (intOf i).toNat)
  case atStart => exact ⟨0, Nat.zero_le _, rfl, (by rw [List.take_zero]; exact ho0), FitTo.zero zs _, b4⟩
  case round =>
    obtain ⟨k, hk, rfl, ho, HF, hb⟩ := hrel
    clear ho0 b4
    by_cases hlt : k < us.length
    · obtain ⟨o, ad, ho1, rfl, ha1, g0, -, -⟩ := (hu.below hb (Nat.le_refl _)).up_ hlt
      obtain ⟨q0, q1⟩ := hr _ (List.getElem_mem hlt)
      rw [ho1] at q0 q1
      obtain ⟨m, hm0⟩ := Int.eq_ofNat_of_zero_le q0
      rw [hm0] at g0
      have hmz0 : m < zs.length := by rw [H4.out]; omega
      obtain ⟨adz, ez, hbz, cz⟩ := (hz.below hb (Nat.le_refl _)).int_ hmz0
      have hkl : k < (lk t us).length := by rw [lk_length]; exact hlt
      have hge : (lk t us)[k] = lk1 t o := by rw [← ho1]; exact lk_get hlt hkl
      have hfit : fit1 zs (lk t us)[k] ↔ zs[m] = -1 := by
        rw [hge]
        unfold fit1
        rw [show (lk1 t o).r = o.r from rfl, hm0, Int.toNat_natCast, List.getElem?_eq_getElem hmz0]
        exact ⟨fun h => by injection h, fun h => by rw [h]; rfl⟩
      have k0 : (0 : Int) ≤ (k : Int) := by omega
      have k1 : (k : Int) < (us.length : Int) := by omega
      have k2 : (0 : Int) ≤ (m : Int) := by omega
      have k3 : (m : Int) < (zs.length : Int) := by omega
      subst ez
      by_cases heq : zs[m] = -1
      · have e0 : (zs[m] != -1) = false := by rw [bne_eq_false_iff_eq]; exact heq
        have HN := hid (HF.out.next hkl (hfit.2 heq))
        have hsl := setR_length (lk t (us.take k)) zs
        have ho' : OwnI wr w.heap.size (.slice (some ⟨g, 0, none⟩) (setR zs (lk t (us.take k))).length c4) (setR zs (lk t (us.take k))) := by rw [hsl]; exact ho
        have hmz : m < (setR zs (lk t (us.take k))).length := by rw [hsl]; exact hmz0
        have y0 := ho'.cell hmz
        have f0 := World.ownsRow.frozenAt ho' m
        have ho2 := ho'.set m t
        have hb2 := hb.setCell (p := ⟨g, m, none⟩) hg1 (.int .i64 t)
        have hst : setR zs (lk t (us.take (k + 1))) = (setR zs (lk t (us.take k))).set m t := by
          rw [List.take_succ_eq_append_getElem hlt, ho1]
          unfold lk
          rw [List.map_append]
          show setR zs (_ ++ [lk1 t o]) = _
          rw [setR_snoc]
          show (setR zs _).set o.r.toNat t = _
          rw [hm0, Int.toNat_natCast]
        have hl2 : ((setR zs (lk t (us.take k))).set m t).length = zs.length := by rw [List.length_set, hsl]
        rw [← hst] at ho2 hl2
        rw [hl2] at ho2
        clear ho ho' hb hst hl2 hsl q0 q1 hm0 ho1 HF heq hfit hge
        go_wp2
        go_roundw
        case rel => exact ⟨k + 1, by omega, by go_num, ho2, HN, hb2⟩
        case measure => simp [intOf]; omega
      · have e0 : (zs[m] != -1) = true := by rw [bne_iff_ne]; exact heq
        have F : Hid (ok = false) := by
          show ok = false
          rw [← Bool.not_eq_true]
          exact fun e => heq (hfit.1 (HO.out.1 e _ (List.getElem_mem hkl)))
        have hzw := hb.size
        have rz3 := (hz.below hb (Nat.le_refl _)).more hzw
        have al := (Below.refl wr.heap.size wr).alloc (Nat.le_refl _) (.cells #[] 3)
        have b3a := hb.alloc hzw (.cells #[] 3)
        clear ho HF heq hfit hge q0 q1 hm0 ho1 hb
        go_wp2_with (at_builtin; go_must (refine wpList_append_row _ rfl _ _ 23 rfl w.heap.size 3 i0 (.int .i64 0) 1 8 Tryd.underlying23 hi hz0 hz1 hz2 rfl (by decide) _ 0 [] rfl (nil_own hzw _ _) wr.heap.size (some adz) zs.length c (ints zs) rfl (rz3.below al (Nat.le_refl _)) (by rw [ints_length]; omega) (by intro u hu; obtain ⟨x, _, rfl⟩ := List.mem_map.1 hu; rfl) (by have := hzl.out; unfold maxLen; omega) (by have := hzl.out; omega) (by simp; omega) ?_); intro v5 w5 hown hg)
        have b5 : Below w.heap.size w w5 := b3a.grown hg (by simp; omega) (fun j hj => by injection hj with hj; have e : wr.heap.size = j := hj; omega)
        have ho5 : OwnI w5 w.heap.size v5 zs := by
          unfold OwnI
          rw [Nat.zero_add, List.nil_append] at hown
          exact hown
        obtain ⟨A5, c5, rfl, -, -⟩ := ho5.form
        go_wp2_with fail
        go_ret2
        rw [F.out]
        exact ⟨A5, c5, rfl, ho5, b5⟩
    · have hk' : k = us.length := by omega
      subst hk'
      rw [List.take_length] at ho
      have F : Hid (ok = true) := by
        refine HO.out.2 (FitTo.all ?_)
        rw [lk_length]
        exact HF.out
      have HE := hid (setR_length (lk t us) zs)
      clear HF
      go_wp2
      go_ret2
      rw [F.out]
      refine ⟨some ⟨g, 0, none⟩, c4, ?_, ?_, hb⟩
      · show _ = Ending.returned (.tuple #[.slice _ (setR zs (lk t us)).length _, _])
        rw [HE.out]; rfl
      · show OwnI _ _ (.slice _ (setR zs (lk t us)).length _) (setR zs (lk t us))
        rw [HE.out]; exact ho
/-- What LocksTake answers, by its way. -/
theorem specLocksTake_is (y : RWay) (A A2 : Option Addr) (c c2 : Nat) (zs : List Int) (t : Int) (us : List Up) (w : World) (hz : Row w w.heap.size A (ints zs)) (hu : Row w w.heap.size A2 (upsV us)) (hmz : zs.length ≤ 1048600) (hm : us.length ≤ 1048600) (hy : IsLWay zs t us y) :
    Calls Tryd.prog 11 #[.slice A zs.length c, .int .i64 t, .slice A2 us.length c2] w (Took (applied zs (lk t us) y) y.ok w) := by
  obtain ⟨vz, hvz⟩ := bool_of (LV zs)
  obtain ⟨vt, hvt⟩ := bool_of (TV t)
  obtain ⟨vu, hvu⟩ := bool_of (UV us)
  have CZ : Hid (∀ x, Row x x.heap.size A (ints zs) → Calls Tryd.prog 32 #[.slice A zs.length c] x (Same (.bool vz) x)) := fun x h => specLocksValid_is vz A c zs x _ h hmz hvz
  have CT : Hid (∀ x, Calls Tryd.prog 33 #[.int .i64 t] x (Same (.bool vt) x)) := fun x => l12Txn_is vt t x hvt
  have CU : Hid (∀ x, Row x x.heap.size A2 (upsV us) → Calls Tryd.prog 34 #[.slice A2 us.length c2] x (Ret (.bool vu) x)) := fun x h => specUpdatesValid_is vu A2 c2 us x h hm hvu
  have bad : (vz && vt && vu) = false → y = .bad := fun e => by
    cases y with
    | bad => rfl
    | no =>
      rw [hvz.2 hy.1, hvt.2 hy.2.1, hvu.2 hy.2.2.1] at e
      cases e
    | yes =>
      rw [hvz.2 hy.1, hvt.2 hy.2.1, hvu.2 hy.2.2.1] at e
      cases e
  cases vz with
  | false =>
    obtain rfl := bad rfl
    clear hvz hvt hvu hy bad
    go_enter Tryd.func11, Tryd.ntmps11
    go_wp2_with fail
    refine (CZ.out _ hz).mono ?_
    rintro e w1 ⟨rfl, rfl⟩
    go_wp2_with fail
    go_ret2
    exact ⟨_, _, rfl, OwnI.nil_new (Nat.le_refl _), (Below.refl _ _).alloc (Nat.le_refl _) _⟩
  | true =>
    cases vt with
    | false =>
      obtain rfl := bad rfl
      clear hvz hvt hvu hy bad
      go_enter Tryd.func11, Tryd.ntmps11
      go_wp2_with fail
      refine (CZ.out _ hz).mono ?_
      rintro e w1 ⟨rfl, rfl⟩
      go_wp2_with fail
      refine (CT.out _).mono ?_
      rintro e w1 ⟨rfl, rfl⟩
      go_wp2_with fail
      go_ret2
      exact ⟨_, _, rfl, OwnI.nil_new (Nat.le_refl _), (Below.refl _ _).alloc (Nat.le_refl _) _⟩
    | true =>
      cases vu with
      | false =>
        obtain rfl := bad rfl
        clear hvz hvt hvu hy bad
        go_enter Tryd.func11, Tryd.ntmps11
        go_wp2_with fail
        refine (CZ.out _ hz).mono ?_
        rintro e w1 ⟨rfl, rfl⟩
        go_wp2_with fail
        refine (CT.out _).mono ?_
        rintro e w1 ⟨rfl, rfl⟩
        go_wp2_with fail
        refine (CU.out _ hu).mono ?_
        rintro e w2 ⟨rfl, b2⟩
        have z2 := b2.size
        go_wp2_with fail
        go_ret2
        exact ⟨_, _, rfl, OwnI.nil_new z2, b2.alloc z2 _⟩
      | true =>
        have lv := hvz.1 rfl
        have tv := hvt.1 rfl
        have uv := hvu.1 rfl
        obtain ⟨ok, hok⟩ := bool_of (Fits zs (lk t us))
        obtain ⟨qs, hqs⟩ : ∃ qs, takes zs t us ok = qs := ⟨_, rfl⟩
        have hyk : y.ok = ok := by
          cases y with
          | bad => exact absurd ⟨lv, tv, uv⟩ hy
          | no => cases ok with
            | false => rfl
            | true => exact absurd (hok.1 rfl) hy.2.2.2
          | yes => rw [hok.2 hy.2.2.2]; rfl
        have hyq : applied zs (lk t us) y = qs := by
          rw [← hqs]
          cases y with
          | bad => exact absurd ⟨lv, tv, uv⟩ hy
          | no => rw [← hyk]; rfl
          | yes => rw [← hyk]; rfl
        rw [hyk, hyq]
        have CL : Hid (∀ x, Row x x.heap.size A (ints zs) → Row x x.heap.size A2 (upsV us) → Calls Tryd.prog 35 #[.slice A zs.length c, .int .i64 t, .slice A2 us.length c2] x (Took qs ok x)) := fun x h1 h2 => by
          rw [← hqs]
          exact l12Take_any ok A A2 c c2 zs t us x h1 lv.1 h2 (refs4_of uv) hm hok
        clear hvz hvt hvu hy bad lv tv uv hok hqs hyk hyq
        go_enter Tryd.func11, Tryd.ntmps11
        go_wp2_with fail
        refine (CZ.out _ hz).mono ?_
        rintro e w1 ⟨rfl, rfl⟩
        go_wp2_with fail
        refine (CT.out _).mono ?_
        rintro e w1 ⟨rfl, rfl⟩
        go_wp2_with fail
        refine (CU.out _ hu).mono ?_
        rintro e w2 ⟨rfl, b2⟩
        have rz := (hz.below b2 (Nat.le_refl _)).more b2.size
        have ru := (hu.below b2 (Nat.le_refl _)).more b2.size
        have z2 := b2.size
        clear hz hu
        go_wp2_with fail
        refine (CL.out _ rz ru).mono ?_
        rintro e w3 ⟨A5, c5, rfl, ho5, b3⟩
        have b4 := b2.trans (b3.mono z2)
        have ho6 := ho5.base z2
        clear CL CZ CT CU
        go_wp2_with fail
        go_ret2
        exact ⟨A5, c5, rfl, ho6, b4⟩
end Go.Proofs.YtdaodkacgoljbaaDoor
