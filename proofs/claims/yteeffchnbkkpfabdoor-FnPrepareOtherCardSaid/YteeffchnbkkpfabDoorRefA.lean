/-
  Walks: updates performed, by the model.
-/
import Derived.Test.YteeffchnbkkpfabDoorRefU
namespace Go.Proofs.YteeffchnbkkpfabDoor
open Go.RowKit Wo Pu Rf

/-- The refs of the updates are refs. -/
def Refs4 (us : List Up) : Prop := ∀ u ∈ us, 0 ≤ u.r ∧ u.r ≤ 3
theorem refs4_of {us : List Up} (h : UV us) : Refs4 us := fun u hu => (h.2.mem u hu).2.1
def FitTo (zs : List Int) (us : List Up) (k : Nat) : Prop := ∀ j (h : j < us.length), j < k → fit1 zs us[j]
theorem FitTo.zero (zs : List Int) (us : List Up) : FitTo zs us 0 := fun _ _ h => absurd h (Nat.not_lt_zero _)
theorem FitTo.next {zs : List Int} {us : List Up} {k : Nat} (h : FitTo zs us k) (hk : k < us.length) (ho : fit1 zs us[k]) : FitTo zs us (k + 1) := fun j hj hl => by
  by_cases e : j = k
  · subst e; exact ho
  · exact h j hj (by omega)
theorem FitTo.all {zs : List Int} {us : List Up} (h : FitTo zs us us.length) : Fits zs us := fun u hu => by
  obtain ⟨j, hj, rfl⟩ := List.getElem_of_mem hu
  exact h j hj hj
set_option maxRecDepth 100000 in
set_option maxHeartbeats 4000000 in
theorem l11Fits_is (b : Bool) (A A2 : Option Addr) (c c2 : Nat) (zs : List Int) (us : List Up) (w : World) (B B2 : Nat) (hz : Row w B A (ints zs)) (h4 : zs.length = 4) (hu : Row w B2 A2 (upsV us)) (hr : Refs4 us) (hm : us.length ≤ 1048600) (hb : b = true ↔ Fits zs us) :
    Calls Tryd.prog 95 #[.slice A zs.length c, .slice A2 us.length c2] w (Ret (.bool b) w) := by
  have HB := hid hb
  clear hb
  have H4 := hid h4
  clear h4
  go_enter Tryd.func95, Tryd.ntmps95
  go_wp2_with fail
  go_loopw [5] (fun i wr => ∃ k : Nat, k ≤ us.length ∧ i = .int .i64 k ∧ Hid (FitTo zs us k) ∧ Dr w wr) (fun i _ => us.length - (intOf i).toNat)
  case atStart => exact ⟨0, Nat.zero_le _, rfl, .zero zs us, .refl _⟩
  case round =>
    obtain ⟨k, hk, rfl, H, HW⟩ := hrel
    by_cases hlt : k < us.length
    · obtain ⟨o, ad, ho, rfl, ha1, g0, g1, -⟩ := (HW.row hu).up_ hlt
      obtain ⟨q0, q1⟩ := hr _ (List.getElem_mem hlt)
      rw [ho] at q0 q1
      obtain ⟨m, hm0⟩ := Int.eq_ofNat_of_zero_le q0
      have hmz : m < zs.length := by rw [H4.out]; omega
      obtain ⟨ad2, rfl, hb2, hc2⟩ := (HW.row hz).int_ hmz
      rw [hm0] at g0
      have k0 : (0 : Int) ≤ (k : Int) := by omega
      have k1 : (k : Int) < (us.length : Int) := by omega
      have k2 : (0 : Int) ≤ (m : Int) := by omega
      have k3 : (m : Int) < (zs.length : Int) := by omega
      have hfit : fit1 zs us[k] ↔ zs[m] = o.o := by
        unfold fit1
        rw [ho, hm0, Int.toNat_natCast, List.getElem?_eq_getElem hmz]
        exact ⟨fun h => by injection h, fun h => by rw [h]⟩
      by_cases heq : zs[m] = o.o
      · have e0 : (zs[m] != o.o) = false := by rw [bne_eq_false_iff_eq]; exact heq
        have HN := hid (H.out.next hlt (hfit.2 heq))
        clear H hfit heq ho hm0 q0 q1
        go_wp2
        go_quiet (fail)
        go_wp2
        go_roundw
        case rel => exact ⟨k + 1, by omega, by go_num, HN, HW.drewN _⟩
        case measure => simp [intOf]; omega
      · have e0 : (zs[m] != o.o) = true := by rw [bne_iff_ne]; exact heq
        have F : Hid (b = false) := by
          show b = false
          rw [← Bool.not_eq_true]
          exact fun e => heq (hfit.1 (HB.out.1 e _ (List.getElem_mem hlt)))
        clear H hfit heq ho hm0 q0 q1
        go_wp2
        go_quiet (fail)
        go_wp2
        go_ret
        rw [F.out]
        exact .mk_ ((HW.drewN _).below _)
    · have hk' : k = us.length := by omega
      subst hk'
      have F := hid (HB.out.2 H.out.all)
      clear H
      go_wp2
      go_ret
      rw [F.out]
      exact .mk_ (HW.below _)
theorem setR_take {zs : List Int} {us : List Up} {k : Nat} (hk : k < us.length) : setR zs (us.take (k + 1)) = (setR zs (us.take k)).set us[k].r.toNat us[k].n := by
  rw [List.take_succ_eq_append_getElem hk, setR_snoc]
theorem ints_set (zs : List Int) (m : Nat) (x : Int) : (ints zs).set m (.int .i64 x) = ints (zs.set m x) := by unfold ints; rw [List.map_set]
/-- Integers stored into. -/
theorem OwnI.set {w : World} {B g c : Nat} {zs : List Int} (h : OwnI w B (.slice (some ⟨g, 0, none⟩) zs.length c) zs) (m : Nat) (x : Int) : OwnI (w.setCell ⟨g, m, none⟩ (.int .i64 x)) B (.slice (some ⟨g, 0, none⟩) (zs.set m x).length c) (zs.set m x) := by
  have := (World.ownsRow.stored h m (.int .i64 x)).1
  rw [ints_set] at this
  unfold OwnI
  rw [List.length_set]
  exact this
theorem OwnI.cell {w : World} {B g c : Nat} {zs : List Int} (h : OwnI w B (.slice (some ⟨g, 0, none⟩) zs.length c) zs) {m : Nat} (hm : m < zs.length) : w.cell? ⟨g, m, none⟩ = some (.int .i64 zs[m]) := by
  have := World.ownsRow.cellAt h m (by omega)
  rw [this]
  simp [ints, hm]
theorem OwnI.at {w : World} {B : Nat} {v : Value} {zs : List Int} (h : OwnI w B v zs) (hp : 0 < zs.length) : ∃ g c, v = .slice (some ⟨g, 0, none⟩) zs.length c ∧ B ≤ g ∧ g < w.heap.size := by
  obtain ⟨g, cap, e, h1, h2⟩ := World.ownsRow.form h hp
  exact ⟨g, cap, e, h1, h2⟩
set_option maxRecDepth 100000 in
set_option maxHeartbeats 4000000 in
theorem l11Set_any (A A2 : Option Addr) (c c2 : Nat) (zs : List Int) (us : List Up) (w : World) (hz : Row w w.heap.size A (ints zs)) (h4 : zs.length = 4) (hu : Row w w.heap.size A2 (upsV us)) (hr : Refs4 us) (hm : us.length ≤ 1048600) :
    Calls Tryd.prog 97 #[.slice A zs.length c, .slice A2 us.length c2] w (IntsOf (setR zs us) w) := by
  obtain ⟨i0, hi, hz0, hz1, hz2⟩ := info_of info_int
  have H4 := hid h4
  have HE := hid (setR_length us zs)
  have al := (Below.refl w.heap.size w).alloc (Nat.le_refl _) (.cells #[] 3)
  have hzl : Hid (zs.length ≤ 10) := by show _ ≤ _; omega
  clear h4
  go_enter Tryd.func97, Tryd.ntmps97
  go_wp2_with (at_builtin; go_must (refine wpList_append_row _ rfl _ _ 27 rfl w.heap.size 3 i0 (.int .i64 0) 1 8 Tryd.underlying27 hi hz0 hz1 hz2 rfl (by decide) _ 0 [] rfl (nil_own (Nat.le_refl _) _ _) w.heap.size A zs.length c (ints zs) rfl (hz.below al (Nat.le_refl _)) (by rw [ints_length]; omega) (by intro u hu; obtain ⟨x, _, rfl⟩ := List.mem_map.1 hu; rfl) (by have := hzl.out; unfold maxLen; omega) (by have := hzl.out; omega) (by simp) ?_); intro v4 w4 hown hg)
  have b4 : Below w.heap.size w w4 := al.grown hg (by simp) (fun j hj => by injection hj with hj; exact Nat.le_of_eq hj)
  have ho0 : OwnI w4 w.heap.size v4 zs := by
    unfold OwnI
    rw [Nat.zero_add, List.nil_append] at hown
    exact hown
  obtain ⟨g, c4, rfl, hg1, hg2⟩ := ho0.at (by rw [H4.out]; omega)
  clear hown hg al
  go_wp2_with fail
  go_loopw [6] (fun i wr => ∃ k : Nat, k ≤ us.length ∧ i = .int .i64 k ∧ OwnI wr w.heap.size (.slice (some ⟨g, 0, none⟩) zs.length c4) (setR zs (us.take k)) ∧ Below w.heap.size w wr) (fun i _ => us.length - (intOf i).toNat)
  case atStart => exact ⟨0, Nat.zero_le _, rfl, by rw [List.take_zero, setR_nil]; exact ho0, b4⟩
  case round =>
    obtain ⟨k, hk, rfl, ho, hb⟩ := hrel
    clear ho0 b4
    by_cases hlt : k < us.length
    · obtain ⟨o, ad, ho1, rfl, ha1, g0, -, g2⟩ := (hu.below hb (Nat.le_refl _)).up_ hlt
      obtain ⟨q0, q1⟩ := hr _ (List.getElem_mem hlt)
      rw [ho1] at q0 q1
      obtain ⟨m, hm0⟩ := Int.eq_ofNat_of_zero_le q0
      rw [hm0] at g0
      have hsl := setR_length (us.take k) zs
      have ho' : OwnI wr w.heap.size (.slice (some ⟨g, 0, none⟩) (setR zs (us.take k)).length c4) (setR zs (us.take k)) := by rw [hsl]; exact ho
      have hmz : m < (setR zs (us.take k)).length := by rw [hsl, H4.out]; omega
      have y0 := ho'.cell hmz
      have f0 := World.ownsRow.frozenAt ho' m
      have ho2 := ho'.set m o.n
      have hb2 := hb.setCell (p := ⟨g, m, none⟩) hg1 (.int .i64 o.n)
      have hst := setR_take (zs := zs) hlt
      rw [ho1, hm0, Int.toNat_natCast] at hst
      have hl2 : ((setR zs (us.take k)).set m o.n).length = zs.length := by rw [List.length_set, hsl]
      rw [← hst] at ho2 hl2
      rw [hl2] at ho2
      have k0 : (0 : Int) ≤ (k : Int) := by omega
      have k1 : (k : Int) < (us.length : Int) := by omega
      have k2 : (0 : Int) ≤ (m : Int) := by omega
      have k3 : (m : Int) < (zs.length : Int) := by rw [H4.out]; omega
      clear ho ho' hb hst hl2 hsl q0 q1 hm0 ho1
      go_wp2_with fail
      go_region_law (fail)
      go_wp2
      go_roundw
      case rel => exact ⟨k + 1, by omega, by go_num, ho2, hb2.drew⟩
      case measure => simp [intOf]; omega
      exact ⟨⟨k + 1, by omega, by go_num, ho2, hb2.drew⟩, by simp [intOf]; omega⟩
    · have hk' : k = us.length := by omega
      subst hk'
      rw [List.take_length] at ho
      go_wp2
      go_ret
      refine ⟨some ⟨g, 0, none⟩, c4, ?_, ?_, hb⟩
      · rw [HE.out]; rfl
      · rw [HE.out]; exact ho
end Go.Proofs.YteeffchnbkkpfabDoor
