/-
  Walk of the law on an object's kind and its id.
-/
import Derived.Test.YtglcnlinfojflaaLawsOb
import Derived.Test.YtglcnlinfojflaaInj
namespace Go.Proofs.Ytglcnlinfojflaa
open Go.RowKit Wo Pu
/-! ### An object's kind is part of its id. -/

theorem FnIdKind_no (A : Option Addr) (c : Nat) (bs : List Int) (w : World) (h : Code_ w A c bs) (hl : ¬ bs.length ≤ 1048576) :
    Calls Try.prog 9 #[.slice A bs.length c] w (Ret (.bool true) w) := by
  have hc := h.2.1
  have hm := h.2.2.1
  unfold maxLen at hm
  go_enter Try.func9, Try.ntmps9
  go_wp2
  go_ret
  exact .mk_ (Below.refl _ _)
set_option maxHeartbeats 4000000 in
theorem FnIdKind_yes (A : Option Addr) (c : Nat) (bs : List Int) (w : World) (h : Code_ w A c bs) (hl : bs.length ≤ 1048576) :
    Calls Try.prog 9 #[.slice A bs.length c] w (Ret (.bool true) w) := by
  go_enter Try.func9, Try.ntmps9
  go_wp2_with fail
  refine (DrawObjectId_any A c bs _ h).mono ?_
  rintro e w1 ⟨kd, A1, c1, zs, s, rfl, ho1, hz, hs, hb1⟩
  have hm : zs.length ≤ maxLen := by unfold maxLen; omega
  have hs' : s.size ≤ maxLen := by unfold maxLen; omega
  unfold ob
  have al := (Below.refl w1.heap.size w1).alloc (Nat.le_refl _) (.cells #[.int .i64 kd, .slice A1 zs.length c1, .string s] 27)
  have u1 := Blk.new_ w1 27 (.int .i64 kd) (.slice A1 zs.length c1) (.string s)
  have b1 := hb1.trans (al.mono hb1.size)
  have o1 := ho1.below al (Nat.le_refl _)
  have z1 := hb1.size
  clear hb1 al ho1
  go_wp2_with fail
  refine (implObjectId_any _ A1 c1 kd zs s _ o1.row (Nat.le_refl _) hm hs').mono ?_
  rintro e w2 ⟨rfl, hb2⟩
  have u2 := u1.below hb2 u1.lt
  have b2 := b1.trans (hb2.mono b1.size)
  have o2 := o1.below hb2 (Nat.le_refl _)
  have z2 := hb2.size
  simp only [World.size_alloc] at z2
  clear hb2 u1 b1 o1
  obtain ⟨k0, k1, k2, kf⟩ := id u2.reads
  clear kf
  go_wp2_with fail
  refine (specId_any _ A1 c1 kd zs s _ o2.row (Nat.le_refl _) hm hs').mono ?_
  rintro e w3 ⟨rfl, hb3⟩
  have u3 := u2.below hb3 u2.lt
  have b3 := b2.trans (hb3.mono b2.size)
  have o3 := o2.below hb3 (Nat.le_refl _)
  have z3 := hb3.size
  clear hb3 u2 b2 o2 k0 k1 k2
  obtain ⟨k0, k1, k2, kf⟩ := id u3.reads
  clear kf
  cases hv : vldB kd zs s.size
  · have e0 := oid_lt hv
    clear hv
    generalize oid kd zs s.data.toList = I at *
    go_wp2
    go_ret
    exact .mk_ b3
  have e0 := oid_ge hv
  have ev := oid_yes hv
  have HV := hid hv
  have HE := hid ev
  clear hv ev
  by_cases ek : kd = 2
  · subst ek
    by_cases en : zs.length = 0
    · have e1 : (((zs.length : Nat) : Int) == 0) = true := by rw [en]; rfl
      clear en
      generalize oid 2 zs s.data.toList = I at *
      go_wp2
      go_ret
      exact .mk_ b3
    have e1 : (((zs.length : Nat) : Int) == 0) = false := by rw [beq_eq_false_iff_ne]; omega
    have hne := kind_ne (zs := zs) (bs := s.data.toList) (vldB_parts HV.out).2.1
    have hv3 := kind_vld HV.out (by omega)
    have h3 := oid_yes hv3
    have h30 := oid_ge hv3
    have hneq : (oid 3 zs s.data.toList != oid 2 zs s.data.toList) = true := by rw [bne_iff_ne, h3, HE.out]; exact hne
    clear hne hv3 h3 HE HV
    go_wp2_with fail
    have al := (Below.refl w3.heap.size w3).alloc (Nat.le_refl _) (.cells #[.int .i64 3, .slice A1 zs.length c1, .string s] 27)
    have v3 := Blk.new_ w3 27 (.int .i64 3) (.slice A1 zs.length c1) (.string s)
    have o4 := o3.below al (Nat.le_refl _)
    refine (implObjectId_any _ A1 c1 3 zs s _ o4.row (Nat.le_refl _) hm hs').mono ?_
    rintro e w4 ⟨rfl, hb4⟩
    have v4 := v3.below hb4 v3.lt
    have b4 := (b3.trans (al.mono b3.size)).trans (hb4.mono (by have := b3.size; simp; omega))
    have o5 := o4.below hb4 (Nat.le_refl _)
    clear k0 k1 k2 v3 o4 o3 al hb4
    obtain ⟨k0, k1, k2, kf⟩ := id v4.reads
    clear kf
    go_wp2_with fail
    refine (implObjectId_any _ A1 c1 3 zs s _ o5.row (Nat.le_refl _) hm hs').mono ?_
    rintro e w5 ⟨rfl, hb5⟩
    go_wp2
    go_ret
    exact .mk_ (b4.trans (hb5.mono b4.size))
  · have e1 : (kd != 2) = true := by rw [bne_iff_ne]; exact ek
    generalize oid kd zs s.data.toList = I at *
    go_wp2
    go_ret
    exact .mk_ b3
theorem FnIdKind_any (A : Option Addr) (c : Nat) (bs : List Int) (w : World) (f1 : Row w w.heap.size A (bs.map (Value.int .u8))) (f2 : bs.length ≤ c) (f3 : c ≤ maxLen) (f4 : ∀ n ∈ bs, 0 ≤ n ∧ n < 256) :
    Calls Try.prog 9 #[.slice A bs.length c] w (Ret (.bool true) w) := by
  by_cases hl : bs.length ≤ 1048576
  · exact FnIdKind_yes A c bs w ⟨f1, f2, f3, f4⟩ hl
  · exact FnIdKind_no A c bs w ⟨f1, f2, f3, f4⟩ hl
end Go.Proofs.Ytglcnlinfojflaa
