/-
  Walks: comparisons of packs and of lists of objects that are the same.
-/
import Derived.Test.YtpcfabgjdefkiaaEnts
import Derived.Test.YtpcfabgjdefkiaaLater
namespace Go.Proofs.Ytpcfabgjdefkiaa
open Go.RowKit Wo Pu

set_option maxHeartbeats 1000000 in
theorem sameIntsP_same (B C : Nat) (A A' : Option Addr) (c c' : Nat) (zs : List Int) (w : World) (hr : Row w B A (ints zs)) (hr' : Row w C A' (ints zs)) (hm : zs.length ≤ maxLen) :
    Calls Try.prog 32 #[.slice A zs.length c, .slice A' zs.length c'] w (Ret (.bool true) w) := by
  unfold maxLen at hm
  go_enter Try.func32, Try.ntmps32
  go_wp2
  go_loopw [5] (fun i wr => ∃ k : Nat, k ≤ zs.length ∧ i = .int .i64 k ∧ Dr w wr) (fun i _ => zs.length - (intOf i).toNat)
  case atStart => exact ⟨0, Nat.zero_le _, rfl, .refl _⟩
  case round =>
    obtain ⟨k, hk, rfl, HW⟩ := hrel
    by_cases hlt : k < zs.length
    · obtain ⟨ad, rfl, hb, hc⟩ := (HW.row hr).int_ hlt
      obtain ⟨ad', rfl, hb', hc'⟩ := (HW.row hr').int_ hlt
      go_wp2
      go_quiet (fail)
      go_wp2
      go_roundw
      case rel => exact ⟨k + 1, by omega, by go_num, HW.drewN _⟩
      case measure => simp [intOf]; omega
    · have hk' : k = zs.length := by omega
      subst hk'
      go_wp2
      go_ret
      exact .mk_ (HW.below _)

set_option maxRecDepth 100000 in
set_option maxHeartbeats 4000000 in
theorem samePack_same (A A2 : Option Addr) (c c2 : Nat) (es : List Ent) (w : World) (h : Ents w w.heap.size A es) (h2 : Ents w w.heap.size A2 es) (hn : es.length ≤ 1048576) (hf : ∀ e ∈ es, e.zs.length ≤ 1048576 ∧ e.ops.length ≤ 1048576) :
    Calls Try.prog 22 #[.slice A es.length c, .slice A2 es.length c2] w (Ret (.bool true) w) := by
  go_enter Try.func22, Try.ntmps22
  go_wp2
  go_loopw [5] (fun i wr => ∃ k : Nat, k ≤ es.length ∧ i = .int .i64 k ∧ Below w.heap.size w wr) (fun i _ => es.length - (intOf i).toNat)
  case atStart => exact ⟨0, Nat.zero_le _, rfl, Below.refl _ _⟩
  case round =>
    obtain ⟨k, hk, rfl, hb⟩ := hrel
    by_cases hlt : k < es.length
    · obtain ⟨e, ad, A1, c1, A3, c3, he, rfl, ha, g0, g1, g2, g3, g4, g5⟩ := (h.below hb (Nat.le_refl _)).ent hlt
      obtain ⟨e2, ad2, A12, c12, A32, c32, he2, rfl, ha2, k0, k1, k2, k3, k4, k5⟩ := (h2.below hb (Nat.le_refl _)).ent hlt
      obtain rfl : e = e2 := by rw [← he, ← he2]
      obtain ⟨hm1, hm2⟩ := hf e (by rw [← he]; exact List.getElem_mem hlt)
      have i0 : 0 ≤ (k : Int) := by omega
      have i1 : (k : Int) < (es.length : Int) := by omega
      have hz := hb.size
      have G0 := Later.cell g0 ha
      have G1 := Later.cell (p := ⟨(ad.add (k * 4)).block, (ad.add (k * 4)).off + 1, none⟩) g1 ha
      have G2 := Later.cell (p := ⟨(ad.add (k * 4)).block, (ad.add (k * 4)).off + 2, none⟩) g2 ha
      have G3 := Later.cell (p := ⟨(ad.add (k * 4)).block, (ad.add (k * 4)).off + 3, none⟩) g3 ha
      have K0 := Later.cell k0 ha2
      have K1 := Later.cell (p := ⟨(ad2.add (k * 4)).block, (ad2.add (k * 4)).off + 1, none⟩) k1 ha2
      have K2 := Later.cell (p := ⟨(ad2.add (k * 4)).block, (ad2.add (k * 4)).off + 2, none⟩) k2 ha2
      have K3 := Later.cell (p := ⟨(ad2.add (k * 4)).block, (ad2.add (k * 4)).off + 3, none⟩) k3 ha2
      clear he he2 g0 g1 g2 g3 k0 k1 k2 k3
      go_wp2_with fail
      refine wp_region_later w.heap.size (by kernel_rfl) (by kernel_rfl) ?_
      repeat (go_big_quiet_step ((first | (go_at_call 32; exact Later.call hz _ (sameIntsP_same w.heap.size w.heap.size A1 A12 c1 c12 e.zs _ (g4.later _) (k4.later _) (by unfold maxLen; omega))) | (go_at_call 53; exact Later.call hz _ (sameOps_same A3 A32 c3 c32 e.ops _ ((g5.later _).more (Later.size hz _)) ((k5.later _).more (Later.size hz _)) hm2)))))
      refine wpQuiet_nil ?_
      intro _ hw'
      obtain ⟨xx, hxx⟩ := hw'
      have hbx := xx.b
      subst hxx
      go_wp2
      go_roundw
      case rel => exact ⟨k + 1, by omega, by go_num, hb.trans hbx⟩
      case measure => simp [intOf]; omega
    · have hk' : k = es.length := by omega
      subst hk'
      go_wp2
      go_ret
      exact .mk_ hb

theorem sameObjectP_same (B C : Nat) (A A' : Option Addr) (c c' : Nat) (kd : Int) (zs : List Int) (s : ByteArray) (w : World) (hr : Row w B A (ints zs)) (hr' : Row w C A' (ints zs)) (hB : B ≤ w.heap.size) (hC : C ≤ w.heap.size) (hm : zs.length ≤ maxLen) :
    Calls Try.prog 56 #[ob kd A zs.length c s, ob kd A' zs.length c' s] w (Ret (.bool true) w) := by
  unfold ob
  go_enter Try.func56, Try.ntmps56
  go_wp2_with fail
  refine (sameIntsP_same B C A A' c c' zs _ ((hr.alloc hB _).alloc (by simp; omega) _) ((hr'.alloc hC _).alloc (by simp; omega) _) hm).mono ?_
  rintro e w1 ⟨rfl, hb⟩
  go_wp2
  go_ret
  exact .mk_ ((((Below.refl _ _).alloc (Nat.le_refl _) _).alloc (by simp) _).trans (hb.mono (by simp; omega)))

set_option maxHeartbeats 2000000 in
theorem sameObjectsP_same (A A2 : Option Addr) (c c2 : Nat) (os : List Ob) (w : World) (h : Objs w w.heap.size A os) (h2 : Objs w w.heap.size A2 os) (hn : os.length ≤ 1048576) (hf : ∀ o ∈ os, o.zs.length ≤ 1048576) :
    Calls Try.prog 24 #[.slice A os.length c, .slice A2 os.length c2] w (Ret (.bool true) w) := by
  go_enter Try.func24, Try.ntmps24
  go_wp2
  go_loopw [5] (fun i wr => ∃ k : Nat, k ≤ os.length ∧ i = .int .i64 k ∧ Below w.heap.size w wr) (fun i _ => os.length - (intOf i).toNat)
  case atStart => exact ⟨0, Nat.zero_le _, rfl, Below.refl _ _⟩
  case round =>
    obtain ⟨k, hk, rfl, hb⟩ := hrel
    by_cases hlt : k < os.length
    · obtain ⟨o, ad, A', c', ho, rfl, ha1, g0, g1, g2, g3⟩ := (h.below hb (Nat.le_refl _)).obj hlt
      obtain ⟨o2, ad2, A2', c2', ho2, rfl, ha2, g20, g21, g22, g23⟩ := (h2.below hb (Nat.le_refl _)).obj hlt
      obtain rfl : o = o2 := by rw [← ho, ← ho2]
      have hmk : o.zs.length ≤ maxLen := by have := hf _ (List.getElem_mem hlt); rw [ho] at this; unfold maxLen; omega
      have k0 : 0 ≤ (k : Int) := by omega
      have k1 : (k : Int) < (os.length : Int) := by omega
      have hz := hb.size
      have G0 := Later.cell g0 ha1
      have G1 := Later.cell (p := ⟨(ad.add (k * 3)).block, (ad.add (k * 3)).off + 1, none⟩) g1 ha1
      have G2 := Later.cell (p := ⟨(ad.add (k * 3)).block, (ad.add (k * 3)).off + 2, none⟩) g2 ha1
      have G3 := Later.cell g20 ha2
      have G4 := Later.cell (p := ⟨(ad2.add (k * 3)).block, (ad2.add (k * 3)).off + 1, none⟩) g21 ha2
      have G5 := Later.cell (p := ⟨(ad2.add (k * 3)).block, (ad2.add (k * 3)).off + 2, none⟩) g22 ha2
      clear ho ho2 g0 g1 g2 g20 g21 g22
      go_wp2_with fail
      refine wp_region_later w.heap.size (by kernel_rfl) (by kernel_rfl) ?_
      repeat (go_big_quiet_step ((go_at_call 56; exact Later.call hz _ (sameObjectP_same w.heap.size w.heap.size A' A2' c' c2' o.kd o.zs o.s _ (g3.later _) (g23.later _) (Later.size hz _) (Later.size hz _) hmk))))
      refine wpQuiet_nil ?_
      intro _ hw'
      obtain ⟨xx, hxx⟩ := hw'
      have hbx := xx.b
      subst hxx
      go_wp2
      go_roundw
      case rel => exact ⟨k + 1, by omega, by go_num, hb.trans hbx⟩
      case measure => simp [intOf]; omega
    · have hk' : k = os.length := by omega
      subst hk'
      go_wp2
      go_ret
      exact .mk_ hb
end Go.Proofs.Ytpcfabgjdefkiaa
