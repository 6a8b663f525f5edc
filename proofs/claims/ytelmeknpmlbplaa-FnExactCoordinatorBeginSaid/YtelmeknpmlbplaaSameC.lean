/- The coordinator with the slices $SA and $SB is stored as the answer, with the word $BB. -/
/- Laws on coordinators: a coordinator is boxed. -/
/-
  Walks: the laws' own comparisons of parts and coordinators.
-/
import Derived.Test.YtelmeknpmlbplaaG0C
import Derived.Test.YtelmeknpmlbplaaG3C
import Derived.Deep.Cut
namespace Go.Proofs.Ytelmeknpmlbplaa
open Go.RowKit Wo Pu Rf Co

theorem RowC.later {B : Nat} {W : World} {A : Option Addr} {xs : List Value} (h : Row W B A xs) (x : Later B W) : Row x.w B A xs := h.below x.h (Nat.le_refl _)
theorem Parts.later_ {B : Nat} {W : World} {A : Option Addr} {ps : List Part} (h : Parts W B A ps) (x : Later B W) : Parts x.w B A ps := h.below x.h (Nat.le_refl _)
set_option linter.unusedSimpArgs false in
set_option maxRecDepth 100000 in
set_option maxHeartbeats 4000000 in
theorem sameParts_is (A A' : Option Addr) (c c' : Nat) (ps : List Part) (w : World) (h : Parts w w.heap.size A ps) (h' : Parts w w.heap.size A' ps) (hm : ps.length ≤ 1048600) (hu : ∀ p ∈ ps, p.us.length ≤ 1048576) :
    Calls Try.prog 68 #[.slice A ps.length c, .slice A' ps.length c'] w (Ret (.bool true) w) := by
  have HU := hid hu
  clear hu
  go_enter Try.func68, Try.ntmps68
  go_wp2_with fail
  go_loopw [5] (fun i wr => ∃ k : Nat, k ≤ ps.length ∧ i = .int .i64 k ∧ Below w.heap.size w wr) (fun i _ => ps.length - (intOf i).toNat)
  case atStart => exact ⟨0, Nat.zero_le _, rfl, Below.refl _ _⟩
  case round =>
    obtain ⟨k, hk, rfl, hb⟩ := hrel
    have hz := hb.size
    by_cases hlt : k < ps.length
    · obtain ⟨p, ad, A1, c1, ho, rfl, ha, g0, g1, -, g3⟩ := (h.on hb).part hlt
      obtain ⟨p', ad', A2, c2, ho', rfl, ha', g0', g1', -, g3'⟩ := (h'.on hb).part hlt
      obtain rfl : p' = p := ho'.symm.trans ho
      have hul := HU.out p' (by rw [← ho]; exact List.getElem_mem hlt)
      have k0 : (0 : Int) ≤ (k : Int) := by omega
      have k1 : (k : Int) < (ps.length : Int) := by omega
      have L0 := Later.cell g0 ha
      have L1 := Later.cell (p := ⟨(ad.add (k * 2)).block, (ad.add (k * 2)).off + 1, none⟩) g1 ha
      have L2 := Later.cell g0' ha'
      have L3 := Later.cell (p := ⟨(ad'.add (k * 2)).block, (ad'.add (k * 2)).off + 1, none⟩) g1' ha'
      have CU : Hid (∀ x, Row x wr.heap.size A1 (upsV p'.us) → Row x wr.heap.size A2 (upsV p'.us) → Calls Try.prog 96 #[.slice A1 p'.us.length c1, .slice A2 p'.us.length c2] x (Ret (.bool true) x)) := fun x r1 r2 => sameUpdates_ret A1 A2 c1 c2 p'.us x _ _ r1 r2 (by omega)
      clear g0 g1 g0' g1' ho ho'
      go_wp2_with fail
      refine wp_region_later wr.heap.size (by kernel_rfl) (by kernel_rfl) ?_
      repeat (go_big_quiet_step ((go_at_call 96; exact Later.call (Nat.le_refl _) _ (CU.out _ (RowC.later g3 _) (RowC.later g3' _)))))
      refine wpQuiet_nil ?_
      intro _ hw'
      obtain ⟨xx, hxx⟩ := hw'
      have hbx := xx.b
      subst hxx
      go_wp2
      go_roundw
      case rel => exact ⟨k + 1, by omega, by go_num, hb.trans (hbx.mono hz)⟩
      case measure => simp [intOf]; omega
    · have hk' : k = ps.length := by omega
      subst hk'
      go_wp2
      go_ret
      exact .mk_ hb
set_option linter.unusedSimpArgs false in
set_option maxRecDepth 100000 in
set_option maxHeartbeats 8000000 in
theorem sameCoordinator_is (v v' : Value) (q : Crd) (w : World) (h : Crdd w w.heap.size v q) (h' : Crdd w w.heap.size v' q) (hf : FitC q) :
    Calls Try.prog 27 #[v, v'] w (Ret (.bool true) w) := by
  have HF := hid hf
  have f1 := hf.ts
  have f2 := hf.os
  clear hf
  obtain ⟨A, c, A2, c2, rfl, hT, hc, hO, hc2⟩ := h
  obtain ⟨A', c', A2', c2', rfl, hT', hc', hO', hc2'⟩ := h'
  unfold crV
  have b1 := ((Below.refl w.heap.size w).alloc (Nat.le_refl _) (.cells #[.slice A q.ts.length c, .slice A2 q.os.length c2] 26)).alloc (by simp) (.cells #[.slice A' q.ts.length c', .slice A2' q.os.length c2'] 26)
  have x0 := (Blk2s.new_ w 26 (.slice A q.ts.length c) (.slice A2 q.os.length c2)).alloc (.cells #[.slice A' q.ts.length c', .slice A2' q.os.length c2'] 26)
  have x1 := Blk2s.new_ (w.alloc (.cells #[.slice A q.ts.length c, .slice A2 q.os.length c2] 26)) 26 (.slice A' q.ts.length c') (.slice A2' q.os.length c2')
  rw [World.size_alloc] at x1
  go_enter Try.func27, Try.ntmps27
  go_upto_region 1 with fail
  obtain ⟨w1, hw1⟩ : ∃ w1, (w.alloc (.cells #[.slice A q.ts.length c, .slice A2 q.os.length c2] 26)).alloc (.cells #[.slice A' q.ts.length c', .slice A2' q.os.length c2'] 26) = w1 := ⟨_, rfl⟩
  rw [hw1] at b1 x0 x1 ⊢
  clear hw1
  obtain ⟨y0, y1, -⟩ := id x0.reads
  obtain ⟨z0, z1, -⟩ := id x1.reads
  have CO := hid (sameInts_ret A2 A2' c2 c2' q.os w1 w.heap.size w.heap.size (hO.below b1 (Nat.le_refl _)) (hO'.below b1 (Nat.le_refl _)) (by unfold maxLen; omega))
  go_wp2_with fail
  refine CO.out.mono ?_
  rintro e w2 ⟨rfl, d⟩
  replace b1 := b1.trans (d.mono b1.size)
  replace x0 := x0.later d
  replace x1 := x1.later d
  clear CO y0 y1 z0 z1 d
  obtain ⟨y0, -⟩ := id x0.reads
  obtain ⟨z0, -⟩ := id x1.reads
  go_wp2_with fail
  clear y0 z0
  go_loopw [5] (fun i wr => ∃ k : Nat, k ≤ q.ts.length ∧ i = .int .i64 k ∧ Below w2.heap.size w2 wr) (fun i _ => q.ts.length - (intOf i).toNat)
  case atStart => exact ⟨0, Nat.zero_le _, rfl, Below.refl _ _⟩
  case round =>
    obtain ⟨k, hk, rfl, hb⟩ := hrel
    have hz := hb.size
    have hbw := b1.trans (hb.mono b1.size)
    have X0 := x0.later hb
    have X1 := x1.later hb
    obtain ⟨y0, -⟩ := id X0.reads
    obtain ⟨z0, -⟩ := id X1.reads
    by_cases hlt : k < q.ts.length
    · obtain ⟨t, ad, A1, c1, B1, e1, ho, rfl, ha, g0, g1, g2, -, -, g5, g6⟩ := ((hT.below hbw (Nat.le_refl _)).more hbw.size).tx hlt
      obtain ⟨t', ad', A1', c1', B1', e1', ho', rfl, ha', g0', g1', g2', -, -, g5', g6'⟩ := ((hT'.below hbw (Nat.le_refl _)).more hbw.size).tx hlt
      obtain rfl : t' = t := ho'.symm.trans ho
      have hps := HF.out.ps t' (by rw [← ho]; exact List.getElem_mem hlt)
      have hus := HF.out.us t' (by rw [← ho]; exact List.getElem_mem hlt)
      have hps1 := hps.1
      have hps2 := hps.2
      have k0 : (0 : Int) ≤ (k : Int) := by omega
      have k1 : (k : Int) < (q.ts.length : Int) := by omega
      have L0 := Later.cell g0 ha
      have L1 := Later.cell (p := ⟨(ad.add (k * 3)).block, (ad.add (k * 3)).off + 1, none⟩) g1 ha
      have L2 := Later.cell (p := ⟨(ad.add (k * 3)).block, (ad.add (k * 3)).off + 2, none⟩) g2 ha
      have L3 := Later.cell g0' ha'
      have L4 := Later.cell (p := ⟨(ad'.add (k * 3)).block, (ad'.add (k * 3)).off + 1, none⟩) g1' ha'
      have L5 := Later.cell (p := ⟨(ad'.add (k * 3)).block, (ad'.add (k * 3)).off + 2, none⟩) g2' ha'
      have L6 := Later.cell y0 X0.lt
      have L7 := Later.cell z0 X1.lt
      have CI : Hid (∀ x, Row x wr.heap.size B1 (ints t'.vs) → Row x wr.heap.size B1' (ints t'.vs) → Calls Try.prog 17 #[.slice B1 t'.vs.length e1, .slice B1' t'.vs.length e1'] x (Ret (.bool true) x)) := fun x r1 r2 => sameInts_ret B1 B1' e1 e1' t'.vs x _ _ r1 r2 (by unfold maxLen; omega)
      have CP : Hid (∀ x, Parts x x.heap.size A1 t'.ps → Parts x x.heap.size A1' t'.ps → Calls Try.prog 68 #[.slice A1 t'.ps.length c1, .slice A1' t'.ps.length c1'] x (Ret (.bool true) x)) := fun x r1 r2 => sameParts_is A1 A1' c1 c1' t'.ps x r1 r2 (by omega) hus
      clear g0 g1 g2 g0' g1' g2' ho ho' X0 X1 hus hps
      go_wp2_with fail
      refine wp_region_later wr.heap.size (by kernel_rfl) (by kernel_rfl) ?_
      repeat (go_big_quiet_step ((first | (go_at_call 17; exact Later.call (Nat.le_refl _) _ (CI.out _ (RowC.later g6 _) (RowC.later g6' _))) | (go_at_call 68; exact Later.call (Nat.le_refl _) _ (CP.out _ ((Parts.later_ g5 _).more (Later.size (Nat.le_refl _) _)) ((Parts.later_ g5' _).more (Later.size (Nat.le_refl _) _)))))))
      refine wpQuiet_nil ?_
      intro _ hw'
      obtain ⟨xx, hxx⟩ := hw'
      have hbx := xx.b
      subst hxx
      go_wp2
      go_roundw
      case rel => exact ⟨k + 1, by omega, by go_num, hb.trans (hbx.mono hz)⟩
      case measure => simp [intOf]; omega
    · have hk' : k = q.ts.length := by omega
      subst hk'
      go_wp2
      go_ret
      exact .mk_ hbw
end Go.Proofs.Ytelmeknpmlbplaa
