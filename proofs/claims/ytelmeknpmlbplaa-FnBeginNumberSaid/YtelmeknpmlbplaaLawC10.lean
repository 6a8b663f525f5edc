/- The coordinator with the slices $SA and $SB is stored as the answer, with the word $BB. -/
/- Laws on coordinators: a coordinator is boxed. -/
/-
  Walk of the law on the numbers of transactions.
-/
import Derived.Test.YtelmeknpmlbplaaLawCo5
namespace Go.Proofs.Ytelmeknpmlbplaa
open Go.RowKit Wo Pu Rf Co
set_option linter.unusedVariables false
set_option linter.unusedSimpArgs false

theorem begun_flag {q x : Crd} {ps : List Part} {b : Bool} (h : Begun q ps x b) (hv : CV q) (hp : PartsV ps) : b = decide (q.ts.length < 12) ∧ (b = true → x.ts.length = q.ts.length + 1) := by
  cases h with
  | bad h => exact absurd ⟨hv, hp⟩ h
  | full _ _ h => exact ⟨(decide_eq_false h).symm, fun e => by cases e⟩
  | yes _ _ h => exact ⟨(decide_eq_true h).symm, fun _ => by show (q.ts ++ [fresh ps]).length = _; simp⟩
theorem FnBeginNumber_no (A : Option Addr) (c : Nat) (bs : List Int) (w : World) (h : Code_ w A c bs) (hl : ¬ bs.length ≤ 1048576) :
    Calls Try.prog 7 #[.slice A bs.length c] w (Ret (.bool true) w) := by
  have hc := h.2.1
  have hm := h.2.2.1
  unfold maxLen at hm
  go_enter Try.func7, Try.ntmps7
  go_wp2
  go_ret
  exact .mk_ (Below.refl _ _)
set_option linter.unusedSimpArgs false in
set_option linter.unusedVariables false in
set_option maxRecDepth 100000 in
set_option maxHeartbeats 8000000 in
theorem FnBeginNumber_yes (A : Option Addr) (c : Nat) (bs : List Int) (w : World) (h : Code_ w A c bs) (hl : bs.length ≤ 1048576) :
    Calls Try.prog 7 #[.slice A bs.length c] w (Ret (.bool true) w) := by
  go_enter Try.func7, Try.ntmps7
  go_wp2_with fail
  refine (DrawCoordinatorBegin_any A c bs _ h).mono ?_
  rintro e w1 ⟨v1, q, Ap, cp, ps, rfl, s1, hs, hp, hpl, hpu, hpc, bw⟩
  obtain ⟨xs, b, hv⟩ := begun_ex q ps
  have HV := hid hv
  have HSM := hid hs
  have HSP := hid hpu
  have HSX := hid (cv_few hv.valid).1.fit
  have HVX := hid hv.valid
  have HP := hid fun (w9 : World) (hw9 : Below w1.heap.size w1 w9) => (hp.on hw9 : Parts w9 w9.heap.size Ap ps)
  have CI := hid fun (w9 : World) (hw9 : Below w1.heap.size w1 w9) => implCoordinatorBegin_is xs b v1 q Ap cp ps w9 (s1.on hw9 hw9.size) hs.fit (hp.on hw9) (by omega) (fun p hp => by have := hpu p hp; omega) hv
  have CS := hid fun (w9 : World) (hw9 : Below w1.heap.size w1 w9) => specCoordinatorBegin_is xs b v1 q Ap cp ps w9 (s1.on hw9 hw9.size) hs.fit (hp.on hw9) (by omega) (fun p hp => by have := hpu p hp; omega) hv
  clear hv hs hp hpu
  obtain ⟨A1, c1, B1, k1, rfl, T1, hc1, R1, hd1⟩ := s1
  unfold crV at *
  go_upto_region 4 with fail
  have al := (Below.refl (w1).heap.size w1).alloc (Nat.le_refl _) (.cells #[.slice A1 q.ts.length c1, .slice B1 q.os.length k1] 26)
  have xn := Blk2s.new_ w1 26 (.slice A1 q.ts.length c1) (.slice B1 q.os.length k1)
  obtain ⟨w2, hw'⟩ : ∃ x, (w1).alloc (.cells #[.slice A1 q.ts.length c1, .slice B1 q.os.length k1] 26) = x := ⟨_, rfl⟩
  rw [hw'] at al xn ⊢
  clear hw'
  have x1 := xn
  have D1 := al
  obtain ⟨y1, z1, -⟩ := id x1.reads
  clear xn al
  go_wp2_with fail
  refine (CI.out _ D1).mono ?_
  rintro e w3 ⟨v3, col3, rfl, o3, d3⟩
  obtain ⟨A2, c2, B2, k2, rfl, -⟩ := o3.form
  unfold crV at o3 ⊢
  have D3 := D1.trans (d3.mono D1.size)
  have X1 := x1.later d3
  clear x1 D1 d3 y1 z1 CI
  go_upto_region 5 with fail
  have al := (Below.refl (w3).heap.size w3).alloc (Nat.le_refl _) (.cells #[.slice A2 xs.ts.length c2, .slice B2 xs.os.length k2] 26)
  have xn := Blk2s.new_ w3 26 (.slice A2 xs.ts.length c2) (.slice B2 xs.os.length k2)
  obtain ⟨w4, hw'⟩ : ∃ x, (w3).alloc (.cells #[.slice A2 xs.ts.length c2, .slice B2 xs.os.length k2] 26) = x := ⟨_, rfl⟩
  rw [hw'] at al xn ⊢
  clear hw'
  have x2 := xn
  have x1 := X1.later al
  have D4 := D3.trans (al.mono D3.size)
  have q2 := o3.below al
  obtain ⟨y1, z1, -⟩ := id x1.reads
  clear xn al X1 D3 o3
  go_wp2_with fail
  refine (CS.out _ D4).mono ?_
  rintro e w5 ⟨v5, col5, rfl, o5, d5⟩
  obtain ⟨A3, c3, B3, k3, rfl, -⟩ := o5.form
  unfold crV at o5 ⊢
  have D5 := D4.trans (d5.mono D4.size)
  have X1 := x1.later d5
  have X2 := x2.later d5
  have q3 := q2.below d5
  clear x1 x2 D4 d5 y1 z1 CS q2
  go_upto_region 6 with fail
  have al := (Below.refl (w5).heap.size w5).alloc (Nat.le_refl _) (.cells #[.slice A3 xs.ts.length c3, .slice B3 xs.os.length k3] 26)
  have xn := Blk2s.new_ w5 26 (.slice A3 xs.ts.length c3) (.slice B3 xs.os.length k3)
  obtain ⟨w6, hw'⟩ : ∃ x, (w5).alloc (.cells #[.slice A3 xs.ts.length c3, .slice B3 xs.os.length k3] 26) = x := ⟨_, rfl⟩
  rw [hw'] at al xn ⊢
  clear hw'
  have x1 := X1.later al
  have x2 := X2.later al
  have D6 := D5.trans (al.mono D5.size)
  have q4 := q3.below al
  have p4 := o5.below al
  have b6 := bw.trans (D6.mono bw.size)
  have HD6 := hid D6
  have HF : Hid (∀ x, Below w6.heap.size w6 x → (x.cell? ⟨w1.heap.size, 0, none⟩ = some (.slice A1 q.ts.length c1) ∧ x.cell? ⟨w1.heap.size, 1, none⟩ = some (.slice B1 q.os.length k1)) ∧ (x.cell? ⟨w3.heap.size, 0, none⟩ = some (.slice A2 xs.ts.length c2) ∧ x.cell? ⟨w3.heap.size, 1, none⟩ = some (.slice B2 xs.os.length k2)) ∧ (x.cell? ⟨w5.heap.size, 0, none⟩ = some (.slice A3 xs.ts.length c3) ∧ x.cell? ⟨w5.heap.size, 1, none⟩ = some (.slice B3 xs.os.length k3))) := fun x hx =>
    ⟨⟨(x1.later hx).reads.1, (x1.later hx).reads.2.1⟩, ⟨(x2.later hx).reads.1, (x2.later hx).reads.2.1⟩, (xn.later hx).reads.1, (xn.later hx).reads.2.1⟩
  have HT1 : Hid (∀ x, Below w6.heap.size w6 x → Txs x x.heap.size A1 q.ts) := fun x hx => T1.on (D6.trans (hx.mono D6.size))
  have HR1 : Hid (∀ x, Below w6.heap.size w6 x → Row x x.heap.size B1 (ints q.os)) := fun x hx => (R1.below (D6.trans (hx.mono D6.size)) (Nat.le_refl _)).more (Nat.le_trans D6.size hx.size)
  have HC1 : Hid (∀ x, Below w6.heap.size w6 x → Crdd x x.heap.size (.agg #[.slice A1 q.ts.length c1, .slice B1 q.os.length k1]) q) := fun x hx => ⟨A1, c1, B1, k1, rfl, HT1.out x hx, hc1, HR1.out x hx, hd1⟩
  have HO2 : Hid (∀ x, Below w6.heap.size w6 x → OwnCr col3 x w2.heap.size (.agg #[.slice A2 xs.ts.length c2, .slice B2 xs.os.length k2]) xs) := fun x hx => q4.below hx
  have HC2 : Hid (∀ x, Below w6.heap.size w6 x → Crdd x x.heap.size (.agg #[.slice A2 xs.ts.length c2, .slice B2 xs.os.length k2]) xs) := fun x hx => (q4.below hx).crd
  have HC3 : Hid (∀ x, Below w6.heap.size w6 x → Crdd x x.heap.size (.agg #[.slice A3 xs.ts.length c3, .slice B3 xs.os.length k3]) xs) := fun x hx => (p4.below hx).crd
  have dx := Below.refl w6.heap.size w6
  have HLT : Hid (w1.heap.size < w6.heap.size ∧ w3.heap.size < w6.heap.size ∧ w5.heap.size < w6.heap.size) := ⟨x1.lt, x2.lt, xn.lt⟩
  replace bw := b6
  clear b6 x1 x2 xn X1 X2 al D5 D6 q3 q4 p4 o5 T1 R1
  obtain ⟨⟨y1, z1⟩, ⟨y2, z2⟩, y3, z3⟩ := HF.out _ dx
  go_wp2_with fail
  refine (sameCoordinator_is _ _ xs _ (HC2.out _ dx) (HC3.out _ dx) HSX.out).mono ?_
  rintro e w7 ⟨rfl, dn⟩
  replace dx := dx.trans ((dn).mono dx.size)
  clear y1 z1 y2 z2 y3 z3 dn
  obtain ⟨⟨y1, z1⟩, ⟨y2, z2⟩, y3, z3⟩ := HF.out _ dx
  cases b with
  | false =>
    go_wp2_with fail
    refine (sameCoordinator_is _ _ xs _ (HC2.out _ dx) (HC3.out _ dx) HSX.out).mono ?_
    rintro e w8 ⟨rfl, dn⟩
    replace dx := dx.trans ((dn).mono dx.size)
    clear y1 z1 y2 z2 y3 z3 dn
    obtain ⟨⟨y1, z1⟩, ⟨y2, z2⟩, y3, z3⟩ := HF.out _ dx
    go_wp2
    go_ret
    exact .mk_ (bw.trans (dx.mono bw.size))
  | true =>
    obtain ⟨hvq, hvp, h12, hx⟩ := begun_yes HV.out
    have hxl : xs.ts.length = q.ts.length + 1 := by rw [hx]; show (q.ts ++ [fresh ps]).length = _; simp
    obtain ⟨xs2, b2, hv2⟩ := begun_ex xs ps
    obtain ⟨hb2, hl2⟩ := begun_flag hv2 HVX.out hvp
    have CI2 := hid fun (w9 : World) (hw9 : Below w6.heap.size w6 w9) => implCoordinatorBegin_is xs2 b2 _ xs Ap cp ps w9 (HC2.out _ hw9) HSX.out (HP.out _ (HD6.out.trans (hw9.mono HD6.out.size))) (by omega) (fun p hp => by have := HSP.out p hp; omega) hv2
    have HXL := hid hxl
    have HB2 := hid hb2
    have HL2 := hid hl2
    clear hvq hvp hx hxl hv2 hb2 hl2
    go_wp2_with fail
    refine (CI2.out _ dx).mono ?_
    rintro e w8 ⟨v8, col8, rfl, o8, d8⟩
    obtain ⟨A8, c8, B8, k8, rfl, -⟩ := o8.form
    unfold crV at o8 ⊢
    replace dx := dx.trans ((d8).mono dx.size)
    clear y1 z1 y2 z2 y3 z3 d8
    obtain ⟨⟨y1, z1⟩, ⟨y2, z2⟩, y3, z3⟩ := HF.out _ dx
    clear CI2
    go_upto_region 9 with fail
    have al := (Below.refl (w8).heap.size w8).alloc (Nat.le_refl _) (.cells #[.slice A8 xs2.ts.length c8, .slice B8 xs2.os.length k8] 26)
    have xn := Blk2s.new_ w8 26 (.slice A8 xs2.ts.length c8) (.slice B8 xs2.os.length k8)
    obtain ⟨w9, hw'⟩ : ∃ x, (w8).alloc (.cells #[.slice A8 xs2.ts.length c8, .slice B8 xs2.os.length k8] 26) = x := ⟨_, rfl⟩
    rw [hw'] at al xn ⊢
    clear hw'
    have x4 := xn
    replace dx := dx.trans ((al).mono dx.size)
    clear y1 z1 y2 z2 y3 z3 al
    obtain ⟨⟨y1, z1⟩, ⟨y2, z2⟩, y3, z3⟩ := HF.out _ dx
    clear xn o8
    obtain ⟨y4, z4, -⟩ := id x4.reads
    by_cases h3 : xs.ts.length < 12
    · have e1 : b2 = true := by rw [HB2.out]; exact decide_eq_true h3
      subst e1
      have e2 : decide ((xs.ts.length : Int) < 12) = true := decide_eq_true (by omega)
      have e3 : IntKind.i64.wrap ((q.ts.length : Int) + 2) = (q.ts.length : Int) + 2 := IntWalk.i64_in _ (by omega)
      have e4 : ((xs2.ts.length : Int) == (q.ts.length : Int) + 2) = true := by
        rw [beq_iff_eq, HL2.out rfl, HXL.out]
        omega
      clear HB2 h3 HL2
      go_wp2
      go_ret
      exact .mk_ (bw.trans (dx.mono bw.size))
    · have e1 : b2 = false := by rw [HB2.out]; exact decide_eq_false h3
      subst e1
      have e2 : decide ((xs.ts.length : Int) < 12) = false := decide_eq_false (by omega)
      clear HB2 h3 HL2
      go_wp2
      go_ret
      exact .mk_ (bw.trans (dx.mono bw.size))
theorem FnBeginNumber_any (A : Option Addr) (c : Nat) (bs : List Int) (w : World) (f1 : Row w w.heap.size A (bs.map (Value.int .u8))) (f2 : bs.length ≤ c) (f3 : c ≤ maxLen) (f4 : ∀ n ∈ bs, 0 ≤ n ∧ n < 256) :
    Calls Try.prog 7 #[.slice A bs.length c] w (Ret (.bool true) w) := by
  by_cases hl : bs.length ≤ 1048576
  · exact FnBeginNumber_yes A c bs w ⟨f1, f2, f3, f4⟩ hl
  · exact FnBeginNumber_no A c bs w ⟨f1, f2, f3, f4⟩ hl
end Go.Proofs.Ytelmeknpmlbplaa
