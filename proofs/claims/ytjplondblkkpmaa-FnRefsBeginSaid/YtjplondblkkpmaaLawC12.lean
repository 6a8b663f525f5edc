/- The coordinator with the slices $SA and $SB is stored as the answer, with the word $BB. -/
/- Laws on coordinators: a coordinator is boxed. -/
/- On to the world behind D. -/
/- An exact law begins: the argument's box, its size, a copy for the model. -/
/- The program's own copy of the argument is boxed. -/
/- The program's copy is as the argument; the region draws. -/
/- Laws on functions that answer numbers. -/
/- What the boxes hold is read again. -/
/- The coordinator with the slices P4 and P5 is boxed as P6, in block P7, behind it the world P3; ahead of region P1. -/
/- The draw, the program's answer, the model's, and that they are the same: behind it w5, all facts on it by way of dx. -/
/-
  Walk of the law on the refs ahead of all transactions.
-/
import Derived.Test.YtjplondblkkpmaaG5C
import Derived.Test.YtjplondblkkpmaaRfsJ
import Derived.Test.YtjplondblkkpmaaG5X
import Derived.Test.YtjplondblkkpmaaLawCo5
import Derived.Test.YtjplondblkkpmaaRefV
namespace Go.Proofs.Ytjplondblkkpmaa
open Go.RowKit Wo Pu Rf Co
set_option linter.unusedVariables false
set_option linter.unusedSimpArgs false

theorem FnRefsBegin_no (A : Option Addr) (c : Nat) (bs : List Int) (w : World) (h : Code_ w A c bs) (hl : ¬ bs.length ≤ 1048576) :
    Calls Try.prog 4 #[.slice A bs.length c] w (Ret (.bool true) w) := by
  have hc := h.2.1
  have hm := h.2.2.1
  unfold maxLen at hm
  go_enter Try.func4, Try.ntmps4
  go_wp2
  go_ret
  exact .mk_ (Below.refl _ _)
set_option linter.unusedSimpArgs false in
set_option linter.unusedVariables false in
set_option maxRecDepth 100000 in
set_option maxHeartbeats 16000000 in
theorem FnRefsBegin_yes (A : Option Addr) (c : Nat) (bs : List Int) (w : World) (h : Code_ w A c bs) (hl : bs.length ≤ 1048576) :
    Calls Try.prog 4 #[.slice A bs.length c] w (Ret (.bool true) w) := by
  go_enter Try.func4, Try.ntmps4
  go_wp2_with fail
  refine (DrawCoordinatorRefs_any A c bs _ h).mono ?_
  rintro e w1 ⟨v1, q, s, m, rfl, s1, hs, bw⟩
  obtain ⟨zs, hz⟩ := refsC_ex q s m
  have HZ := hid hz
  have HSM := hid hs
  have hqo := hs.os
  have CI := hid fun (w9 : World) (hw9 : Below w1.heap.size w1 w9) (m' : Int) (z' : List Int) (hz' : RefsC q s m' z') => implCoordinatorRefs_is z' v1 q s m' w9 (s1.on hw9 hw9.size) hs.fit hz'
  have CS := hid fun (w9 : World) (hw9 : Below w1.heap.size w1 w9) => specCoordinatorRefs_is zs v1 q s m w9 (s1.on hw9 hw9.size) hs.fit hz
  clear hz hs
  obtain ⟨A1, c1, B1, k1, rfl, T1, hc1, R1, hd1⟩ := s1
  unfold crV at *
  go_upto_region 4 with fail
  have al := (Below.refl (w1).heap.size w1).alloc (Nat.le_refl _) (.cells #[.slice A1 q.ts.length c1, .slice B1 q.os.length k1] 26)
  have xn := Blk2s.new_ w1 26 (.slice A1 q.ts.length c1) (.slice B1 q.os.length k1)
  obtain ⟨w2, hw'⟩ : ∃ x, (w1).alloc (.cells #[.slice A1 q.ts.length c1, .slice B1 q.os.length k1] 26) = x := ⟨_, rfl⟩
  rw [hw'] at al xn ⊢
  clear hw'
  have x1 := xn
  have D1 := al
  obtain ⟨y1, z1, -⟩ := id x1.reads
  clear xn al
  go_wp2_with fail
  refine (CI.out _ D1 _ _ HZ.out).mono ?_
  rintro e w3 ⟨Ao, co, rfl, oo, d3⟩
  have D3 := D1.trans (d3.mono D1.size)
  have x3 := x1.later d3
  clear x1 D1 d3 y1 z1
  obtain ⟨y1, z1, -⟩ := id x3.reads
  go_wp2_with fail
  refine (CS.out _ D3).mono ?_
  rintro e w4 ⟨Aw, cw, rfl, rw4, -, d4⟩
  have x4 := x3.later d4
  have D4 := hid (D3.trans (d4.mono D3.size))
  have o4 := oo.below d4 (Nat.le_refl _)
  have HF : Hid (∀ x, Below w4.heap.size w4 x → x.cell? ⟨w1.heap.size, 0, none⟩ = some (.slice A1 q.ts.length c1) ∧ x.cell? ⟨w1.heap.size, 1, none⟩ = some (.slice B1 q.os.length k1)) := fun x hx => ⟨(x4.later hx).reads.1, (x4.later hx).reads.2.1⟩
  have hzl : zs.length ≤ 4 := by
    rcases HZ.out.alt with e | ⟨k, -, -, -, -, e⟩
    · rw [e]; simp
    · rw [e, refsC_len]; exact Nat.le_refl _
  have CM := hid fun (w9 : World) (hw9 : Below w4.heap.size w4 w9) => sameInts_ret Ao Aw co cw zs w9 _ _ (o4.row.below hw9 (Nat.le_refl _)) (rw4.below hw9 (Nat.le_refl _)) (by unfold maxLen; omega)
  have dx := Below.refl w4.heap.size w4
  have HLT : Hid (w1.heap.size < w4.heap.size) := x4.lt
  replace bw := bw.trans (D4.out.mono bw.size)
  clear y1 z1 x3 x4 D3 d4 oo CS
  obtain ⟨y1, z1⟩ := HF.out _ dx
  go_wp2_with fail
  refine (CM.out _ dx).mono ?_
  rintro e w5 ⟨rfl, dn⟩
  replace dx := dx.trans (dn.mono dx.size)
  clear y1 z1 dn
  obtain ⟨y1, z1⟩ := HF.out _ dx
  rcases HZ.out.alt with rfl | ⟨k, rfl, hvq, hs, hk, ez⟩
  · skip
    go_wp2_with fail
    refine (CM.out _ dx).mono ?_
    rintro e w6 ⟨rfl, dn⟩
    replace dx := dx.trans (dn.mono dx.size)
    clear y1 z1 dn
    obtain ⟨y1, z1⟩ := HF.out _ dx
    go_wp2
    go_ret
    exact .mk_ (bw.trans (dx.mono bw.size))
  · have hl4 : zs.length = 4 := by rw [ez, refsC_len]
    have e0 : ((zs.length : Int) == 0) = false := by rw [beq_eq_false_iff_ne]; omega
    have HRV : Hid (RV zs) := by
      show RV zs
      rw [ez]
      exact refsC_RV hvq s k hk
    have CX := hid fun (w9 : World) (hw9 : Below w1.heap.size w1 w9) => CI.out w9 hw9 0 [-1, -1, -1, -1] (.inl ⟨0, rfl, hvq, hs, Nat.zero_le _, (refsC_none q s).symm⟩)
    have HL4 := hid hl4
    clear hvq hs hk ez CI CM HZ hl4
    go_wp2_with fail
    refine (CX.out _ (D4.out.trans (dx.mono D4.out.size))).mono ?_
    rintro e w6 ⟨Ax, cx, rfl, ox, d⟩
    replace dx := dx.trans (d.mono dx.size)
    clear y1 z1 d CX
    obtain ⟨y1, z1⟩ := HF.out _ dx
    have al := (Below.refl w6.heap.size w6).alloc (Nat.le_refl _) (.cells #[.int .i64 (-1), .int .i64 (-1), .int .i64 (-1), .int .i64 (-1)] 3)
    have rN : Row (w6.alloc (.cells #[.int .i64 (-1), .int .i64 (-1), .int .i64 (-1), .int .i64 (-1)] 3)) (w6.heap.size + 1) (some ⟨w6.heap.size, 0, none⟩) (ints [-1, -1, -1, -1]) := .inr ⟨_, rfl, Nat.lt_succ_self _, World.news_of_block (cs := #[.int .i64 (-1), .int .i64 (-1), .int .i64 (-1), .int .i64 (-1)]) (heap_alloc_new _ _)⟩
    have CSI := hid (sameInts_ret Ax (some ⟨w6.heap.size, 0, none⟩) cx 4 [-1, -1, -1, -1] _ _ _ (ox.below al (Nat.le_refl _)).row rN (by unfold maxLen; decide))
    have CRV := hid fun (w9 : World) (hw9 : Below w4.heap.size w4 w9) => implRefsValid_is true Ao co zs w9 _ (o4.row.below hw9 (Nat.le_refl _)) (by omega) ⟨fun _ => HRV.out, fun _ => rfl⟩
    replace dx := dx.trans (al.mono dx.size)
    clear ox rN al y1 z1
    go_wp2_with fail
    refine CSI.out.mono ?_
    rintro e w7 ⟨rfl, d⟩
    replace dx := dx.trans (d.mono dx.size)
    clear CSI d
    go_wp2_with fail
    refine (CRV.out _ dx).mono ?_
    rintro e w8 ⟨rfl, d⟩
    replace dx := dx.trans (d.mono dx.size)
    clear CRV d
    go_wp2
    go_ret
    exact .mk_ (bw.trans (dx.mono bw.size))
theorem FnRefsBegin_any (A : Option Addr) (c : Nat) (bs : List Int) (w : World) (f1 : Row w w.heap.size A (bs.map (Value.int .u8))) (f2 : bs.length ≤ c) (f3 : c ≤ maxLen) (f4 : ∀ n ∈ bs, 0 ≤ n ∧ n < 256) :
    Calls Try.prog 4 #[.slice A bs.length c] w (Ret (.bool true) w) := by
  by_cases hl : bs.length ≤ 1048576
  · exact FnRefsBegin_yes A c bs w ⟨f1, f2, f3, f4⟩ hl
  · exact FnRefsBegin_no A c bs w ⟨f1, f2, f3, f4⟩ hl
end Go.Proofs.Ytjplondblkkpmaa
