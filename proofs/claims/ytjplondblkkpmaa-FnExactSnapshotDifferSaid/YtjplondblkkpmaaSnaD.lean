/- The coordinator with the slices $SA and $SB is stored as the answer, with the word $BB. -/
/- Laws on coordinators: a coordinator is boxed. -/
/- On to the world behind D. -/
/- An exact law begins: the argument's box, its size, a copy for the model. -/
/- The program's own copy of the argument is boxed. -/
/- The program's copy is as the argument; the region draws. -/
/- Laws on functions that answer numbers. -/
/- What the boxes hold is read again. -/
/- The coordinator with the slices P4 and P5 is boxed as P6, in block P7, behind it the world P3; ahead of region P1. -/
/- The draw, the program's answer, the model's, and that they are the same: behind it w5, all facts on it by way of dx. -/
/-
  Walks: the shards whose refs differ, by the program.
-/
import Derived.Test.YtjplondblkkpmaaRfsJ
import Derived.Test.YtjplondblkkpmaaG5X
import Derived.Test.YtjplondblkkpmaaBlk4
import Derived.ChangeKeysEq
import Derived.Laws.StructEq
namespace Go.Proofs.Ytjplondblkkpmaa
open Go.RowKit Wo Pu Rf Co
set_option linter.unusedVariables false
set_option linter.unusedSimpArgs false

theorem info_i64 : ∃ i, Try.prog.info? 3 = some i := by
  obtain ⟨i0, hi, -⟩ := info_of info_int
  exact ⟨i0, hi⟩
theorem run_eqIn_ra (xs ys : List Int) (h : xs.length = 4) (h' : ys.length = 4) (d : Nat) (w : World) : (Op.equalIn (d + 2) 61 (.agg (ints xs).toArray) (.agg (ints ys).toArray)).run Try.prog w = .ok (xs == ys) w := by
  obtain ⟨i, hi⟩ := info_i64
  obtain ⟨a0, a1, a2, a3, rfl⟩ : ∃ a b c e, xs = [a, b, c, e] := by
    match xs, h with
    | [a, b, c, e], _ => exact ⟨a, b, c, e, rfl⟩
  obtain ⟨b0, b1, b2, b3, rfl⟩ : ∃ a b c e, ys = [a, b, c, e] := by
    match ys, h' with
    | [a, b, c, e], _ => exact ⟨a, b, c, e, rfl⟩
  rw [run_equalIn_array w (d + 1) _ _ Try.underlying61 hi]
  have hc : Try.prog.cellsOf 3 = 1 := by kernel_rfl
  have he : Try.prog.plainKey 3 = true := by kernel_rfl
  rw [hc, show List.range 4 = [0, 1, 2, 3] from rfl]
  have p : ∀ (zs : List Int) (k : Nat) (z : Int), zs[k]? = some z → (part 3 (ints zs).toArray k).run Try.prog w = .ok (.int .i64 z) w := fun zs k z h => run_part_plain w he (by rw [List.getElem?_toArray]; simp [ints, h])
  have q : ∀ x y : Int, (Op.equalIn (d + 1) 3 (.int .i64 x) (.int .i64 y)).run Try.prog w = .ok (x == y) w := fun x y => run_equalIn_int w d 3 .i64 .i64 x y Try.underlying3
  have x0 := p [a0, a1, a2, a3] 0 _ rfl
  have x1 := p [a0, a1, a2, a3] 1 _ rfl
  have x2 := p [a0, a1, a2, a3] 2 _ rfl
  have x3 := p [a0, a1, a2, a3] 3 _ rfl
  have y0 := p [b0, b1, b2, b3] 0 _ rfl
  have y1 := p [b0, b1, b2, b3] 1 _ rfl
  have y2 := p [b0, b1, b2, b3] 2 _ rfl
  have y3 := p [b0, b1, b2, b3] 3 _ rfl
  have key : ([a0, a1, a2, a3] == [b0, b1, b2, b3]) = ((a0 == b0) && (a1 == b1) && (a2 == b2) && (a3 == b3)) := by
    rw [Bool.eq_iff_iff]
    simp [and_assoc]
  rw [key]
  cases h0 : a0 == b0 <;> cases h1 : a1 == b1 <;> cases h2 : a2 == b2 <;> cases h3 : a3 == b3 <;> simp [Op.eqItems, Sem.run_bind, x0, x1, x2, x3, y0, y1, y2, y3, q, h0, h1, h2, h3]
/-- Two arrays of refs, compared. -/
theorem yields_neq_ra {S : World → Prop} {o : Oper} {a : Act} (x y : Operand) (t' : TypeId) (ho : o.op = .binOp .neq 61 x y t') (xs ys : List Int) (h : xs.length = 4) (h' : ys.length = 4) (hx : a.eval x = .agg (ints xs).toArray) (hy : a.eval y = .agg (ints ys).toArray) :
    ∀ w, S w → (execOp a.eval o).run Try.prog w = .ok (.value (.bool (xs != ys))) w := by
  intro w _
  have hg : Try.prog.eqGuardType Try.prog.depth 61 = false := by kernel_rfl
  have he := run_eqIn_ra xs ys h h'
  unfold execOp
  have he2 : (Op.equalIn Op.maxDepth 61 (.agg (ints xs).toArray) (.agg (ints ys).toArray)).run Try.prog w = .ok (xs == ys) w := he 9998 w
  simp [ho, hx, hy, binOp, eqGuard, hg, Op.equal, he2, bne]
set_option maxRecDepth 100000 in
set_option maxHeartbeats 4000000 in
theorem differs_is (A : Option Addr) (c : Nat) (A2 : Option Addr) (c2 : Nat) (q : Crd) (s : Int) (m n : Nat) (w : World) (h : Crdd w w.heap.size (.agg #[.slice A q.ts.length c, .slice A2 q.os.length c2]) q) (hf : FitC q) (hv : CV q) (hm : m ≤ q.os.length) (hn : n ≤ q.os.length) :
    Calls Try.prog 48 #[.agg #[.slice A q.ts.length c, .slice A2 q.os.length c2, .int .i64 (m : Int), .int .i64 (n : Int)], .int .i64 s] w (Ret (.bool (refsC q s m != refsC q s n)) w) := by
  have C1 : Hid (∀ y, Below w.heap.size w y → Calls Try.prog 38 #[.agg #[.slice A q.ts.length c, .slice A2 q.os.length c2], .int .i64 s, .int .i64 (m : Int)] y (RefsA (refsC q s m) y)) := fun y hy => refsAfter_is _ q s m y (h.on hy hy.size) hf hv hm
  have C2 : Hid (∀ y, Below w.heap.size w y → Calls Try.prog 38 #[.agg #[.slice A q.ts.length c, .slice A2 q.os.length c2], .int .i64 s, .int .i64 (n : Int)] y (RefsA (refsC q s n) y)) := fun y hy => refsAfter_is _ q s n y (h.on hy hy.size) hf hv hn
  have HX := hid (refsC_len q s m)
  have HY := hid (refsC_len q s n)
  obtain ⟨xs, hxs⟩ : ∃ xs, refsC q s m = xs := ⟨_, rfl⟩
  obtain ⟨ys, hys⟩ : ∃ ys, refsC q s n = ys := ⟨_, rfl⟩
  rw [hxs] at C1 HX ⊢
  rw [hys] at C2 HY ⊢
  clear h hf hv hm hn hxs hys
  have b1 := (Below.refl w.heap.size w).alloc (Nat.le_refl _) (.cells #[.slice A q.ts.length c, .slice A2 q.os.length c2, .int .i64 (m : Int), .int .i64 (n : Int)] 70)
  have x0 := Blk4s.new_ w 70 (.slice A q.ts.length c) (.slice A2 q.os.length c2) (.int .i64 (m : Int)) (.int .i64 (n : Int))
  go_enter Try.func48, Try.ntmps48
  go_upto_region 1 with fail
  obtain ⟨w1, hw1⟩ : ∃ x, w.alloc (.cells #[.slice A q.ts.length c, .slice A2 q.os.length c2, .int .i64 (m : Int), .int .i64 (n : Int)] 70) = x := ⟨_, rfl⟩
  rw [hw1] at b1 x0 ⊢
  clear hw1
  obtain ⟨y0, y1, y2, y3, -⟩ := id x0.reads
  refine wp_region_held_drew (S := fun x => x.cell? ⟨w.heap.size, 0, none⟩ = some (.slice A q.ts.length c) ∧ x.cell? ⟨w.heap.size, 1, none⟩ = some (.slice A2 q.os.length c2) ∧ x.cell? ⟨w.heap.size, 2, none⟩ = some (.int .i64 (m : Int)) ∧ x.cell? ⟨w.heap.size, 3, none⟩ = some (.int .i64 (n : Int))) (by kernel_rfl) ⟨y0, y1, y2, y3⟩ (fun hHeld => ?_)
  have dr : Below w1.heap.size w1 w1.drew := (Below.refl _ _).drew
  obtain ⟨w2, hW⟩ : ∃ x, w1.drew = x := ⟨_, rfl⟩
  rw [hW] at dr hHeld ⊢
  replace x0 := x0.later dr
  replace b1 := b1.trans (dr.mono b1.size)
  clear hW y0 y1 y2 y3 dr
  try simp only [Act.put, List.getElem_toArray, List.getElem_cons_succ, List.getElem_cons_zero, List.setIfInBounds_toArray, List.set_cons_zero, List.set_cons_succ]
  refine wpAnyH_take (i := 0) (oi := _) (v := ?_) rfl (by kernel_rfl) (by kernel_rfl) (by kernel_rfl) (fun _ _ _ h => h) (Or.inl ⟨by rfl, ?_⟩) hHeld ?_
  rotate_left
  · (intro w' hSw; (try dsimp only at hSw); go_simp <;> with_reducible rfl)
  try simp only [Act.put, List.getElem_toArray, List.getElem_cons_succ, List.getElem_cons_zero, List.setIfInBounds_toArray, List.set_cons_zero, List.set_cons_succ]
  refine wpAnyH_take (i := 1) (oi := _) (v := ?_) rfl (by kernel_rfl) (by kernel_rfl) (by kernel_rfl) (fun _ _ _ h => h) (Or.inl ⟨by rfl, ?_⟩) hHeld ?_
  rotate_left
  · (intro w' hSw; (try dsimp only at hSw); go_simp <;> with_reducible rfl)
  try simp only [Act.put, List.getElem_toArray, List.getElem_cons_succ, List.getElem_cons_zero, List.setIfInBounds_toArray, List.set_cons_zero, List.set_cons_succ]
  refine wpAnyH_take (i := 2) (oi := _) (v := ?_) rfl (by kernel_rfl) (by kernel_rfl) (by kernel_rfl) (fun _ _ _ h => h) (Or.inl ⟨by rfl, ?_⟩) hHeld ?_
  rotate_left
  · (intro w' hSw; (try dsimp only at hSw); go_simp <;> with_reducible rfl)
  try simp only [Act.put, List.getElem_toArray, List.getElem_cons_succ, List.getElem_cons_zero, List.setIfInBounds_toArray, List.set_cons_zero, List.set_cons_succ]
  refine wpAnyH_take (i := 3) (oi := _) (v := ?_) rfl (by kernel_rfl) (by kernel_rfl) (by kernel_rfl) (fun _ _ _ h => h) (Or.inl ⟨by rfl, ?_⟩) hHeld ?_
  rotate_left
  · (intro w' hSw; (try dsimp only at hSw); go_simp <;> with_reducible rfl)
  try simp only [Act.put, List.getElem_toArray, List.getElem_cons_succ, List.getElem_cons_zero, List.setIfInBounds_toArray, List.set_cons_zero, List.set_cons_succ]
  refine wpAnyH_take (i := 4) (oi := _) (v := ?_) rfl (by kernel_rfl) (by kernel_rfl) (by kernel_rfl) (fun _ _ _ h => h) (Or.inl ⟨by rfl, ?_⟩) hHeld ?_
  rotate_left
  · (intro w' hSw; (try dsimp only at hSw); go_simp <;> with_reducible rfl)
  try simp only [Act.put, List.getElem_toArray, List.getElem_cons_succ, List.getElem_cons_zero, List.setIfInBounds_toArray, List.set_cons_zero, List.set_cons_succ]
  refine wpAnyH_take (i := 6) (oi := _) (v := ?_) rfl (by kernel_rfl) (by kernel_rfl) (by kernel_rfl) (fun _ _ _ h => h) (Or.inl ⟨by rfl, ?_⟩) hHeld ?_
  rotate_left
  · (intro w' hSw; (try dsimp only at hSw); go_simp <;> with_reducible rfl)
  try simp only [Act.put, List.getElem_toArray, List.getElem_cons_succ, List.getElem_cons_zero, List.setIfInBounds_toArray, List.set_cons_zero, List.set_cons_succ]
  refine wpAnyH_take (i := 7) (oi := _) (v := ?_) rfl (by kernel_rfl) (by kernel_rfl) (by kernel_rfl) (fun _ _ _ h => h) (Or.inl ⟨by rfl, ?_⟩) hHeld ?_
  rotate_left
  · (intro w' hSw; (try dsimp only at hSw); go_simp <;> with_reducible rfl)
  try simp only [Act.put, List.getElem_toArray, List.getElem_cons_succ, List.getElem_cons_zero, List.setIfInBounds_toArray, List.set_cons_zero, List.set_cons_succ]
  refine wpAnyH_take (i := 8) (oi := _) (v := ?_) rfl (by kernel_rfl) (by kernel_rfl) (by kernel_rfl) (fun _ _ _ h => h) (Or.inl ⟨by rfl, ?_⟩) hHeld ?_
  rotate_left
  · (intro w' hSw; (try dsimp only at hSw); go_simp <;> with_reducible rfl)
  try simp only [Act.put, List.getElem_toArray, List.getElem_cons_succ, List.getElem_cons_zero, List.setIfInBounds_toArray, List.set_cons_zero, List.set_cons_succ]
  refine wpAnyH_take (i := 9) (oi := _) (v := ?_) rfl (by kernel_rfl) (by kernel_rfl) (by kernel_rfl) (fun _ _ _ h => h) (Or.inl ⟨by rfl, ?_⟩) hHeld ?_
  rotate_left
  · (intro w' hSw; (try dsimp only at hSw); go_simp <;> with_reducible rfl)
  try simp only [Act.put, List.getElem_toArray, List.getElem_cons_succ, List.getElem_cons_zero, List.setIfInBounds_toArray, List.set_cons_zero, List.set_cons_succ]
  refine wpAnyH_take (i := 10) (oi := _) (v := ?_) rfl (by kernel_rfl) (by kernel_rfl) (by kernel_rfl) (fun _ _ _ h => h) (Or.inl ⟨by rfl, ?_⟩) hHeld ?_
  rotate_left
  · (intro w' hSw; (try dsimp only at hSw); go_simp <;> with_reducible rfl)
  try simp only [Act.put, List.getElem_toArray, List.getElem_cons_succ, List.getElem_cons_zero, List.setIfInBounds_toArray, List.set_cons_zero, List.set_cons_succ]
  refine wpAnyH_ready (rs := [5]) (by kernel_rfl) (by simp) (AllReadyH.cons (o := _) rfl (fun K hK => ?_) AllReadyH.nil)
  try simp only [Act.put, List.getElem_toArray, List.getElem_cons_succ, List.getElem_cons_zero, List.setIfInBounds_toArray, List.set_cons_zero, List.set_cons_succ]
  go_simp
  go_at_call 38
  refine (C1.out w2 b1).mono ?_
  rintro e w3 ⟨rfl, d⟩
  replace x0 := x0.later d
  replace b1 := b1.trans (d.mono b1.size)
  clear d
  refine hK.out _ _ ⟨x0.reads.1, x0.reads.2.1, x0.reads.2.2.1, x0.reads.2.2.2.1⟩ (fun hHeld => ?_)
  clear hK K
  try simp only [Act.put, List.getElem_toArray, List.getElem_cons_succ, List.getElem_cons_zero, List.setIfInBounds_toArray, List.set_cons_zero, List.set_cons_succ]
  refine wpAnyH_ready (rs := [11]) (by kernel_rfl) (by simp) (AllReadyH.cons (o := _) rfl (fun K hK => ?_) AllReadyH.nil)
  try simp only [Act.put, List.getElem_toArray, List.getElem_cons_succ, List.getElem_cons_zero, List.setIfInBounds_toArray, List.set_cons_zero, List.set_cons_succ]
  go_simp
  go_at_call 38
  refine (C2.out w3 b1).mono ?_
  rintro e w4 ⟨rfl, d⟩
  replace x0 := x0.later d
  replace b1 := b1.trans (d.mono b1.size)
  clear d
  refine hK.out _ _ ⟨x0.reads.1, x0.reads.2.1, x0.reads.2.2.1, x0.reads.2.2.2.1⟩ (fun hHeld => ?_)
  clear hK K
  try simp only [Act.put, List.getElem_toArray, List.getElem_cons_succ, List.getElem_cons_zero, List.setIfInBounds_toArray, List.set_cons_zero, List.set_cons_succ]
  refine wpAnyH_take (i := 12) (oi := _) (v := .bool (xs != ys)) rfl (by kernel_rfl) (by kernel_rfl) (by kernel_rfl) (fun _ _ _ h => h) (Or.inl ⟨by rfl, yields_neq_ra _ _ _ rfl xs ys HX.out HY.out rfl rfl⟩) hHeld ?_
  try simp only [Act.put, List.getElem_toArray, List.getElem_cons_succ, List.getElem_cons_zero, List.setIfInBounds_toArray, List.set_cons_zero, List.set_cons_succ]
  refine wpAnyH_take (i := 13) (oi := _) (v := ?_) rfl (by kernel_rfl) (by kernel_rfl) (by kernel_rfl) (fun _ _ _ h => h) (Or.inl ⟨by rfl, ?_⟩) hHeld ?_
  rotate_left
  · (intro w' hSw; (try dsimp only at hSw); go_simp <;> with_reducible rfl)
  try simp only [Act.put, List.getElem_toArray, List.getElem_cons_succ, List.getElem_cons_zero, List.setIfInBounds_toArray, List.set_cons_zero, List.set_cons_succ]
  refine wpAnyH_done (by kernel_rfl) ?_ _
  clear hHeld
  go_wp2
  go_ret
  exact .mk_ b1
set_option maxRecDepth 100000 in
set_option maxHeartbeats 4000000 in
theorem shardsWhere_is (A : Option Addr) (c : Nat) (A2 : Option Addr) (c2 : Nat) (q : Crd) (m n : Nat) (w : World) (h : Crdd w w.heap.size (.agg #[.slice A q.ts.length c, .slice A2 q.os.length c2]) q) (hf : FitC q) (hv : CV q) (hm : m ≤ q.os.length) (hn : n ≤ q.os.length) :
    Calls Try.prog 47 #[.func (.func 48) #[.agg #[.slice A q.ts.length c, .slice A2 q.os.length c2, .int .i64 (m : Int), .int .i64 (n : Int)]] #[]] w (IntsOf (diffTo q m n 3) w) := by
  obtain ⟨i1, hj, hy0, hy1, hy2⟩ := info_of info_int
  have CD : Hid (∀ y (k : Nat), Below w.heap.size w y → Calls Try.prog 48 #[.agg #[.slice A q.ts.length c, .slice A2 q.os.length c2, .int .i64 (m : Int), .int .i64 (n : Int)], .int .i64 (k : Int)] y (Ret (.bool (refsC q (k : Int) m != refsC q (k : Int) n)) y)) := fun y k hy => differs_is A c A2 c2 q k m n y (h.on hy hy.size) hf hv hm hn
  clear h hf hv hm hn
  have b1 := (Below.refl w.heap.size w).alloc (Nat.le_refl _) (.cells #[] 3)
  have o1 := OwnI.nil_new (w := w) (B := w.heap.size) (Nat.le_refl _)
  go_enter Try.func47, Try.ntmps47
  go_wp2_with fail
  go_loopw [3, 6] (fun o i wr => ∃ (k : Nat) (ys : List Int) (Ao : Option Addr) (co : Nat), k ≤ 3 ∧ i = .int .i64 k ∧ o = .slice Ao ys.length co ∧ Hid (ys = diffTo q m n k) ∧ OwnI wr w.heap.size (.slice Ao ys.length co) ys ∧ Below w.heap.size w wr) (fun _ i _ => 3 - (intOf i).toNat)
  case atStart => exact ⟨0, [], _, _, Nat.zero_le _, rfl, rfl, rfl, o1, b1⟩
  case round =>
    clear o1 b1
    obtain ⟨k, ys, Ao, co, hk, rfl, rfl, HY, oy, hb⟩ := hrel
    have hz := hb.size
    by_cases hlt : k < 3
    · have k1 : (k : Int) < 3 := by omega
      have hyl : ys.length ≤ 3 := by rw [HY.out]; exact Nat.le_trans (diffTo_len q m n k) hk
      have CX := hid (CD.out wr k hb)
      obtain ⟨b, hbb⟩ : ∃ b, (refsC q (k : Int) m != refsC q (k : Int) n) = b := ⟨_, rfl⟩
      rw [hbb] at CX
      have HB := hid hbb
      clear hbb
      go_wp2_with fail
      refine CX.out.mono ?_
      rintro e w5 ⟨rfl, d⟩
      replace hb := hb.trans (d.mono hz)
      have o5 : OwnI w5 w.heap.size (.slice Ao ys.length co) ys := oy.below d (Nat.le_refl _)
      clear oy d CX
      cases b with
      | false =>
        have HN : Hid (ys = diffTo q m n (k + 1)) := by
          show _ = _
          rw [diffTo_same (bne_eq_false_iff_eq.1 HB.out)]
          exact HY.out
        clear HB HY
        go_wp2
        go_roundw
        case rel => exact ⟨k + 1, ys, Ao, co, by omega, by go_num, rfl, HN, o5, hb⟩
        case measure => simp [intOf]; omega
      | true =>
        have HN : Hid (ys ++ [(k : Int)] = diffTo q m n (k + 1)) := by
          show _ = _
          rw [diffTo_more (bne_iff_ne.1 HB.out), HY.out]
        clear HB HY
        have oA := World.ownsRow.alloc o5 (.cells #[.int .i64 (k : Int)] 3)
        have al := (Below.refl w5.heap.size w5).alloc (Nat.le_refl _) (.cells #[.int .i64 (k : Int)] 3)
        have hb10 := hb.trans (al.mono hb.size)
        clear al o5
        go_wp2_with (at_builtin; go_must (refine wpList_append_row _ rfl _ _ 24 rfl w.heap.size 3 i1 (.int .i64 0) 1 8 Try.underlying24 hj hy0 hy1 hy2 rfl (by decide) _ ys.length _ rfl oA (w5.heap.size + 1) (some ⟨w5.heap.size, 0, none⟩) 1 1 [.int .i64 (k : Int)] rfl (.inr ⟨_, rfl, Nat.lt_succ_self _, cell_one_new _ _ _⟩) rfl (one_int _) (by unfold maxLen; omega) (by omega) hb10.size ?_); intro v7 w7 hown hg; have o7 : OwnI w7 w.heap.size v7 (ys ++ [(k : Int)]) := OwnI.app hown; obtain ⟨A7, c7, rfl, -, -⟩ := o7.form; have b7 := hb10.grown hg hb10.size (fun j hj => (World.ownsRow.lt oA j hj).1))
        go_roundw
        case rel => exact ⟨k + 1, ys ++ [(k : Int)], A7, c7, by omega, by go_num, by rw [List.length_append]; rfl, HN, o7, b7⟩
        case measure => simp [intOf]; omega
    · have hk' : k = 3 := by omega
      subst hk'
      have HE := hid HY.out
      clear HY CD
      go_wp2
      go_ret
      rw [← HE.out]
      exact .mk_ oy hb
end Go.Proofs.Ytjplondblkkpmaa
