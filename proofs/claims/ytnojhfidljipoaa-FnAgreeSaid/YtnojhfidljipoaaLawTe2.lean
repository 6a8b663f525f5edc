/- The coordinator with the slices $SA and $SB is stored as the answer, with the word $BB. -/
/- Laws on coordinators: a coordinator is boxed. -/
/-
  Walks of the laws on further states and on their order.
-/
import Derived.Test.YtnojhfidljipoaaLawTe1
namespace Go.Proofs.Ytnojhfidljipoaa
open Go.RowKit Wo Pu
set_option linter.unusedVariables false
set_option linter.unusedSimpArgs false

theorem FnTermMore_no (A : Option Addr) (c : Nat) (bs : List Int) (A' : Option Addr) (c' : Nat) (bs' : List Int) (w : World) (h : Code_ w A c bs) (h' : Code_ w A' c' bs') (hl : ¬ (bs.length ≤ 1048576 ∧ bs'.length ≤ 1048576)) :
    Calls Try.prog 5 #[.slice A bs.length c, .slice A' bs'.length c'] w (Ret (.bool true) w) := by
  have hc := h.2.1
  have hm := h.2.2.1
  have hc' := h'.2.1
  have hm' := h'.2.2.1
  unfold maxLen at hm hm'
  by_cases h1 : bs.length ≤ 1048576
  · have h2 : ¬ bs'.length ≤ 1048576 := fun e => hl ⟨h1, e⟩
    clear hl
    go_enter Try.func5, Try.ntmps5
    go_wp2
    go_ret
    exact .mk_ (Below.refl _ _)
  · clear hl
    go_enter Try.func5, Try.ntmps5
    go_wp2
    go_ret
    exact .mk_ (Below.refl _ _)
set_option maxRecDepth 100000 in
set_option maxHeartbeats 4000000 in
theorem FnTermMore_yes (A : Option Addr) (c : Nat) (bs : List Int) (A' : Option Addr) (c' : Nat) (bs' : List Int) (w : World) (h : Code_ w A c bs) (h' : Code_ w A' c' bs') (hl : bs.length ≤ 1048576) (hl' : bs'.length ≤ 1048576) :
    Calls Try.prog 5 #[.slice A bs.length c, .slice A' bs'.length c'] w (Ret (.bool true) w) := by
  obtain ⟨i0, hi, hz0, hz1, hz2⟩ := info_of info_int
  clear h'
  go_enter Try.func5, Try.ntmps5
  go_wp2_with fail
  refine (DrawTermDecide_any A c bs _ h).mono ?_
  rintro e w1 ⟨A1, c1, zs, rfl, r1, h6, hc1, b1⟩
  obtain ⟨d, hd⟩ := stD_ex zs
  have HD := hid hd
  clear hd
  go_wp2_with fail
  refine (implTermDecide_is d A1 c1 zs _ _ r1 (by omega) HD.out).mono ?_
  rintro e w2 ⟨rfl, rfl⟩
  go_wp2_with fail
  refine (specTermDecide_is d A1 c1 zs _ _ r1 (by omega) HD.out).mono ?_
  rintro e w2 ⟨rfl, rfl⟩
  by_cases hd : d = 0
  · subst hd
    clear HD
    go_wp2
    go_ret
    exact .mk_ b1
  · have e0 : (d == 0) = false := by rw [beq_eq_false_iff_ne]; exact hd
    by_cases hl3 : 3 ≤ zs.length
    · have q3 : decide ((3 : Int) ≤ (zs.length : Int)) = true := decide_eq_true (by omega)
      clear HD
      go_wp2
      go_ret
      exact .mk_ b1
    · have q3 : decide ((3 : Int) ≤ (zs.length : Int)) = false := decide_eq_false (by omega)
      obtain ⟨x, hx⟩ : ∃ x : Int, (bs'.length : Int) % 4 = x := ⟨_, rfl⟩
      obtain ⟨xs, hxs⟩ : ∃ xs, zs ++ [x] = xs := ⟨_, rfl⟩
      obtain ⟨d', hd'⟩ := stD_ex xs
      obtain ⟨a, ha⟩ := bool_of (StA xs)
      have HX := hid hxs
      have HD2 := hid hd'
      have HA := hid ha
      have HF : Hid (StA xs → d' = d) := fun h => HD.out.more hd (by rw [hxs]; exact hd') (by rw [hxs]; exact h)
      have hdd := HD.out.cases_
      have hxl : xs.length ≤ 3 := by rw [← hxs, List.length_append]; simp; omega
      have al := (Below.refl w1.heap.size w1).alloc (Nat.le_refl _) (.cells #[] 3)
      have o0 := OwnI.nil_new (w := w1) (Nat.le_refl _)
      have rz := r1.below al (Nat.le_refl _)
      have hz := al.size
      clear hxs hd' ha HD hl3
      go_wp2_with (at_builtin; first | (refine wpList_append_row _ rfl _ _ 23 rfl w1.heap.size 3 i0 (.int .i64 0) 1 8 Try.underlying23 hi hz0 hz1 hz2 rfl (by decide) _ 0 _ rfl o0 w1.heap.size A1 zs.length c1 (ints zs) rfl rz (by rw [ints_length]; omega) (ints_cells _) (by unfold maxLen; omega) (by omega) hz ?_; intro v8 w8 hown hg; rw [Nat.zero_add, show ints [] ++ ints zs = ints zs from rfl] at hown; have o8 : OwnI w8 w1.heap.size v8 zs := hown; have b8 := al.grown hg hz (fun j hj => (World.ownsRow.lt o0 j hj).1); have oA := World.ownsRow.alloc o8 (.cells #[.int .i64 x] 3); have b9 := b8.trans (((Below.refl w8.heap.size w8).alloc (Nat.le_refl _) (.cells #[.int .i64 x] 3)).mono b8.size)) | (refine wpList_append_row _ rfl _ _ 23 rfl w1.heap.size 3 i0 (.int .i64 0) 1 8 Try.underlying23 hi hz0 hz1 hz2 rfl (by decide) _ zs.length _ rfl oA (w8.heap.size + 1) (some ⟨w8.heap.size, 0, none⟩) 1 1 [.int .i64 x] rfl (.inr ⟨_, rfl, Nat.lt_succ_self _, cell_one_new _ _ _⟩) rfl (one_int _) (by unfold maxLen; omega) (by omega) b9.size ?_; intro v9 w9 hown hg9; have o9 : OwnI w9 w1.heap.size v9 (zs ++ [x]) := OwnI.app hown; rw [HX.out] at o9; obtain ⟨A9, c9, rfl, r9, -⟩ := o9.form; have b10 := b9.grown hg9 b9.size (fun j hj => (World.ownsRow.lt oA j hj).1)))

      refine (implTermAgree_is a A9 c9 xs _ _ r9 (by omega) HA.out).mono ?_
      rintro e w2 ⟨rfl, rfl⟩
      have bb := b1.trans (b10.mono b1.size)
      cases a with
      | false =>
        go_wp2
        go_ret
        exact .mk_ bb
      | true =>
        obtain rfl := HF.out (HA.out.1 (by trivial))
        rcases hdd with rfl | rfl | rfl
        · go_wp2_with fail
          refine (implTermDecide_is 2 A9 c9 xs _ _ r9 (by omega) HD2.out).mono ?_
          rintro e w2 ⟨rfl, rfl⟩
          go_wp2
          go_ret
          exact .mk_ bb
        · go_wp2_with fail
          refine (implTermDecide_is 3 A9 c9 xs _ _ r9 (by omega) HD2.out).mono ?_
          rintro e w2 ⟨rfl, rfl⟩
          go_wp2
          go_ret
          exact .mk_ bb
        · exact absurd rfl hd
theorem FnTermMore_any (A : Option Addr) (c : Nat) (bs : List Int) (A' : Option Addr) (c' : Nat) (bs' : List Int) (w : World) (f1 : Row w w.heap.size A (bs.map (Value.int .u8))) (f2 : bs.length ≤ c) (f3 : c ≤ maxLen) (f4 : ∀ n ∈ bs, 0 ≤ n ∧ n < 256) (g1 : Row w w.heap.size A' (bs'.map (Value.int .u8))) (g2 : bs'.length ≤ c') (g3 : c' ≤ maxLen) (g4 : ∀ n ∈ bs', 0 ≤ n ∧ n < 256) :
    Calls Try.prog 5 #[.slice A bs.length c, .slice A' bs'.length c'] w (Ret (.bool true) w) := by
  by_cases hl : bs.length ≤ 1048576 ∧ bs'.length ≤ 1048576
  · exact FnTermMore_yes A c bs A' c' bs' w ⟨f1, f2, f3, f4⟩ ⟨g1, g2, g3, g4⟩ hl.1 hl.2
  · exact FnTermMore_no A c bs A' c' bs' w ⟨f1, f2, f3, f4⟩ ⟨g1, g2, g3, g4⟩ hl
theorem FnAgree_no (A : Option Addr) (c : Nat) (bs : List Int) (w : World) (h : Code_ w A c bs) (hl : ¬ bs.length ≤ 1048576) :
    Calls Try.prog 3 #[.slice A bs.length c] w (Ret (.bool true) w) := by
  have hc := h.2.1
  have hm := h.2.2.1
  unfold maxLen at hm
  go_enter Try.func3, Try.ntmps3
  go_wp2
  go_ret
  exact .mk_ (Below.refl _ _)
set_option maxRecDepth 100000 in
set_option maxHeartbeats 4000000 in
theorem FnAgree_yes (A : Option Addr) (c : Nat) (bs : List Int) (w : World) (h : Code_ w A c bs) (hl : bs.length ≤ 1048576) :
    Calls Try.prog 3 #[.slice A bs.length c] w (Ret (.bool true) w) := by
  obtain ⟨i0, hi, hz0, hz1, hz2⟩ := info_of info_int
  go_enter Try.func3, Try.ntmps3
  go_wp2_with fail
  refine (DrawTermAgree_any A c bs _ h).mono ?_
  rintro e w1 ⟨A1, c1, zs, rfl, r1, h6, hc1, b1⟩
  obtain ⟨a, ha⟩ := bool_of (StA zs)
  have HA := hid ha
  clear ha
  go_wp2_with fail
  refine (implTermAgree_is a A1 c1 zs _ _ r1 (by omega) HA.out).mono ?_
  rintro e w2 ⟨rfl, rfl⟩
  go_wp2_with fail
  refine (specTermAgree_is a A1 c1 zs _ _ r1 (by omega) HA.out).mono ?_
  rintro e w2 ⟨rfl, rfl⟩
  have hw : IntKind.i64.wrap ((zs.length : Int) - 1) = (zs.length : Int) - 1 := IntWalk.i64_in _ (by omega)
  have al := (Below.refl w1.heap.size w1).alloc (Nat.le_refl _) (.cells #[] 3)
  have o0 := OwnI.nil_new (w := w1) (Nat.le_refl _)
  go_wp2_with fail
  go_loopw [6, 7] (fun v i wr => ∃ (k : Nat) (ys : List Int) (Ao : Option Addr) (co : Nat), k ≤ zs.length ∧ i = .int .i64 ((k : Int) - 1) ∧ v = .slice Ao ys.length co ∧ Hid (ys = (zs.drop k).reverse) ∧ OwnI wr w1.heap.size (.slice Ao ys.length co) ys ∧ Below w1.heap.size w1 wr) (fun _ i _ => (intOf i + 1).toNat)
  case atStart => exact ⟨zs.length, [], _, _, Nat.le_refl _, rfl, rfl, by show [] = _; simp, o0, al⟩
  case round =>
    obtain ⟨k, ys, Ao, co, hk, rfl, rfl, HY, oy, hb⟩ := hrel
    clear o0 al hw
    have hz := hb.size
    by_cases hlt : 1 ≤ k
    · obtain ⟨m, rfl⟩ : ∃ m, k = m + 1 := ⟨k - 1, by omega⟩
      have hm : m < zs.length := by omega
      have hw1 : ((m + 1 : Nat) : Int) - 1 = (m : Int) := by omega
      have hw2 : IntKind.i64.wrap ((m : Int) - 1) = (m : Int) - 1 := IntWalk.i64_in _ (by omega)
      rw [hw1]
      obtain ⟨ad, rfl, hbl, hc⟩ := (r1.below hb (Nat.le_refl _)).int_ hm
      have q0 : (0 : Int) ≤ (m : Int) := by omega
      have q1 : (m : Int) < (zs.length : Int) := by omega
      have hyl : ys.length ≤ 6 := by rw [HY.out, List.length_reverse, List.length_drop]; omega
      obtain ⟨x, hx⟩ : ∃ x, zs[m] = x := ⟨_, rfl⟩
      have HN : Hid (ys ++ [x] = (zs.drop m).reverse) := by
        show _ = _
        rw [List.drop_eq_getElem_cons hm, List.reverse_cons, HY.out, hx]
      rw [hx] at hc
      have oA := World.ownsRow.alloc oy (.cells #[.int .i64 x] 3)
      have al := (Below.refl wr.heap.size wr).alloc (Nat.le_refl _) (.cells #[.int .i64 x] 3)
      have hb10 := hb.trans (al.mono hz)
      clear HY oy al hw1 hx
      go_wp2_with (at_builtin; go_must (refine wpList_append_row _ rfl _ _ 23 rfl w1.heap.size 3 i0 (.int .i64 0) 1 8 Try.underlying23 hi hz0 hz1 hz2 rfl (by decide) _ ys.length _ rfl oA (wr.heap.size + 1) (some ⟨wr.heap.size, 0, none⟩) 1 1 [.int .i64 x] rfl (.inr ⟨_, rfl, Nat.lt_succ_self _, cell_one_new _ _ _⟩) rfl (one_int _) (by unfold maxLen; omega) (by omega) hb10.size ?_); intro v8 w8 hown hg; have o8 : OwnI w8 w1.heap.size v8 (ys ++ [x]) := OwnI.app hown; obtain ⟨A8, c8, rfl, -, -⟩ := o8.form; have b8 := hb10.grown hg hb10.size (fun j hj => (World.ownsRow.lt oA j hj).1))
      go_roundw
      case rel => exact ⟨m, ys ++ [x], A8, c8, by omega, rfl, by rw [List.length_append]; rfl, HN, o8, b8⟩
      case measure => simp [intOf]
    · have hk' : k = 0 := by omega
      subst hk'
      obtain ⟨m, hc⟩ := bool_of (2 ∈ zs)
      obtain ⟨m3, h3⟩ := bool_of (3 ∈ zs)
      obtain ⟨m0, h0⟩ := bool_of (0 ∈ zs)
      have HAY : Hid (a = true ↔ StA ys) := by
        show _ ↔ _
        rw [HY.out, List.drop_zero, stA_rev]
        exact HA.out
      have HC := hid hc
      have H3 := hid h3
      have H0 := hid h0
      have HM : Hid (a = true → m = true → m3 = false ∧ m0 = false) := fun ha hm => by
        have hn := (HA.out.1 ha).2
        constructor
        · rw [← Bool.not_eq_true]; exact fun e => hn ⟨HC.out.1 hm, .inl (H3.out.1 e)⟩
        · rw [← Bool.not_eq_true]; exact fun e => hn ⟨HC.out.1 hm, .inr (H0.out.1 e)⟩
      have hyl : ys.length ≤ 6 := by rw [HY.out, List.length_reverse, List.length_drop]; omega
      have rz := r1.below hb (Nat.le_refl _)
      have bb := b1.trans (hb.mono b1.size)
      clear hc h3 h0 HY
      go_wp2_with fail
      refine (hasInt_is m A1 c1 zs 2 _ _ rz (by omega) HC.out).mono ?_
      rintro e w2 ⟨rfl, rfl⟩
      cases m with
      | false =>
        go_wp2_with fail
        refine (implTermAgree_is a Ao co ys _ _ oy.row (by omega) HAY.out).mono ?_
        rintro e w2 ⟨rfl, rfl⟩
        cases a
        all_goals
          go_wp2
          go_ret
          exact .mk_ bb
      | true =>
        go_wp2_with fail
        refine (hasInt_is m3 A1 c1 zs 3 _ _ rz (by omega) H3.out).mono ?_
        rintro e w2 ⟨rfl, rfl⟩
        cases m3 with
        | true =>
          have hf : a = false := by rw [← Bool.not_eq_true]; exact fun e => by cases (HM.out e trivial).1
          subst hf
          go_wp2_with fail
          refine (implTermAgree_is false Ao co ys _ _ oy.row (by omega) HAY.out).mono ?_
          rintro e w2 ⟨rfl, rfl⟩
          go_wp2
          go_ret
          exact .mk_ bb
        | false =>
          go_wp2_with fail
          refine (hasInt_is m0 A1 c1 zs 0 _ _ rz (by omega) H0.out).mono ?_
          rintro e w2 ⟨rfl, rfl⟩
          cases m0 with
          | true =>
            have hf : a = false := by rw [← Bool.not_eq_true]; exact fun e => by cases (HM.out e trivial).2
            subst hf
            go_wp2_with fail
            refine (implTermAgree_is false Ao co ys _ _ oy.row (by omega) HAY.out).mono ?_
            rintro e w2 ⟨rfl, rfl⟩
            go_wp2
            go_ret
            exact .mk_ bb
          | false =>
            go_wp2_with fail
            refine (implTermAgree_is a Ao co ys _ _ oy.row (by omega) HAY.out).mono ?_
            rintro e w2 ⟨rfl, rfl⟩
            cases a
            all_goals
              go_wp2
              go_ret
              exact .mk_ bb
theorem FnAgree_any (A : Option Addr) (c : Nat) (bs : List Int) (w : World) (f1 : Row w w.heap.size A (bs.map (Value.int .u8))) (f2 : bs.length ≤ c) (f3 : c ≤ maxLen) (f4 : ∀ n ∈ bs, 0 ≤ n ∧ n < 256) :
    Calls Try.prog 3 #[.slice A bs.length c] w (Ret (.bool true) w) := by
  by_cases hl : bs.length ≤ 1048576
  · exact FnAgree_yes A c bs w ⟨f1, f2, f3, f4⟩ hl
  · exact FnAgree_no A c bs w ⟨f1, f2, f3, f4⟩ hl
end Go.Proofs.Ytnojhfidljipoaa
