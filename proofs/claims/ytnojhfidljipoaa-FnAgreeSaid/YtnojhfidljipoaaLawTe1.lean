/- The coordinator with the slices $SA and $SB is stored as the answer, with the word $BB. -/
/- Laws on coordinators: a coordinator is boxed. -/
/-
  Walks of the laws on states and decisions.
-/
import Derived.Test.YtnojhfidljipoaaTerI
import Derived.Test.YtnojhfidljipoaaDrawTe
import Derived.Test.YtnojhfidljipoaaHasK
namespace Go.Proofs.Ytnojhfidljipoaa
open Go.RowKit Wo Pu
set_option linter.unusedVariables false
set_option linter.unusedSimpArgs false

/-- A guarded append. -/
theorem wpList_append_g {P : Program} (w : World) {ops : Array Oper} {rest : List Oper} {o : Oper} {a : Act} {Q : Exit → Act → World → Prop} (hw : Region.wanted o (yielded ops a.tmps) = true) (s x : Operand) (t : TypeId)
    (ho : o.op = .call { callee := .builtin .append, args := #[s, x], argTypes := #[t, t] })
    (base : Nat) (e : TypeId) (i : TypeInfo) (z : Value) (size bytes : Nat) (ht : P.underlying t = some (.slice e)) (hi : P.info? e = some i) (hz : i.zero = some z)
    (hsize : i.size = size) (hby : i.bytes = bytes) (hzs : z.cells.size = size) (hsz : 0 < size)
    (v : Value) (n : Nat) (xs : List Value) (hs : a.eval s = v) (hown : w.ownsRow base e size v n xs)
    (ad : Addr) (m c : Nat) (news : List Value) (hx : a.eval x = .slice (some ad) m c) (hl : news.length = m * size) (hnews : ∀ j u, news[j]? = some u → w.cell? (ad.add j) = some u) (h1 : ∀ u ∈ news, u.oneCell' = true)
    (h63 : n + m ≤ maxLen) (hbytes : (n + m) * bytes ≤ 140737488355328) (hbase : base ≤ w.heap.size)
    (h : ∀ v' w', w'.ownsRow base e size v' (n + m) (xs ++ news) → w.grownBy w' v.ownBlock → wpList P ops Q rest (a.put o.dst v') w') : wpList P ops Q (o :: rest) a w :=
  wpList_step fun K hK => by
    rw [if_pos hw]
    exact wp_append_own w s x t ho base e i z size bytes ht hi hz hsize hby hzs hsz v n xs hs hown ad m c news hx hl hnews h1 h63 hbytes hbase fun v' w' h2 h3 _ => hK _ _ (h v' w' h2 h3)
theorem FnTermDecide_no (A : Option Addr) (c : Nat) (bs : List Int) (w : World) (h : Code_ w A c bs) (hl : ¬ bs.length ≤ 1048576) :
    Calls Try.prog 4 #[.slice A bs.length c] w (Ret (.bool true) w) := by
  have hc := h.2.1
  have hm := h.2.2.1
  unfold maxLen at hm
  go_enter Try.func4, Try.ntmps4
  go_wp2
  go_ret
  exact .mk_ (Below.refl _ _)
set_option maxRecDepth 100000 in
set_option maxHeartbeats 4000000 in
theorem FnTermDecide_yes (A : Option Addr) (c : Nat) (bs : List Int) (w : World) (h : Code_ w A c bs) (hl : bs.length ≤ 1048576) :
    Calls Try.prog 4 #[.slice A bs.length c] w (Ret (.bool true) w) := by
  go_enter Try.func4, Try.ntmps4
  go_wp2_with fail
  refine (DrawTermDecide_any A c bs _ h).mono ?_
  rintro e w1 ⟨A1, c1, zs, rfl, r1, h6, hc1, b1⟩
  obtain ⟨d, hd⟩ := stD_ex zs
  have HD := hid hd
  clear hd
  go_wp2_with fail
  refine (implTermDecide_is d A1 c1 zs _ _ r1 (by omega) HD.out).mono ?_
  rintro e w2 ⟨rfl, rfl⟩
  go_wp2_with fail
  refine (specTermDecide_is d A1 c1 zs _ _ r1 (by omega) HD.out).mono ?_
  rintro e w2 ⟨rfl, rfl⟩
  obtain ⟨a, ha⟩ := bool_of (StA zs)
  obtain ⟨m, hc⟩ := bool_of (2 ∈ zs)
  obtain ⟨m3, h3⟩ := bool_of (3 ∈ zs)
  obtain ⟨m0, h0⟩ := bool_of (0 ∈ zs)
  obtain ⟨n, hn⟩ := bool_of (StN zs)
  have F := hid (stD_of d zs a m n ha hc hn HD.out)
  have G := hid (stN_of n zs m3 m0 hn h3 h0)
  have HA := hid ha
  have HC := hid hc
  have H3 := hid h3
  have H0 := hid h0
  clear hc h3 h0 hn HD ha
  go_wp2_with fail
  refine (specTermAgree_is a A1 c1 zs _ _ r1 (by omega) HA.out).mono ?_
  rintro e w2 ⟨rfl, rfl⟩
  cases a with
  | false =>
    go_wp2
    go_ret
    exact .mk_ b1
  | true =>
    go_wp2_with fail
    refine (hasInt_is m A1 c1 zs 2 _ _ r1 (by omega) HC.out).mono ?_
    rintro e w2 ⟨rfl, rfl⟩
    cases m with
    | true =>
      obtain rfl := F.out
      go_wp2
      go_ret
      exact .mk_ b1
    | false =>
      go_wp2_with fail
      refine (hasInt_is m3 A1 c1 zs 3 _ _ r1 (by omega) H3.out).mono ?_
      rintro e w2 ⟨rfl, rfl⟩
      cases m3 with
      | true =>
        obtain rfl := G.out
        obtain rfl := F.out
        go_wp2
        go_ret
        exact .mk_ b1
      | false =>
        go_wp2_with fail
        refine (hasInt_is m0 A1 c1 zs 0 _ _ r1 (by omega) H0.out).mono ?_
        rintro e w2 ⟨rfl, rfl⟩
        obtain rfl := G.out
        clear G H0
        cases n with
        | true =>
          obtain rfl := F.out
          go_wp2
          go_ret
          exact .mk_ b1
        | false =>
          obtain rfl := F.out
          go_wp2
          go_ret
          exact .mk_ b1
theorem FnTermDecide_any (A : Option Addr) (c : Nat) (bs : List Int) (w : World) (f1 : Row w w.heap.size A (bs.map (Value.int .u8))) (f2 : bs.length ≤ c) (f3 : c ≤ maxLen) (f4 : ∀ n ∈ bs, 0 ≤ n ∧ n < 256) :
    Calls Try.prog 4 #[.slice A bs.length c] w (Ret (.bool true) w) := by
  by_cases hl : bs.length ≤ 1048576
  · exact FnTermDecide_yes A c bs w ⟨f1, f2, f3, f4⟩ hl
  · exact FnTermDecide_no A c bs w ⟨f1, f2, f3, f4⟩ hl
theorem FnTermBad_no (A : Option Addr) (c : Nat) (bs : List Int) (w : World) (h : Code_ w A c bs) (hl : ¬ bs.length ≤ 1048576) :
    Calls Try.prog 7 #[.slice A bs.length c] w (Ret (.bool true) w) := by
  have hc := h.2.1
  have hm := h.2.2.1
  unfold maxLen at hm
  go_enter Try.func7, Try.ntmps7
  go_wp2
  go_ret
  exact .mk_ (Below.refl _ _)
set_option maxRecDepth 100000 in
set_option maxHeartbeats 4000000 in
theorem FnTermBad_yes (A : Option Addr) (c : Nat) (bs : List Int) (w : World) (h : Code_ w A c bs) (hl : bs.length ≤ 1048576) :
    Calls Try.prog 7 #[.slice A bs.length c] w (Ret (.bool true) w) := by
  go_enter Try.func7, Try.ntmps7
  go_wp2_with fail
  refine (DrawTermAgree_any A c bs _ h).mono ?_
  rintro e w1 ⟨A1, c1, zs, rfl, r1, h6, hc1, b1⟩
  obtain ⟨a, ha⟩ := bool_of (StA zs)
  have HA := hid ha
  clear ha
  go_wp2_with fail
  refine (implTermAgree_is a A1 c1 zs _ _ r1 (by omega) HA.out).mono ?_
  rintro e w2 ⟨rfl, rfl⟩
  go_wp2_with fail
  refine (specTermAgree_is a A1 c1 zs _ _ r1 (by omega) HA.out).mono ?_
  rintro e w2 ⟨rfl, rfl⟩
  cases a with
  | true =>
    go_wp2
    go_ret
    exact .mk_ b1
  | false =>
    have HD : Hid (StD zs 0) := .inr (.inr (.inr ⟨fun e => by simpa using HA.out.2 e, rfl⟩))
    clear HA
    go_wp2_with fail
    refine (implTermDecide_is 0 A1 c1 zs _ _ r1 (by omega) HD.out).mono ?_
    rintro e w2 ⟨rfl, rfl⟩
    go_wp2
    go_ret
    exact .mk_ b1
theorem FnTermBad_any (A : Option Addr) (c : Nat) (bs : List Int) (w : World) (f1 : Row w w.heap.size A (bs.map (Value.int .u8))) (f2 : bs.length ≤ c) (f3 : c ≤ maxLen) (f4 : ∀ n ∈ bs, 0 ≤ n ∧ n < 256) :
    Calls Try.prog 7 #[.slice A bs.length c] w (Ret (.bool true) w) := by
  by_cases hl : bs.length ≤ 1048576
  · exact FnTermBad_yes A c bs w ⟨f1, f2, f3, f4⟩ hl
  · exact FnTermBad_no A c bs w ⟨f1, f2, f3, f4⟩ hl
theorem FnTermAll_no (A : Option Addr) (c : Nat) (bs : List Int) (A' : Option Addr) (c' : Nat) (bs' : List Int) (w : World) (h : Code_ w A c bs) (h' : Code_ w A' c' bs') (hl : ¬ (bs.length ≤ 1048576 ∧ bs'.length ≤ 1048576)) :
    Calls Try.prog 6 #[.slice A bs.length c, .slice A' bs'.length c'] w (Ret (.bool true) w) := by
  have hc := h.2.1
  have hm := h.2.2.1
  have hc' := h'.2.1
  have hm' := h'.2.2.1
  unfold maxLen at hm hm'
  by_cases h1 : bs.length ≤ 1048576
  · have h2 : ¬ bs'.length ≤ 1048576 := fun e => hl ⟨h1, e⟩
    clear hl
    go_enter Try.func6, Try.ntmps6
    go_wp2
    go_ret
    exact .mk_ (Below.refl _ _)
  · clear hl
    go_enter Try.func6, Try.ntmps6
    go_wp2
    go_ret
    exact .mk_ (Below.refl _ _)
theorem stD_ones (n : Nat) (h1 : 1 ≤ n) (h2 : n ≤ 3) : StD (List.replicate n 1) 0 := by
  refine .inr (.inr (.inl ⟨⟨⟨fun z hz => ?_, by rw [List.length_replicate]; omega, by rw [List.length_replicate]; omega⟩, fun h => ?_⟩, fun h => ?_, fun h => ?_, rfl⟩))
  · rw [List.eq_of_mem_replicate hz]; omega
  · have := List.eq_of_mem_replicate h.1; omega
  · have := List.eq_of_mem_replicate h; omega
  · rcases h with h | h
    · have := List.eq_of_mem_replicate h; omega
    · have := List.eq_of_mem_replicate h; omega
theorem stD_ones2 (n : Nat) (h2 : n ≤ 2) : StD (List.replicate n 1 ++ [2]) 2 := by
  have hm : ∀ z ∈ List.replicate n (1 : Int) ++ [2], z = 1 ∨ z = 2 := fun z hz => by
    rcases List.mem_append.1 hz with h | h
    · exact .inl (List.eq_of_mem_replicate h)
    · exact .inr (List.mem_singleton.1 h)
  refine .inl ⟨⟨⟨fun z hz => ?_, by simp, by simp; omega⟩, fun h => ?_⟩, by simp, rfl⟩
  · have := hm z hz; omega
  · rcases h.2 with h | h
    · have := hm 3 h; omega
    · have := hm 0 h; omega
set_option maxRecDepth 100000 in
set_option maxHeartbeats 4000000 in
theorem FnTermAll_yes (A : Option Addr) (c : Nat) (bs : List Int) (A' : Option Addr) (c' : Nat) (bs' : List Int) (w : World) (h : Code_ w A c bs) (h' : Code_ w A' c' bs') (hl : bs.length ≤ 1048576) (hl' : bs'.length ≤ 1048576) :
    Calls Try.prog 6 #[.slice A bs.length c, .slice A' bs'.length c'] w (Ret (.bool true) w) := by
  obtain ⟨i0, hi, hz0, hz1, hz2⟩ := info_of info_int
  clear h'
  go_enter Try.func6, Try.ntmps6
  go_wp2_with fail
  refine (DrawTermDecide_any A c bs _ h).mono ?_
  rintro e w1 ⟨A1, c1, zs, rfl, r1, h6, hc1, b1⟩
  obtain ⟨d, hd⟩ := stD_ex zs
  have HD := hid hd
  clear hd
  go_wp2_with fail
  refine (implTermDecide_is d A1 c1 zs _ _ r1 (by omega) HD.out).mono ?_
  rintro e w2 ⟨rfl, rfl⟩
  go_wp2_with fail
  refine (specTermDecide_is d A1 c1 zs _ _ r1 (by omega) HD.out).mono ?_
  rintro e w2 ⟨rfl, rfl⟩
  obtain ⟨n, hn⟩ : ∃ n : Nat, bs'.length % 2 + 1 = n := ⟨_, rfl⟩
  have hn1 : 1 ≤ n := by omega
  have hn2 : n ≤ 2 := by omega
  have hw : 1 + (bs'.length : Int) % 2 = (n : Int) := by omega
  have hR1 : Row w1 w1.heap.size A1 (ints zs) := r1
  have al := (Below.refl w1.heap.size w1).alloc (Nat.le_refl _) (.cells #[] 3)
  have o0 := OwnI.nil_new (w := w1) (Nat.le_refl _)
  go_wp2_with fail
  try rw [hw]
  clear hw
  go_loopw [9, 10] (fun v i wr => ∃ (k : Nat) (ys : List Int) (Ao : Option Addr) (co : Nat), k ≤ n ∧ i = .int .i64 k ∧ v = .slice Ao ys.length co ∧ Hid (ys = List.replicate k 1) ∧ OwnI wr w1.heap.size (.slice Ao ys.length co) ys ∧ Below w1.heap.size w1 wr) (fun _ i _ => n - (intOf i).toNat)
  case atStart => exact ⟨0, [], _, _, Nat.zero_le _, rfl, rfl, rfl, o0, al⟩
  case round =>
    obtain ⟨k, ys, Ao, co, hk, rfl, rfl, HY, oy, hb⟩ := hrel
    clear o0 al
    have hz := hb.size
    by_cases hlt : k < n
    · have hyl : ys.length ≤ 5 := by rw [HY.out, List.length_replicate]; omega
      have HN : Hid (ys ++ [1] = List.replicate (k + 1) 1) := by
        show _ = _
        rw [List.replicate_succ', ← HY.out]
      have oA := World.ownsRow.alloc oy (.cells #[.int .i64 1] 3)
      have al := (Below.refl wr.heap.size wr).alloc (Nat.le_refl _) (.cells #[.int .i64 1] 3)
      have hb10 := hb.trans (al.mono hz)
      clear HY oy al
      go_wp2_with (at_builtin; go_must (refine wpList_append_own _ rfl _ _ 23 rfl w1.heap.size 3 i0 (.int .i64 0) 1 8 Try.underlying23 hi hz0 hz1 hz2 rfl (by decide) _ ys.length _ rfl oA ⟨wr.heap.size, 0, none⟩ 1 1 [.int .i64 1] rfl rfl (cell_one_new _ _ _) (one_int _) (by unfold maxLen; omega) (by omega) hb10.size ?_); intro v8 w8 hown hg _; have o8 : OwnI w8 w1.heap.size v8 (ys ++ [1]) := OwnI.app hown; obtain ⟨A8, c8, rfl, -, -⟩ := o8.form; have b8 := hb10.grown hg hb10.size (fun j hj => (World.ownsRow.lt oA j hj).1))
      go_roundw
      case rel => exact ⟨k + 1, ys ++ [1], A8, c8, by omega, by go_num, by rw [List.length_append]; rfl, HN, o8, b8⟩
      case measure => simp [intOf]; omega
    · have hk' : k = n := by omega
      subst hk'
      have hyl : ys.length ≤ 2 := by rw [HY.out, List.length_replicate]; omega
      have H0 : Hid (StD ys 0) := by show StD _ _; rw [HY.out]; exact stD_ones k hn1 (by omega)
      have H2 : Hid (StD (ys ++ [2]) 2) := by show StD _ _; rw [HY.out]; exact stD_ones2 k hn2
      clear HY
      go_wp2_with fail
      refine (implTermDecide_is 0 Ao co ys _ _ oy.row (by omega) H0.out).mono ?_
      rintro e w2 ⟨rfl, rfl⟩
      have oA := World.ownsRow.alloc oy (.cells #[.int .i64 2] 3)
      have al := (Below.refl wr.heap.size wr).alloc (Nat.le_refl _) (.cells #[.int .i64 2] 3)
      have hb10 := hb.trans (al.mono hz)
      clear oy al
      go_wp2_with (at_builtin; go_must (refine wpList_append_g _ (by rfl) _ _ 23 rfl w1.heap.size 3 i0 (.int .i64 0) 1 8 Try.underlying23 hi hz0 hz1 hz2 rfl (by decide) _ ys.length _ rfl oA ⟨wr.heap.size, 0, none⟩ 1 1 [.int .i64 2] rfl rfl (cell_one_new _ _ _) (one_int _) (by unfold maxLen; omega) (by omega) hb10.size ?_); intro v8 w8 hown hg; have o8 : OwnI w8 w1.heap.size v8 (ys ++ [2]) := OwnI.app hown; obtain ⟨xs, hxs⟩ : ∃ x, ys ++ [2] = x := ⟨_, rfl⟩; have hxl : xs.length ≤ 3 := (by rw [← hxs, List.length_append]; simp; omega); rw [hxs] at o8 H2; clear hxs; obtain ⟨A8, c8, rfl, -, -⟩ := o8.form; have b8 := hb10.grown hg hb10.size (fun j hj => (World.ownsRow.lt oA j hj).1); have rz3 := hR1.below b8 (Nat.le_refl _); clear hown hg oA)
      refine (implTermDecide_is 2 A8 c8 xs _ _ o8.row (by omega) H2.out).mono ?_
      rintro e w2 ⟨rfl, rfl⟩
      have bb := b1.trans (b8.mono b1.size)
      clear H0 H2 o8 b8 hR1 hb
      by_cases hd : d = 2
      · have HM := hid (HD.out.is2 hd)
        subst hd
        go_wp2_with fail
        refine (hasInt_is true A1 c1 zs 2 _ _ rz3 (by omega) ⟨fun _ => HM.out, fun _ => rfl⟩).mono ?_
        rintro e w2 ⟨rfl, rfl⟩
        go_wp2
        go_ret
        exact .mk_ bb
      · have e0 : (d == 2) = false := by rw [beq_eq_false_iff_ne]; exact hd
        go_wp2
        go_ret
        exact .mk_ bb
theorem FnTermAll_any (A : Option Addr) (c : Nat) (bs : List Int) (A' : Option Addr) (c' : Nat) (bs' : List Int) (w : World) (f1 : Row w w.heap.size A (bs.map (Value.int .u8))) (f2 : bs.length ≤ c) (f3 : c ≤ maxLen) (f4 : ∀ n ∈ bs, 0 ≤ n ∧ n < 256) (g1 : Row w w.heap.size A' (bs'.map (Value.int .u8))) (g2 : bs'.length ≤ c') (g3 : c' ≤ maxLen) (g4 : ∀ n ∈ bs', 0 ≤ n ∧ n < 256) :
    Calls Try.prog 6 #[.slice A bs.length c, .slice A' bs'.length c'] w (Ret (.bool true) w) := by
  by_cases hl : bs.length ≤ 1048576 ∧ bs'.length ≤ 1048576
  · exact FnTermAll_yes A c bs A' c' bs' w ⟨f1, f2, f3, f4⟩ ⟨g1, g2, g3, g4⟩ hl.1 hl.2
  · exact FnTermAll_no A c bs A' c' bs' w ⟨f1, f2, f3, f4⟩ ⟨g1, g2, g3, g4⟩ hl
end Go.Proofs.Ytnojhfidljipoaa
