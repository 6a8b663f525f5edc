/- The coordinator with the slices $SA and $SB is stored as the answer, with the word $BB. -/
/- Laws on coordinators: a coordinator is boxed. -/
/-
  Walk: drawn states.
-/
import Derived.Test.YtnojhfidljipoaaConI
namespace Go.Proofs.Ytnojhfidljipoaa
open Go.RowKit Wo Pu
set_option linter.unusedVariables false
set_option linter.unusedSimpArgs false

/-- Drawn states. -/
def StsMade (w : World) (e : Ending) (w' : World) : Prop := ∃ A c zs, e = .returned (.slice A zs.length c) ∧ Row w' w'.heap.size A (ints zs) ∧ zs.length ≤ 6 ∧ zs.length ≤ c ∧ Below w.heap.size w w'
theorem te_cut {w : World} {B c k : Nat} {A : Option Addr} {zs : List Int} (h : OwnI w B (.slice A zs.length c) zs) (hk : k = 0) : Row w w.heap.size A (ints (zs.take k)) := by
  subst hk
  exact .inl rfl
theorem te_set (zs : List Int) (m : Nat) (x : Int) : (ints zs).set m (.int .i64 x) = ints (zs.set m x) := by unfold ints; rw [List.map_set]
theorem OwnI.len_ {w : World} {B l c : Nat} {A : Option Addr} {zs : List Int} (h : OwnI w B (.slice A l c) zs) : l = zs.length := by
  obtain ⟨_, _, e, _⟩ := h.form
  injection e
/-- Integers stored into. -/
theorem OwnI.put {w : World} {B g l c : Nat} {zs : List Int} (h : OwnI w B (.slice (some ⟨g, 0, none⟩) l c) zs) (m : Nat) (x : Int) : OwnI (w.setCell ⟨g, m, none⟩ (.int .i64 x)) B (.slice (some ⟨g, 0, none⟩) l c) (zs.set m x) := by
  obtain rfl := h.len_
  have := (World.ownsRow.stored h m (.int .i64 x)).1
  rw [te_set] at this
  unfold OwnI
  rw [List.length_set]
  exact this
theorem OwnI.got {w : World} {B g l c : Nat} {zs : List Int} (h : OwnI w B (.slice (some ⟨g, 0, none⟩) l c) zs) {m : Nat} (hm : m < zs.length) : w.cell? ⟨g, m, none⟩ = some (.int .i64 zs[m]) := by
  obtain rfl := h.len_
  have := World.ownsRow.cellAt h m (by omega)
  rw [this]
  simp [ints, hm]
theorem OwnI.froz {w : World} {B g l c : Nat} {zs : List Int} (h : OwnI w B (.slice (some ⟨g, 0, none⟩) l c) zs) (m : Nat) : w.frozen? ⟨g, m, none⟩ = false := by
  obtain rfl := h.len_
  exact World.ownsRow.frozenAt h m
theorem OwnI.sts {w0 w1 w : World} {g l c : Nat} {zs : List Int} (h : OwnI w w1.heap.size (.slice (some ⟨g, 0, none⟩) l c) zs) (hl : zs.length = l) (h6 : l ≤ 6) (hb : Below w0.heap.size w0 w) : StsMade w0 (.returned (.slice (some ⟨g, 0, none⟩) l c)) w := by
  obtain ⟨A9, c9, e, r9, hc9⟩ := h.form
  injection e with e1 _ e3
  subst e1 e3
  exact ⟨_, c, zs, by rw [hl], r9, by omega, hc9, hb⟩
theorem OwnI.spot {w : World} {B : Nat} {v : Value} {zs : List Int} (h : OwnI w B v zs) (hp : 0 < zs.length) : ∃ g c, v = .slice (some ⟨g, 0, none⟩) zs.length c ∧ B ≤ g ∧ g < w.heap.size := by
  obtain ⟨g, cap, e, h1, h2⟩ := World.ownsRow.form h hp
  exact ⟨g, cap, e, h1, h2⟩
set_option maxRecDepth 100000 in
set_option maxHeartbeats 8000000 in
theorem DrawTermDecide_any (A : Option Addr) (c : Nat) (bs : List Int) (w : World) (h : Code_ w A c bs) :
    Calls Try.prog 14 #[.slice A bs.length c] w (StsMade w) := by
  obtain ⟨i0, hi, hz0, hz1, hz2⟩ := info_of info_int
  go_enter Try.func14, Try.ntmps14
  go_wp2_with fail
  refine (l6Open_any A c bs w h).mono ?_
  rintro e w1 ⟨rfl, R1, b1⟩
  have hRl := R1.lt
  have al := (Below.refl w1.heap.size w1).alloc (Nat.le_refl _) (.cells #[] 3)
  have R0 := R1.below al hRl
  have T0 : But w.heap.size w1 (w1.alloc (.cells #[] 3)) := .of_below al
  have o0 := OwnI.nil_new (w := w1) (Nat.le_refl _)
  go_wp2_with fail
  refine (pick_any w.heap.size 0 3 _ R0 (by omega) (by omega) (by omega)).mono ?_
  rintro e w2 ⟨n1, rfl, a0, a1, R2, T2⟩
  have o2 := o0.but T2 hRl
  replace T2 := T0.trans T2
  obtain ⟨m, rfl⟩ := Int.eq_ofNat_of_zero_le a0
  clear o0 T0 R0 al
  have hm3 : m ≤ 2 := by omega
  have hw0 : IntKind.i64.wrap (1 + (m : Int)) = ((m + 1 : Nat) : Int) := by rw [IntWalk.i64_in _ (by omega)]; omega
  obtain ⟨n, hn⟩ : ∃ n, m + 1 = n := ⟨_, rfl⟩
  rw [hn] at hw0
  have hn1 : 1 ≤ n := by omega
  have hn3 : n ≤ 3 := by omega
  go_wp2_with fail
  go_loopw [4, 6] (fun v i wr => ∃ (k : Nat) (zs : List Int), k ≤ n ∧ i = .int .i64 k ∧ Hid (zs.length = k) ∧ OwnI wr w1.heap.size v zs ∧ Rd wr w.heap.size (0 + 1 + k) ∧ But w.heap.size w1 wr) (fun _ i _ => n - (intOf i).toNat)
  case atStart => exact ⟨0, [], Nat.zero_le _, rfl, rfl, o2, by simpa using R2, T2⟩
  case round =>
    clear o2 R2 T2
    obtain ⟨k, zs, hk, rfl, HL, ho, Rk, Tk⟩ := hrel
    by_cases hlt : k < n
    · go_wp2_with fail
      refine (pick_any w.heap.size _ 4 wr Rk (by omega) (by omega) (by omega)).mono ?_
      rintro e w3 ⟨x, rfl, x0, x1, R3, T3⟩
      have o1 := ho.but T3 hRl
      have T4 := Tk.trans T3
      have hz1' := T4.size
      have a2 := World.ownsRow.alloc o1 (.cells #[.int .i64 x] 3)
      have al1 := (Below.refl w3.heap.size w3).alloc (Nat.le_refl _) (.cells #[.int .i64 x] 3)
      have lt1 := World.ownsRow.lt a2
      have HL1 := hid (show zs.length ≤ 4 by have := HL.out; omega)
      clear ho o1 Rk Tk T3
      go_wp2_with (at_builtin; go_must (refine wpList_append_own _ rfl _ _ 23 rfl w1.heap.size 3 i0 (.int .i64 0) 1 8 Try.underlying23 hi hz0 hz1 hz2 rfl (by decide) _ zs.length (ints zs) rfl a2 ⟨w3.heap.size, 0, none⟩ 1 1 [.int .i64 x] rfl rfl (cell_one_new _ _ _) (one_int _) (by have := HL1.out; unfold maxLen; omega) (by have := HL1.out; omega) (by simp; omega) ?_); intro u4 w4 hown hg _)
      have o4 := OwnI.app hown
      have b4 : Below w1.heap.size w3 w4 := ((Below.refl w1.heap.size w3).alloc hz1' _).grown hg (by simp; omega) (fun j hj => (lt1 j hj).1)
      have R4 := R3.below b4 hRl
      have T5 : But w.heap.size w1 w4 := World.grownBy.andThen (T4.trans (.of_below al1)) hg (fun j hj => .inl (lt1 j hj).1)
      clear hown hg a2 lt1 R3 T4 b4
      go_wp2
      go_roundw
      case rel => exact ⟨k + 1, zs ++ [x], by omega, by go_num, by show _ = _; rw [List.length_append, HL.out]; rfl, o4, R4.more (by omega), T5⟩
      case measure => simp [intOf]; omega
    · have hk4 : k = n := by omega
      subst hk4
      go_wp2_with fail
      refine (pick_any w.heap.size _ 2 wr Rk (by omega) (by omega) (by omega)).mono ?_
      rintro e w3 ⟨x, rfl, x0, x1, R3, T3⟩
      have o3 := ho.but T3 hRl
      have T4 := Tk.trans T3
      clear ho Rk Tk T3
      obtain ⟨g, cc, rfl, hg1, hg2⟩ := o3.spot (by have := HL.out; omega)
      rw [HL.out] at o3 ⊢
      by_cases hx : x = 0
      · subst hx
        go_wp2_with fail
        go_loopw [7] (fun i wr => ∃ (j : Nat) (ys : List Int), j ≤ k ∧ i = .int .i64 j ∧ Hid (ys.length = k) ∧ OwnI wr w1.heap.size (.slice (some ⟨g, 0, none⟩) k cc) ys ∧ Rd wr w.heap.size (0 + 1 + k + 1 + j) ∧ But w.heap.size w1 wr) (fun i _ => k - (intOf i).toNat)
        case atStart => exact ⟨0, zs, Nat.zero_le _, rfl, HL, o3, by simpa using R3, T4⟩
        case round =>
          clear o3 R3 T4
          obtain ⟨j, ys, hj, rfl, HL, o3, R3, T4⟩ := hrel
          by_cases hlj : j < k
          · have j0 : (0 : Int) ≤ (j : Int) := by omega
            have j1 : (j : Int) < (k : Int) := by omega
            go_wp2_with fail
            refine (pick_any w.heap.size _ 2 wr R3 (by omega) (by omega) (by omega)).mono ?_
            rintro e w5 ⟨y, rfl, y0, y1, R5, T5⟩
            have o5 := o3.but T5 hRl
            have T6 := T4.trans T5
            have c0 := o5.got (m := j) (by have := HL.out; omega)
            have f0 := o5.froz j
            have wy : IntKind.i64.wrap (1 + y) = 1 + y := IntWalk.i64_in _ (by omega)
            have o7 := o5.put j (1 + y)
            have R7 := R5.far (g := g) (by omega) j (.int .i64 (1 + y))
            have T7 := T6.set_new (g := g) hg1 j (.int .i64 (1 + y))
            have HLS : Hid ((ys.set j (1 + y)).length = k) := by show _ = _; rw [List.length_set]; exact HL.out
            clear o3 R3 T4 T5 o5 R5 T6
            go_wp2
            go_roundw
            case rel => exact ⟨j + 1, ys.set j (1 + y), by omega, by go_num, HLS, o7, R7.more (by omega), T7⟩
            case measure => simp [intOf]; omega
          · have hj' : j = k := by omega
            subst hj'
            go_wp2_with fail
            refine (pick_any w.heap.size _ 20 _ R3 (by omega) (by omega) (by omega)).mono ?_
            rintro e w5 ⟨y, rfl, y0, y1, R5, T5⟩
            have o5 := o3.but T5 hRl
            have T6 := T4.trans T5
            clear o3 R3 T4 T5
            by_cases c0 : y = 0
            · subst c0
              go_wp2_with fail
              refine (pick_any w.heap.size _ _ w5 R5 (by omega) (by omega) (by omega)).mono ?_
              rintro e w6 ⟨z, rfl, z0, z1, R6, T7⟩
              have o6 := o5.but T7 hRl
              have T8 := T6.trans T7
              obtain ⟨jz, rfl⟩ := Int.eq_ofNat_of_zero_le z0
              clear o5 R5 T6 T7
              go_wp2_with fail
              refine (pick_any w.heap.size _ _ w6 R6 (by omega) (by omega) (by omega)).mono ?_
              rintro e w7 ⟨u, rfl, u0, u1, R7, T9⟩
              have o7 := o6.but T9 hRl
              have T10 := T8.trans T9
              have wu : IntKind.i64.wrap (u * 5) = u * 5 := IntWalk.i64_in _ (by omega)
              have wu2 : IntKind.i64.wrap (u * 5 - 1) = u * 5 - 1 := IntWalk.i64_in _ (by omega)
              have hl9 := HL.out
              obtain ⟨q0, hq0⟩ : ∃ q0 : Int, w7.cell? ⟨g, jz, none⟩ = some (.int .i64 q0) := ⟨_, o7.got (m := jz) (by omega)⟩
              have f0 := o7.froz jz
              have o8 := o7.put jz (u * 5 - 1)
              have T11 := T10.set_new (g := g) hg1 jz (.int .i64 (u * 5 - 1))
              have HE := hid (o8.sts (w0 := w) (by rw [List.length_set]; exact hl9) (by omega) (b1.trans (T11.below b1.size (Nat.le_refl _))))
              clear o6 R6 T8 T9 o7 T10 o8 T11 hl9
              go_wp2
              go_ret
              exact HE.out
            · by_cases c1 : y = 1
              · subst c1
                have HL3 := hid HL.out
                have HL1 : Hid (ys.length ≤ 3) := by show _ ≤ _; rw [HL.out]; omega
                have hz1' := T6.size
                have a2 := World.ownsRow.alloc o5 (.cells #[.int .i64 1, .int .i64 1, .int .i64 1] 3)
                rw [HL.out] at a2
                have al1 := (Below.refl w5.heap.size w5).alloc (Nat.le_refl _) (.cells #[.int .i64 1, .int .i64 1, .int .i64 1] 3)
                have lt1 := World.ownsRow.lt a2
                clear o5 HL
                go_wp2_with (at_builtin; go_must (refine wpList_append_own _ rfl _ _ 23 rfl w1.heap.size 3 i0 (.int .i64 0) 1 8 Try.underlying23 hi hz0 hz1 hz2 rfl (by decide) _ j (ints ys) rfl a2 ⟨w5.heap.size, 0, none⟩ 3 3 [.int .i64 1, .int .i64 1, .int .i64 1] rfl rfl (World.news_of_block (cs := #[.int .i64 1, .int .i64 1, .int .i64 1]) (heap_alloc_new w5 _)) (by intro u hu; simp at hu; rw [hu]; rfl) (by unfold maxLen; omega) (by omega) (by simp; omega) ?_); intro u4 w4 hown hg _)
                have hown' : OwnI w4 w1.heap.size u4 (ys ++ [1, 1, 1]) := by
                  unfold OwnI
                  rw [List.length_append, HL3.out]
                  have e2 : ints (ys ++ [1, 1, 1]) = ints ys ++ [.int .i64 1, .int .i64 1, .int .i64 1] := by simp [ints]
                  rw [e2]
                  exact hown
                have T11 : But w.heap.size w1 w4 := World.grownBy.andThen (T6.trans (.of_below al1)) hg (fun j hj => .inl (lt1 j hj).1)
                obtain ⟨A9, c9, rfl, r9, hc9⟩ := hown'.form
                have HE : Hid (StsMade w (.returned (.slice A9 (ys ++ [1, 1, 1]).length c9)) w4) := ⟨A9, c9, _, rfl, r9, by rw [List.length_append, HL3.out]; simp; omega, hc9, b1.trans (T11.below b1.size (Nat.le_refl _))⟩
                clear hown hown' hg a2 lt1 T11 r9 hc9
                go_wp2
                go_ret
                exact HE.out
              · by_cases c2 : y = 2
                · subst c2
                  have HE : Hid (StsMade w (.returned (.slice (some ⟨g, 0, none⟩) 0 cc)) w5) := ⟨_, cc, [], rfl, .inl rfl, by simp, Nat.zero_le _, b1.trans (T6.below b1.size (Nat.le_refl _))⟩
                  clear HL o5 T6
                  go_wp2
                  go_ret
                  exact HE.out
                · have e0 : (y == 0) = false := by rw [beq_eq_false_iff_ne]; exact c0
                  have e1 : (y == 1) = false := by rw [beq_eq_false_iff_ne]; exact c1
                  have e2 : (y == 2) = false := by rw [beq_eq_false_iff_ne]; exact c2
                  have HE := hid (o5.sts (w0 := w) HL.out (by omega) (b1.trans (T6.below b1.size (Nat.le_refl _))))
                  clear HL o5 T6
                  go_wp2
                  go_ret
                  exact HE.out
      · have e0 : (x == 0) = false := by rw [beq_eq_false_iff_ne]; exact hx
        obtain ⟨ys, hys⟩ : ∃ x, zs = x := ⟨_, rfl⟩
        rw [hys] at HL o3
        clear hys
        go_wp2_with fail
        refine (pick_any w.heap.size _ 20 _ R3 (by omega) (by omega) (by omega)).mono ?_
        rintro e w5 ⟨y, rfl, y0, y1, R5, T5⟩
        have o5 := o3.but T5 hRl
        have T6 := T4.trans T5
        clear o3 R3 T4 T5
        by_cases c0 : y = 0
        · subst c0
          go_wp2_with fail
          refine (pick_any w.heap.size _ _ w5 R5 (by omega) (by omega) (by omega)).mono ?_
          rintro e w6 ⟨z, rfl, z0, z1, R6, T7⟩
          have o6 := o5.but T7 hRl
          have T8 := T6.trans T7
          obtain ⟨jz, rfl⟩ := Int.eq_ofNat_of_zero_le z0
          clear o5 R5 T6 T7
          go_wp2_with fail
          refine (pick_any w.heap.size _ _ w6 R6 (by omega) (by omega) (by omega)).mono ?_
          rintro e w7 ⟨u, rfl, u0, u1, R7, T9⟩
          have o7 := o6.but T9 hRl
          have T10 := T8.trans T9
          have wu : IntKind.i64.wrap (u * 5) = u * 5 := IntWalk.i64_in _ (by omega)
          have wu2 : IntKind.i64.wrap (u * 5 - 1) = u * 5 - 1 := IntWalk.i64_in _ (by omega)
          have hl9 := HL.out
          obtain ⟨q0, hq0⟩ : ∃ q0 : Int, w7.cell? ⟨g, jz, none⟩ = some (.int .i64 q0) := ⟨_, o7.got (m := jz) (by omega)⟩
          have f0 := o7.froz jz
          have o8 := o7.put jz (u * 5 - 1)
          have T11 := T10.set_new (g := g) hg1 jz (.int .i64 (u * 5 - 1))
          have HE := hid (o8.sts (w0 := w) (by rw [List.length_set]; exact hl9) (by omega) (b1.trans (T11.below b1.size (Nat.le_refl _))))
          clear o6 R6 T8 T9 o7 T10 o8 T11 hl9
          go_wp2
          go_ret
          exact HE.out
        · by_cases c1 : y = 1
          · subst c1
            have HL3 := hid HL.out
            have HL1 : Hid (ys.length ≤ 3) := by show _ ≤ _; rw [HL.out]; omega
            have hz1' := T6.size
            have a2 := World.ownsRow.alloc o5 (.cells #[.int .i64 1, .int .i64 1, .int .i64 1] 3)
            rw [HL.out] at a2
            have al1 := (Below.refl w5.heap.size w5).alloc (Nat.le_refl _) (.cells #[.int .i64 1, .int .i64 1, .int .i64 1] 3)
            have lt1 := World.ownsRow.lt a2
            clear o5 HL
            go_wp2_with (at_builtin; go_must (refine wpList_append_own _ rfl _ _ 23 rfl w1.heap.size 3 i0 (.int .i64 0) 1 8 Try.underlying23 hi hz0 hz1 hz2 rfl (by decide) _ k (ints ys) rfl a2 ⟨w5.heap.size, 0, none⟩ 3 3 [.int .i64 1, .int .i64 1, .int .i64 1] rfl rfl (World.news_of_block (cs := #[.int .i64 1, .int .i64 1, .int .i64 1]) (heap_alloc_new w5 _)) (by intro u hu; simp at hu; rw [hu]; rfl) (by unfold maxLen; omega) (by omega) (by simp; omega) ?_); intro u4 w4 hown hg _)
            have hown' : OwnI w4 w1.heap.size u4 (ys ++ [1, 1, 1]) := by
              unfold OwnI
              rw [List.length_append, HL3.out]
              have e2 : ints (ys ++ [1, 1, 1]) = ints ys ++ [.int .i64 1, .int .i64 1, .int .i64 1] := by simp [ints]
              rw [e2]
              exact hown
            have T11 : But w.heap.size w1 w4 := World.grownBy.andThen (T6.trans (.of_below al1)) hg (fun j hj => .inl (lt1 j hj).1)
            obtain ⟨A9, c9, rfl, r9, hc9⟩ := hown'.form
            have HE : Hid (StsMade w (.returned (.slice A9 (ys ++ [1, 1, 1]).length c9)) w4) := ⟨A9, c9, _, rfl, r9, by rw [List.length_append, HL3.out]; simp; omega, hc9, b1.trans (T11.below b1.size (Nat.le_refl _))⟩
            clear hown hown' hg a2 lt1 T11 r9 hc9
            go_wp2
            go_ret
            exact HE.out
          · by_cases c2 : y = 2
            · subst c2
              have HE : Hid (StsMade w (.returned (.slice (some ⟨g, 0, none⟩) 0 cc)) w5) := ⟨_, cc, [], rfl, .inl rfl, by simp, Nat.zero_le _, b1.trans (T6.below b1.size (Nat.le_refl _))⟩
              clear HL o5 T6
              go_wp2
              go_ret
              exact HE.out
            · have e0 : (y == 0) = false := by rw [beq_eq_false_iff_ne]; exact c0
              have e1 : (y == 1) = false := by rw [beq_eq_false_iff_ne]; exact c1
              have e2 : (y == 2) = false := by rw [beq_eq_false_iff_ne]; exact c2
              have HE := hid (o5.sts (w0 := w) HL.out (by omega) (b1.trans (T6.below b1.size (Nat.le_refl _))))
              clear HL o5 T6
              go_wp2
              go_ret
              exact HE.out
theorem DrawTermAgree_any (A : Option Addr) (c : Nat) (bs : List Int) (w : World) (h : Code_ w A c bs) :
    Calls Try.prog 10 #[.slice A bs.length c] w (StsMade w) := by
  have H := hid (DrawTermDecide_any A c bs w h)
  go_enter Try.func10, Try.ntmps10
  go_wp2_with fail
  refine H.out.mono ?_
  rintro e w1 ⟨A1, c1, zs, rfl, r1, h6, hc, b1⟩
  go_wp2
  go_ret
  exact ⟨A1, c1, zs, rfl, r1, h6, hc, b1⟩
end Go.Proofs.Ytnojhfidljipoaa
