/- The coordinator with the slices $SA and $SB is stored as the answer, with the word $BB. -/
/- Laws on coordinators: a coordinator is boxed. -/
/- On to the world behind D. -/
/- An exact law begins: the argument's box, its size, a copy for the model. -/
/- The program's own copy of the argument is boxed. -/
/- The program's copy is as the argument; the region draws. -/
/- Laws on functions that answer numbers. -/
/- What the boxes hold is read again. -/
/- The coordinator with the slices P4 and P5 is boxed as P6, in block P7, behind it the world P3; ahead of region P1. -/
/- The draw, the program's answer, the model's, and that they are the same: behind it w5, all facts on it by way of dx. -/
/-
  Walk: drawn parts.
-/
import Derived.Test.YtjplondblkkpmaaG0C
import Derived.Test.YtjplondblkkpmaaDrawU
namespace Go.Proofs.Ytjplondblkkpmaa
open Go.RowKit Wo Pu Rf Co

/-- Parts with few updates. -/
def SmP (ps : List Part) : Prop := ∀ p ∈ ps, p.us.length ≤ 4
theorem SmP.nil : SmP [] := fun p hp => by cases hp
theorem SmP.snoc {ps : List Part} {p : Part} (h : SmP ps) (hp : p.us.length ≤ 4) : SmP (ps ++ [p]) := fun x hx => by
  rcases List.mem_append.1 hx with hx | hx
  · exact h x hx
  · rw [List.mem_singleton] at hx; subst hx; exact hp
def PtsDrawn (R : Nat) (q : Int) (w : World) (e : Ending) (w' : World) : Prop := ∃ v ps, e = .returned v ∧ OwnPs (fun _ => 0) 0 w' w.heap.size v ps ∧ ps.length ≤ 5 ∧ SmP ps ∧ Rd w' R (q + 200) ∧ But R w w'
/-- What has been drawn: the slice v holds the parts. -/
def PtE (w : World) (R : Nat) (q : Int) (v : Value) (ps : List Part) (wr : World) : Prop := OwnPs (fun _ => 0) 0 wr w.heap.size v ps ∧ R < w.heap.size ∧ Rd wr R q ∧ But R w wr
theorem PtE.but {w wr w' : World} {R : Nat} {q q' : Int} {v : Value} {ps : List Part} (h : PtE w R q v ps wr) (hR : Rd w' R q') (hT : But R wr w') : PtE w R q' v ps w' := by
  obtain ⟨h1, h2, h3, h4⟩ := h
  exact ⟨h1.but hT h2, h2, hR, h4.trans hT⟩
theorem PtE.more {w wr : World} {R : Nat} {q q' : Int} {v : Value} {ps : List Part} (h : PtE w R q v ps wr) (hq : q ≤ q') : PtE w R q' v ps wr := ⟨h.1, h.2.1, h.2.2.1.more hq, h.2.2.2⟩
/-- One part more. -/
theorem PtE.add {w wr w4 : World} {R c : Nat} {q q' : Int} {A : Option Addr} {v : Value} {ps : List Part} {p : Part} (h : PtE w R q v ps wr) (hR : Rd w4 R q') (hT : But R wr w4) (hu : OwnUps w4 wr.heap.size (.slice A p.us.length c) p.us) (hc : p.us.length ≤ c) :
    ∃ ys, (w4.alloc (.cells #[.int .i64 p.s, .slice A p.us.length c] 36)).ownsRow w.heap.size 36 2 v ps.length ys ∧ w.heap.size ≤ (w4.alloc (.cells #[.int .i64 p.s, .slice A p.us.length c] 36)).heap.size ∧ ∀ v' w1, w1.ownsRow w.heap.size 36 2 v' (ps.length + 1) (ys ++ [.int .i64 p.s, .slice A p.us.length c]) →
      (w4.alloc (.cells #[.int .i64 p.s, .slice A p.us.length c] 36)).grownBy w1 v.ownBlock → ∃ A' c', v' = .slice A' (ps.length + 1) c' ∧ PtE w R q' (.slice A' (ps.length + 1) c') (ps ++ [p]) w1 := by
  obtain ⟨h1, h2, h3, h4⟩ := h
  have hsz : w.heap.size ≤ wr.heap.size := h4.size
  obtain ⟨ys, hrow, H⟩ := h1.more_ (fun hr => own_but hr hT h2) hsz hu hc
  have al := (Below.refl w4.heap.size w4).alloc (Nat.le_refl _) (.cells #[.int .i64 p.s, .slice A p.us.length c] 36)
  have hrow' := World.ownsRow.alloc hrow (.cells #[.int .i64 p.s, .slice A p.us.length c] 36)
  have hz4 : w.heap.size ≤ (w4.alloc (.cells #[.int .i64 p.s, .slice A p.us.length c] 36)).heap.size := Nat.le_trans hsz (Nat.le_trans hT.size al.size)
  refine ⟨ys, hrow', hz4, fun v' w1 hown hg => ?_⟩
  have O := H v' w1 hown hg
  obtain ⟨A', c', e, -, -⟩ := O.form
  rw [List.length_append, List.length_singleton] at e
  subst e
  have hlt := World.ownsRow.lt hrow'
  have Bb : Below w.heap.size (w4.alloc (.cells #[.int .i64 p.s, .slice A p.us.length c] 36)) w1 := (Below.refl w.heap.size _).grown hg hz4 (fun j hj => (hlt j hj).1)
  exact ⟨A', c', rfl, O, h2, (hR.below al hR.lt).below Bb h2, World.grownBy.andThen ((h4.trans hT).trans (.of_below al)) hg (fun j hj => .inl (hlt j hj).1)⟩
theorem row_four_ (w : World) (v0 v1 v2 v3 : Value) (t : TypeId) : Row (w.alloc (.cells #[v0, v1, v2, v3] t)) (w.alloc (.cells #[v0, v1, v2, v3] t)).heap.size (some ⟨w.heap.size, 0, none⟩) [v0, v1, v2, v3] :=
  .inr ⟨_, rfl, by simp, World.news_of_block (cs := #[v0, v1, v2, v3]) (heap_alloc_new w _)⟩
/- A part with shard SS and drawn updates is appended to the parts PS; S tells of the world W. -/
/- The last pick, and perhaps a part without updates; PS are the parts so far. -/
theorem OwnUps.nil_none_ (w : World) (B : Nat) : OwnUps w B (.slice none 0 0) [] := ⟨rfl, .inl ⟨rfl, rfl⟩⟩
set_option linter.unusedSimpArgs false in
set_option linter.unusedVariables false in
set_option maxRecDepth 100000 in
set_option maxHeartbeats 16000000 in
theorem l92Parts_any (R : Nat) (q : Int) (w : World) (hR : Rd w R q) (hq : q ≤ 600000000) :
    Calls Try.prog 57 #[.pointer (some ⟨R, 0, none⟩)] w (PtsDrawn R q w) := by
  obtain ⟨i0, hi, hz0, hz1, hz2⟩ := info_of info_part
  have hRl := hR.lt
  have al := (Below.refl w.heap.size w).alloc (Nat.le_refl _) (.cells #[] 36)
  have S0 : PtE w R (q + 31 * (0 : Nat)) (.slice (some ⟨w.heap.size, 0, none⟩) 0 0) [] (w.alloc (.cells #[] 36)) := ⟨OwnPs.nil_new (Nat.le_refl _), hRl, (hR.below al hRl).more (by omega), .of_below al⟩
  clear al
  go_enter Try.func57, Try.ntmps57
  go_wp2_with fail
  go_loopw [3, 4] (fun o i wr => ∃ (k : Nat) (ps : List Part) (Ao : Option Addr) (co : Nat), k ≤ 3 ∧ i = .int .i64 k ∧ o = .slice Ao ps.length co ∧ ps.length ≤ k ∧ Hid (SmP ps) ∧ PtE w R (q + 31 * k) (.slice Ao ps.length co) ps wr) (fun _ i _ => 3 - (intOf i).toNat)
  case atStart => exact ⟨0, [], _, _, Nat.zero_le _, rfl, rfl, Nat.le_refl _, .nil, S0⟩
  case round =>
    clear S0
    obtain ⟨k, ps, Ao, co, hk, rfl, rfl, hpl, HSM, S⟩ := hrel
    by_cases hlt : k < 3
    · have q1 : (k : Int) < 3 := by omega
      go_wp2_with fail
      refine (pick_any R _ 2 wr S.2.2.1 (by omega) (by omega) (by omega)).mono ?_
      rintro e w3 ⟨d, rfl, d0, d1, R3, T3⟩
      replace S := S.but R3 T3
      clear R3 T3
      by_cases hd : d = 0
      · have e0 : (d == 0) = true := by rw [hd]; rfl
        clear hd
        have r4 := row_four_ w3 (.int .i64 (-1)) (.int .i64 0) (.int .i64 1) (.int .i64 2) 3
        have al := (Below.refl (w3).heap.size w3).alloc (Nat.le_refl _) (.cells #[.int .i64 (-1), .int .i64 0, .int .i64 1, .int .i64 2] 3)
        have hA4 : ∀ ad, (some ⟨(w3).heap.size, 0, none⟩ : Option Addr) = some ad → ad.block ≠ R := fun ad e => by
          injection e with e
          rw [← e]
          have := S.2.2.1.lt
          show (w3).heap.size ≠ R
          omega
        have CU := hid (l92Updates_any R (q + 31 * (k : Int) + 1) (some ⟨(w3).heap.size, 0, none⟩) 4 [-1, 0, 1, 2] _ (S.2.2.1.below al S.2.2.1.lt) (by omega) r4 hA4)
        clear r4 hA4
        go_wp2_with fail
        refine CU.out.mono ?_
        rintro e w5 ⟨vu, us, rfl, ou, hu4, R5, T5⟩
        obtain ⟨Au, cu, rfl, -, hcu⟩ := ou.form
        have ou' := ou.base (B' := (w3).heap.size) al.size
        obtain ⟨ys, hrow, hz5, HP⟩ := S.add (p := ⟨(k : Int), us⟩) R5 ((But.of_below al).trans T5) ou' hcu
        have HPP := hid HP
        have rA := row_two_ w5 (.int .i64 ((k : Int))) (.slice Au us.length cu) 36
        clear HP ou ou' CU al T5 R5
        go_wp2_with (at_builtin; go_must (refine wpList_append_row _ rfl _ _ 31 rfl w.heap.size 36 i0 (.agg #[.int .i64 0, .slice none 0 0]) 2 32 Try.underlying31 hi hz0 hz1 hz2 rfl (by decide) _ (ps).length ys rfl hrow _ (some ⟨w5.heap.size, 0, none⟩) 1 1 [.int .i64 ((k : Int)), .slice Au us.length cu] rfl rA rfl (part_cells _ _ _ _) (by unfold maxLen; omega) (by omega) hz5 ?_); intro v7 w7 hown hg; obtain ⟨A7, c7, rfl, S7⟩ := HPP.out v7 w7 hown hg; clear hown hg)
        clear HPP rA hrow hz5
        have HS9 : Hid (SmP (ps ++ [⟨(k : Int), us⟩])) := HSM.out.snoc hu4
        have hl9 : (ps ++ [(⟨(k : Int), us⟩ : Part)]).length = ps.length + 1 := by simp
        go_roundw
        case rel => exact ⟨k + 1, _, A7, c7, by omega, by go_num, by rw [hl9], by rw [hl9]; omega, HS9, by rw [hl9]; exact S7.more (by push_cast; omega)⟩
        case measure => simp [intOf]; omega
      · have e0 : (d == 0) = false := by rw [beq_eq_false_iff_ne]; exact hd
        clear hd
        go_wp2_with fail
        go_roundw
        case rel => exact ⟨k + 1, ps, Ao, co, by omega, by go_num, rfl, by omega, HSM, S.more (by push_cast; omega)⟩
        case measure => simp [intOf]; omega
    · have hk' : k = 3 := by omega
      subst hk'
      by_cases h0 : ps.length = 0
      · have e0 : ((ps.length : Int) == 0) = true := by rw [beq_iff_eq]; omega
        have HZ0 := hid h0
        clear h0
        go_wp2_with fail
        refine (pick_any R _ 3 wr S.2.2.1 (by omega) (by omega) (by omega)).mono ?_
        rintro e w3 ⟨d, rfl, d0, d1, R3, T3⟩
        replace S := S.but R3 T3
        clear R3 T3
        have r4 := row_four_ w3 (.int .i64 (-1)) (.int .i64 0) (.int .i64 1) (.int .i64 2) 3
        have al := (Below.refl (w3).heap.size w3).alloc (Nat.le_refl _) (.cells #[.int .i64 (-1), .int .i64 0, .int .i64 1, .int .i64 2] 3)
        have hA4 : ∀ ad, (some ⟨(w3).heap.size, 0, none⟩ : Option Addr) = some ad → ad.block ≠ R := fun ad e => by
          injection e with e
          rw [← e]
          have := S.2.2.1.lt
          show (w3).heap.size ≠ R
          omega
        have CU := hid (l92Updates_any R (q + 31 * (3 : Nat) + 1) (some ⟨(w3).heap.size, 0, none⟩) 4 [-1, 0, 1, 2] _ (S.2.2.1.below al S.2.2.1.lt) (by omega) r4 hA4)
        clear r4 hA4
        go_wp2_with fail
        refine CU.out.mono ?_
        rintro e w5 ⟨vu, us, rfl, ou, hu4, R5, T5⟩
        obtain ⟨Au, cu, rfl, -, hcu⟩ := ou.form
        have ou' := ou.base (B' := (w3).heap.size) al.size
        obtain ⟨ys, hrow, hz5, HP⟩ := S.add (p := ⟨d, us⟩) R5 ((But.of_below al).trans T5) ou' hcu
        have HPP := hid HP
        have rA := row_two_ w5 (.int .i64 (d)) (.slice Au us.length cu) 36
        clear HP ou ou' CU al T5 R5
        go_wp2_with (at_builtin; go_must (refine wpList_append_row _ rfl _ _ 31 rfl w.heap.size 36 i0 (.agg #[.int .i64 0, .slice none 0 0]) 2 32 Try.underlying31 hi hz0 hz1 hz2 rfl (by decide) _ (ps).length ys rfl hrow _ (some ⟨w5.heap.size, 0, none⟩) 1 1 [.int .i64 (d), .slice Au us.length cu] rfl rA rfl (part_cells _ _ _ _) (by unfold maxLen; omega) (by omega) hz5 ?_); intro v7 w7 hown hg; obtain ⟨A7, c7, rfl, S7⟩ := HPP.out v7 w7 hown hg; clear hown hg)
        clear HPP rA hrow hz5
        replace HSM : Hid (SmP (ps ++ [⟨d, us⟩])) := HSM.out.snoc hu4
        have hl9 : (ps ++ [(⟨d, us⟩ : Part)]).length = ps.length + 1 := by simp
        obtain ⟨ps9, hps⟩ : ∃ ps9, ps9 = ps ++ [(⟨d, us⟩ : Part)] := ⟨_, rfl⟩
        rw [← hps] at S7 HSM hl9
        clear S hps
        have hl8 : ps9.length ≤ 4 := by omega
        rw [← hl9] at S7 ⊢
        have S := S7
        clear S7 hl9
        go_wp2_with fail
        refine (pick_any R _ 24 _ S.2.2.1 (by omega) (by omega) (by omega)).mono ?_
        rintro e w8 ⟨d, rfl, d0, d1, R8, T8⟩
        replace S := S.but R8 T8
        clear R8 T8
        by_cases h9 : d = 0
        · have e9 : (d == 0) = true := by rw [h9]; rfl
          clear h9
          go_wp2_with fail
          refine (pick_any R _ 4 _ S.2.2.1 (by omega) (by omega) (by omega)).mono ?_
          rintro e w9 ⟨d9, rfl, d90, d91, R9, T9⟩
          replace S := S.but R9 T9
          clear R9 T9
          obtain ⟨ys, hrow, hz5, HP⟩ := S.add (p := ⟨d9, []⟩) (A := none) (c := 0) S.2.2.1 (.refl R w9) (OwnUps.nil_none_ w9 w9.heap.size) (Nat.le_refl _)
          have HPP := hid HP
          have rA := row_two_ w9 (.int .i64 d9) (.slice none 0 0) 36
          clear HP
          go_wp2_with (at_builtin; go_must (refine wpList_append_row _ rfl _ _ 31 rfl w.heap.size 36 i0 (.agg #[.int .i64 0, .slice none 0 0]) 2 32 Try.underlying31 hi hz0 hz1 hz2 rfl (by decide) _ (ps9).length ys rfl hrow _ (some ⟨w9.heap.size, 0, none⟩) 1 1 [.int .i64 d9, .slice none 0 0] rfl rA rfl (part_cells _ _ _ _) (by unfold maxLen; omega) (by omega) hz5 ?_); intro v7 w7 hown hg; obtain ⟨A7, c7, rfl, S7⟩ := HPP.out v7 w7 hown hg; clear hown hg)
          go_ret
          exact ⟨_, _, rfl, S7.1, by rw [List.length_append]; simp; omega, HSM.out.snoc (Nat.zero_le _), S7.2.2.1.more (by push_cast; omega), S7.2.2.2⟩
        · have e9 : (d == 0) = false := by rw [beq_eq_false_iff_ne]; exact h9
          clear h9
          go_wp2_with fail
          go_ret
          exact ⟨_, _, rfl, S.1, by omega, HSM.out, S.2.2.1.more (by push_cast; omega), S.2.2.2⟩
      · have e0 : ((ps.length : Int) == 0) = false := by rw [beq_eq_false_iff_ne]; omega
        clear h0
        go_wp2_with fail
        refine (pick_any R _ 24 _ S.2.2.1 (by omega) (by omega) (by omega)).mono ?_
        rintro e w8 ⟨d, rfl, d0, d1, R8, T8⟩
        replace S := S.but R8 T8
        clear R8 T8
        by_cases h9 : d = 0
        · have e9 : (d == 0) = true := by rw [h9]; rfl
          clear h9
          go_wp2_with fail
          refine (pick_any R _ 4 _ S.2.2.1 (by omega) (by omega) (by omega)).mono ?_
          rintro e w9 ⟨d9, rfl, d90, d91, R9, T9⟩
          replace S := S.but R9 T9
          clear R9 T9
          obtain ⟨ys, hrow, hz5, HP⟩ := S.add (p := ⟨d9, []⟩) (A := none) (c := 0) S.2.2.1 (.refl R w9) (OwnUps.nil_none_ w9 w9.heap.size) (Nat.le_refl _)
          have HPP := hid HP
          have rA := row_two_ w9 (.int .i64 d9) (.slice none 0 0) 36
          clear HP
          go_wp2_with (at_builtin; go_must (refine wpList_append_row _ rfl _ _ 31 rfl w.heap.size 36 i0 (.agg #[.int .i64 0, .slice none 0 0]) 2 32 Try.underlying31 hi hz0 hz1 hz2 rfl (by decide) _ (ps).length ys rfl hrow _ (some ⟨w9.heap.size, 0, none⟩) 1 1 [.int .i64 d9, .slice none 0 0] rfl rA rfl (part_cells _ _ _ _) (by unfold maxLen; omega) (by omega) hz5 ?_); intro v7 w7 hown hg; obtain ⟨A7, c7, rfl, S7⟩ := HPP.out v7 w7 hown hg; clear hown hg)
          go_ret
          exact ⟨_, _, rfl, S7.1, by rw [List.length_append]; simp; omega, HSM.out.snoc (Nat.zero_le _), S7.2.2.1.more (by push_cast; omega), S7.2.2.2⟩
        · have e9 : (d == 0) = false := by rw [beq_eq_false_iff_ne]; exact h9
          clear h9
          go_wp2_with fail
          go_ret
          exact ⟨_, _, rfl, S.1, by omega, HSM.out, S.2.2.1.more (by push_cast; omega), S.2.2.2⟩
end Go.Proofs.Ytjplondblkkpmaa
