/-
  Walks: what the laws on refs draw.
-/
import Derived.Test.YtimoabghkmebfaaDrawU
namespace Go.Proofs.Ytimoabghkmebfaa
open Go.RowKit Wo Pu Rf

/-- Drawn refs. -/
def RefsMade (w : World) (e : Ending) (w' : World) : Prop := ∃ A c zs, e = .returned (.slice A zs.length c) ∧ Row w' w'.heap.size A (ints zs) ∧ zs.length ≤ 4 ∧ zs.length ≤ c ∧ Below w.heap.size w w'
/-- Drawn updates. -/
def UpsMade (w : World) (e : Ending) (w' : World) : Prop := ∃ A c us, e = .returned (.slice A us.length c) ∧ Row w' w'.heap.size A (upsV us) ∧ us.length ≤ 4 ∧ us.length ≤ c ∧ Below w.heap.size w w'
/-- Drawn refs and updates. -/
def BothMade (w : World) (e : Ending) (w' : World) : Prop := ∃ A c zs A2 c2 us, e = .returned (.tuple #[.slice A zs.length c, .slice A2 us.length c2]) ∧ Row w' w'.heap.size A (ints zs) ∧ zs.length ≤ 4 ∧ Row w' w'.heap.size A2 (upsV us) ∧ us.length ≤ 4 ∧ Below w.heap.size w w'
/-- Two drawn lists of refs. -/
def TwoRefs (w : World) (e : Ending) (w' : World) : Prop := ∃ A c zs A2 c2 ys, e = .returned (.tuple #[.slice A zs.length c, .slice A2 ys.length c2]) ∧ Row w' w'.heap.size A (ints zs) ∧ zs.length ≤ 4 ∧ Row w' w'.heap.size A2 (ints ys) ∧ ys.length ≤ 4 ∧ Below w.heap.size w w'
/-- Two drawn lists of updates. -/
def TwoUps (w : World) (e : Ending) (w' : World) : Prop := ∃ A c us A2 c2 vs, e = .returned (.tuple #[.slice A us.length c, .slice A2 vs.length c2]) ∧ Row w' w'.heap.size A (upsV us) ∧ us.length ≤ 4 ∧ Row w' w'.heap.size A2 (upsV vs) ∧ vs.length ≤ 4 ∧ Below w.heap.size w w'
theorem OwnI.ne {w : World} {B R n c : Nat} {A : Option Addr} {zs : List Int} (h : OwnI w B (.slice A n c) zs) (hR : R < B) : ∀ ad, A = some ad → ad.block ≠ R := fun ad e => by
  subst e
  have := (World.ownsRow.lt h ad.block rfl).1
  omega
theorem OwnUps.row {w : World} {B c : Nat} {A : Option Addr} {n : Nat} {us : List Up} (h : OwnUps w B (.slice A n c) us) : Row w w.heap.size A (upsV us) := by
  obtain ⟨A', c', e, hr, _⟩ := h.form
  injection e with e1
  subst e1
  exact hr
theorem row_wide {w : World} {B B' : Nat} {A : Option Addr} {vs : List Value} (h : Row w B A vs) (hB : B ≤ B') : Row w B' A vs := by
  rcases h with rfl | ⟨ad, e, hb, hc⟩
  · exact .inl rfl
  · exact .inr ⟨ad, e, Nat.lt_of_lt_of_le hb hB, hc⟩
theorem OwnI.wide {w w' : World} {B c n : Nat} {A : Option Addr} {zs : List Int} (h : OwnI w B (.slice A n c) zs) (hb : Below w.heap.size w w') : Row w' w'.heap.size A (ints zs) := (h.below hb (Nat.le_refl _)).row
set_option maxHeartbeats 4000000 in
theorem DrawRefsApply_any (A : Option Addr) (c : Nat) (bs : List Int) (w : World) (h : Code_ w A c bs) :
    Calls Try.prog 11 #[.slice A bs.length c] w (BothMade w) := by
  go_enter Try.func11, Try.ntmps11
  go_wp2_with fail
  refine (l6Open_any A c bs w h).mono ?_
  rintro e w1 ⟨rfl, R1, b1⟩
  go_wp2_with fail
  refine (l92Refs_any w.heap.size 0 w1 R1 (by omega)).mono ?_
  rintro e w2 ⟨v, zs, rfl, o2, h2, R2, T2⟩
  obtain ⟨A2, c2, rfl, r2, hc2⟩ := o2.form
  have hne := o2.ne R1.lt
  have b2 := b1.trans (T2.below b1.size (Nat.le_refl _))
  go_wp2_with fail
  refine (l92Updates_any w.heap.size _ A2 c2 zs w2 R2 (by omega) r2 hne).mono ?_
  rintro e w3 ⟨v3, us, rfl, o3, h3, R3, T3⟩
  obtain ⟨A3, c3, rfl, r3, hc3⟩ := o3.form
  have r4 := (o2.but T3 R1.lt).row
  clear hne
  go_wp2
  go_ret2
  exact ⟨A2, c2, zs, A3, c3, us, rfl, r4, h2, r3, h3, b2.trans (T3.below b2.size (Nat.le_refl _))⟩
set_option maxHeartbeats 4000000 in
theorem DrawUpdatesCross_any (A : Option Addr) (c : Nat) (bs : List Int) (w : World) (h : Code_ w A c bs) :
    Calls Try.prog 23 #[.slice A bs.length c] w (TwoUps w) := by
  go_enter Try.func23, Try.ntmps23
  go_wp2_with fail
  refine (l6Open_any A c bs w h).mono ?_
  rintro e w1 ⟨rfl, R1, b1⟩
  go_wp2_with fail
  refine (l92Refs_any w.heap.size 0 w1 R1 (by omega)).mono ?_
  rintro e w2 ⟨v, zs, rfl, o2, h2, R2, T2⟩
  obtain ⟨A2, c2, rfl, r2, hc2⟩ := o2.form
  have hne := o2.ne R1.lt
  have b2 := b1.trans (T2.below b1.size (Nat.le_refl _))
  go_wp2_with fail
  refine (l92Updates_any w.heap.size _ A2 c2 zs w2 R2 (by omega) r2 hne).mono ?_
  rintro e w3 ⟨v3, us, rfl, o3, h3, R3, T3⟩
  obtain ⟨A3, c3, rfl, r3, hc3⟩ := o3.form
  have r4 := (o2.but T3 R1.lt).row
  have b3 := b2.trans (T3.below b2.size (Nat.le_refl _))
  go_wp2_with fail
  refine (l92Updates_any w.heap.size _ A2 c2 zs w3 R3 (by omega) r4 hne).mono ?_
  rintro e w4 ⟨v4, vs, rfl, o4, h4, R4, T4⟩
  obtain ⟨A4, c4, rfl, r5, hc4⟩ := o4.form
  have r6 := (o3.but T4 (Nat.lt_of_lt_of_le R1.lt T2.size)).row
  clear hne
  go_wp2
  go_ret2
  exact ⟨A3, c3, us, A4, c4, vs, rfl, r6, h3, r5, h4, b3.trans (T4.below b3.size (Nat.le_refl _))⟩
set_option maxRecDepth 100000 in
set_option maxHeartbeats 8000000 in
theorem DrawRefsDiffer_any (A : Option Addr) (c : Nat) (bs : List Int) (w : World) (h : Code_ w A c bs) :
    Calls Try.prog 17 #[.slice A bs.length c] w (TwoRefs w) := by
  obtain ⟨i0, hi, hz0, hz1, hz2⟩ := info_of info_int
  go_enter Try.func17, Try.ntmps17
  go_wp2_with fail
  refine (l6Open_any A c bs w h).mono ?_
  rintro e w1 ⟨rfl, R1, b1⟩
  go_wp2_with fail
  refine (l92Refs_any w.heap.size 0 w1 R1 (by omega)).mono ?_
  rintro e w2 ⟨v, zs, rfl, o2, h2, R2, T2⟩
  obtain ⟨A2, c2, rfl, r2, hc2⟩ := o2.form
  have hne := o2.ne R1.lt
  have b2 := b1.trans (T2.below b1.size (Nat.le_refl _))
  have hzl : Hid (zs.length ≤ 4) := h2
  have al := (Below.refl w2.heap.size w2).alloc (Nat.le_refl _) (.cells #[] 3)
  go_wp2_with (at_builtin; go_must (refine wpList_append_row _ rfl _ _ 23 rfl w2.heap.size 3 i0 (.int .i64 0) 1 8 Try.underlying23 hi hz0 hz1 hz2 rfl (by decide) _ 0 [] rfl (nil_own (Nat.le_refl _) _ _) w2.heap.size A2 zs.length c2 (ints zs) rfl (r2.below al (Nat.le_refl _)) (by rw [ints_length]; omega) (by intro u hu; obtain ⟨x, _, rfl⟩ := List.mem_map.1 hu; rfl) (by have := hzl.out; unfold maxLen; omega) (by have := hzl.out; omega) (by simp) ?_); intro v4 w4 hown hg)
  have b4 : Below w2.heap.size w2 w4 := al.grown hg (by simp) (fun j hj => by injection hj with hj; exact Nat.le_of_eq hj)
  have ho0 : OwnI w4 w2.heap.size v4 zs := by
    unfold OwnI
    rw [Nat.zero_add, List.nil_append] at hown
    exact hown
  have R4 := R2.below b4 R2.lt
  have T4 : But w.heap.size w2 w4 := .of_below b4
  have hRl := R1.lt
  have hRl2 := R2.lt
  clear hown hg al R2 b4 o2 b1 T2
  go_wp2_with fail
  refine (pick_any w.heap.size _ 2 w4 R4 (by omega) (by omega) (by omega)).mono ?_
  rintro e w5 ⟨x, rfl, x0, x1, R5, T5⟩
  have ho5 := ho0.but T5 hRl2
  have T6 := T4.trans T5
  clear R4 T5 ho0 T4
  by_cases hx : x = 0
  · have e0 : (x == 0) = true := by rw [hx]; rfl
    clear hx
    by_cases hz0 : 0 < zs.length
    · obtain ⟨g, c5, rfl, hg1, hg2⟩ := ho5.at hz0
      have hl1 : zs.length ≤ 4 := hzl.out
      have z0 : decide ((0 : Int) < (zs.length : Int)) = true := decide_eq_true (by omega)
      go_wp2_with fail
      refine (pick_any w.heap.size _ (zs.length : Int) w5 R5 (by omega) (by omega) (by omega)).mono ?_
      rintro e w6 ⟨y, rfl, y0, y1, R6, T7⟩
      obtain ⟨m, rfl⟩ := Int.eq_ofNat_of_zero_le y0
      have hm : m < zs.length := by omega
      go_wp2_with fail
      refine (pick_any w.heap.size _ 6 w6 R6 (by omega) (by omega) (by omega)).mono ?_
      rintro e w7 ⟨u, rfl, u0, u1, R7, T8⟩
      have o7 := (ho5.but T7 hRl2).but T8 hRl2
      have T9 := (T6.trans T7).trans T8
      have f0 := World.ownsRow.frozenAt o7 m
      have q0 := o7.cell hm
      have o8 := o7.set m (u - 1)
      have T10 := T9.set_new hg1 m (.int .i64 (u - 1))
      have ls : (zs.set m (u - 1)).length = zs.length := List.length_set ..
      rw [ls] at o8
      have ra := row_wide (row_but r2 hne T10 (Nat.le_refl _)) T10.size
      have b10 := b2.trans (T10.below b2.size (Nat.le_refl _))
      clear R5 ho5 T6 R6 T7 R7 T8 o7 T9 hne r2 T10 b2
      go_wp2_with fail
      go_ret2
      exact ⟨_, _, zs, some ⟨g, 0, none⟩, c5, zs.set m (u - 1), by rw [ls]; rfl, ra, hl1, o8.row, by rw [ls]; exact hl1, b10⟩
    · obtain ⟨A5, c5, rfl, -, -⟩ := ho5.form
      have z0 : decide ((0 : Int) < (zs.length : Int)) = false := decide_eq_false (by omega)
      have z1 : decide (0 < zs.length) = false := decide_eq_false hz0
      go_wp2_with fail
      refine (l92Refs_any w.heap.size _ w5 R5 (by omega)).mono ?_
      rintro e w6 ⟨v6, ys, rfl, o6, h6, R6, T7⟩
      obtain ⟨A6, c6, rfl, r6, hc6⟩ := o6.form
      have T8 := T6.trans T7
      have ra := row_wide (row_but r2 hne T8 (Nat.le_refl _)) T8.size
      have b8 := b2.trans (T8.below b2.size (Nat.le_refl _))
      clear R5 ho5 T6 T7 hne r2 T8 b2
      go_wp2_with fail
      go_ret2
      exact ⟨_, _, zs, A6, c6, ys, rfl, ra, hzl.out, r6, h6, b8⟩
  · have e0 : (x == 0) = false := by rw [beq_eq_false_iff_ne]; exact hx
    clear hx
    go_wp2_with fail
    refine (l92Refs_any w.heap.size _ w5 R5 (by omega)).mono ?_
    rintro e w6 ⟨v6, ys, rfl, o6, h6, R6, T7⟩
    obtain ⟨A6, c6, rfl, r6, hc6⟩ := o6.form
    have T8 := T6.trans T7
    have ra := row_wide (row_but r2 hne T8 (Nat.le_refl _)) T8.size
    have b8 := b2.trans (T8.below b2.size (Nat.le_refl _))
    clear R5 ho5 T6 T7 hne r2 T8 b2
    go_wp2_with fail
    go_ret2
    exact ⟨_, _, zs, A6, c6, ys, rfl, ra, hzl.out, r6, h6, b8⟩
end Go.Proofs.Ytimoabghkmebfaa
