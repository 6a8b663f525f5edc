/- The coordinator with the slices $SA and $SB is stored as the answer, with the word $BB. -/
/- Laws on coordinators: a coordinator is boxed. -/
/- On to the world behind D. -/
/- An exact law begins: the argument's box, its size, a copy for the model. -/
/- The program's own copy of the argument is boxed. -/
/- The program's copy is as the argument; the region draws. -/
/- Laws on functions that answer numbers. -/
/- What the boxes hold is read again. -/
/- The coordinator with the slices P4 and P5 is boxed as P6, in block P7, behind it the world P3; ahead of region P1. -/
/- The draw, the program's answer, the model's, and that they are the same: behind it w5, all facts on it by way of dx. -/
/-
  Walks: drawn updates.
-/
import Derived.Test.YtjplondblkkpmaaG2C
namespace Go.Proofs.Ytjplondblkkpmaa
open Go.RowKit Wo Pu Rf

theorem row_but {w w' : World} {R B : Nat} {A : Option Addr} {vs : List Value} (h : Row w B A vs) (hA : ∀ ad, A = some ad → ad.block ≠ R) (hb : But R w w') (hB : B ≤ w.heap.size) : Row w' B A vs := by
  rcases h with rfl | ⟨ad, e, hbk, hc⟩
  · exact .inl rfl
  · refine .inr ⟨ad, e, hbk, fun j v hv => ?_⟩
    rw [← hc j v hv]
    exact World.cell?_of_block (w := w) (a := ad.add j) (by rw [add_block]; exact hb.block ad.block (by omega) (fun e2 => hA ad e (by injection e2)))
theorem OwnUps.far {w : World} {B g : Nat} {v : Value} {os : List Up} (h : OwnUps w B v os) (hg : v.ownBlock ≠ some g) (o : Nat) (u : Value) : OwnUps (w.setCell ⟨g, o, none⟩ u) B v os := by
  obtain ⟨h1, h2⟩ := h
  refine ⟨h1, ?_⟩
  rcases h2 with h2 | ⟨g', cap, cur, rfl, hB, hh, hr⟩
  · exact .inl h2
  · refine .inr ⟨g', cap, cur, rfl, hB, ?_, hr⟩
    rw [Below.heap_setCell _ _ _ _ (fun e => hg (by show some g' = some g; rw [show g' = g from e]))]
    exact hh
theorem new_three_at (w : World) (g : Nat) (v0 v1 v2 : Value) (t : TypeId) (hg : g = w.heap.size) : ∀ j u, [v0, v1, v2][j]? = some u → (w.alloc (.cells #[v0, v1, v2] t)).cell? ((⟨g, 0, none⟩ : Addr).add j) = some u := by
  subst hg; exact new_three _ _ _ _ _
/-- An update that is being drawn, in block g; those before it. -/
def USt (R g : Nat) (q : Int) (W : World) (v : Value) (L : List Up) (o : Up) (wx : World) : Prop :=
  OwnUps wx W.heap.size v L ∧ Blk wx g 38 (.int .i64 o.r) (.int .i64 o.o) (.int .i64 o.n) ∧ v.ownBlock ≠ some g ∧ W.heap.size ≤ g ∧ Rd wx R q ∧ But R W wx
section
variable {R g : Nat} {q q' : Int} {W wx w' : World} {v : Value} {L : List Up} {o : Up}
theorem USt.but (h : USt R g q W v L o wx) (hR : R < W.heap.size) (hb : But R wx w') (hr : Rd w' R q') : USt R g q' W v L o w' := by
  obtain ⟨h1, h2, h3, h4, h5, h6⟩ := h
  exact ⟨h1.but hb hR, h2.but hb (by omega), h3, h4, hr, h6.trans hb⟩
theorem USt.set1 (h : USt R g q W v L o wx) (hR : R < W.heap.size) (x : Int) : USt R g q W v L ⟨o.r, x, o.n⟩ (wx.setCell ⟨g, 1, none⟩ (.int .i64 x)) := by
  obtain ⟨h1, h2, h3, h4, h5, h6⟩ := h
  exact ⟨h1.far h3 _ _, h2.set1 _, h3, h4, h5.far (by omega) _ _, h6.set_new h4 _ _⟩
theorem USt.set2 (h : USt R g q W v L o wx) (hR : R < W.heap.size) (x : Int) : USt R g q W v L ⟨o.r, o.o, x⟩ (wx.setCell ⟨g, 2, none⟩ (.int .i64 x)) := by
  obtain ⟨h1, h2, h3, h4, h5, h6⟩ := h
  exact ⟨h1.far h3 _ _, h2.set2 _, h3, h4, h5.far (by omega) _ _, h6.set_new h4 _ _⟩
theorem USt.new_ (h1 : OwnUps wx W.heap.size v L) (h5 : Rd wx R q) (h6 : But R W wx) (hR : R < W.heap.size) : USt R wx.heap.size q W v L o (wx.alloc (.cells #[.int .i64 o.r, .int .i64 o.o, .int .i64 o.n] 38)) := by
  have al := (Below.refl wx.heap.size wx).alloc (Nat.le_refl _) (.cells #[.int .i64 o.r, .int .i64 o.o, .int .i64 o.n] 38)
  refine ⟨h1.below al, Blk.new_ _ _ _ _ _, fun e => ?_, h6.size, h5.below al (Nat.lt_of_lt_of_le hR h6.size), h6.trans (.of_below al)⟩
  have := (World.ownsRow.lt h1 _ e).2
  omega
end
/-- Behind an append of an update. -/
theorem ups_app {R : Nat} {q : Int} {W wx w' : World} {v v' : Value} {L : List Up} {o : Up} (h1 : OwnUps wx W.heap.size v L) (h5 : Rd wx R q) (h6 : But R W wx) (hR : R < W.heap.size)
    (hown : w'.ownsRow W.heap.size 38 3 v' (L.length + 1) (upsV L ++ [.int .i64 o.r, .int .i64 o.o, .int .i64 o.n]))
    (hg : (wx.alloc (.cells #[.int .i64 o.r, .int .i64 o.o, .int .i64 o.n] 38)).grownBy w' v.ownBlock) : OwnUps w' W.heap.size v' (L ++ [o]) ∧ Rd w' R q ∧ But R W w' := by
  have al := (Below.refl wx.heap.size wx).alloc (Nat.le_refl _) (.cells #[.int .i64 o.r, .int .i64 o.o, .int .i64 o.n] 38)
  have lt1 := World.ownsRow.lt h1
  refine ⟨?_, ?_, ?_⟩
  · unfold OwnUps
    rw [List.length_append, List.length_singleton, upsV_append, upsV_one]
    exact hown
  · have b : Below W.heap.size wx w' := ((Below.refl W.heap.size wx).alloc h6.size _).grown hg (by have := h6.size; simp; omega) (fun k hk => (lt1 k hk).1)
    exact h5.below b hR
  · exact World.grownBy.andThen (h6.trans (.of_below al)) hg (fun k hk => .inl (lt1 k hk).1)
theorem upsV_setd {os : List Up} {m d : Nat} (h : m < os.length) (hd : d < 3) (o : Up) (v : Value) (ho : upV o = (upV os[m]).set d v) : (upsV os).set (m * 3 + d) v = upsV (os.set m o) := by
  have hl := upsV_length os
  apply List.ext_getElem?
  intro j
  by_cases hj : j < os.length * 3
  · obtain ⟨q, d', hd', rfl⟩ : ∃ q d', d' < 3 ∧ j = q * 3 + d' := ⟨j / 3, j % 3, by omega, by omega⟩
    have hq : q < os.length := by omega
    rw [upsV_get (os := os.set m o) (by rw [List.length_set]; exact hq) hd']
    by_cases e : q = m
    · subst e
      have hoo : (os.set q o)[q]'(by rw [List.length_set]; exact hq) = o := by simp
      rw [hoo, ho]
      by_cases e2 : d' = d
      · subst e2
        rw [List.getElem?_set_self (by omega), List.getElem?_set_self (by show _ < 3; exact hd)]
      · rw [List.getElem?_set_ne (by omega), List.getElem?_set_ne (by omega), upsV_get hq hd']
    · have hoo : (os.set m o)[q]'(by rw [List.length_set]; exact hq) = os[q] := by rw [List.getElem_set_ne (by omega)]
      rw [hoo, List.getElem?_set_ne (by omega), upsV_get hq hd']
  · rw [List.getElem?_eq_none (by simp; omega), List.getElem?_eq_none (by rw [upsV_length, List.length_set]; omega)]
theorem OwnUps.stored {w : World} {B g c : Nat} {os : List Up} (h : OwnUps w B (.slice (some ⟨g, 0, none⟩) os.length c) os) {m d : Nat} (hm : m < os.length) (hd : d < 3) (o : Up) (v : Value) (ho : upV o = (upV os[m]).set d v) :
    OwnUps (w.setCell ⟨g, m * 3 + d, none⟩ v) B (.slice (some ⟨g, 0, none⟩) os.length c) (os.set m o) := by
  have := (World.ownsRow.stored h (m * 3 + d) v).1
  rw [upsV_setd hm hd o v ho] at this
  unfold OwnUps
  rw [List.length_set]
  exact this
theorem OwnUps.at {w : World} {B : Nat} {v : Value} {os : List Up} (h : OwnUps w B v os) (hp : 0 < os.length) : ∃ g c, v = .slice (some ⟨g, 0, none⟩) os.length c ∧ B ≤ g ∧ g < w.heap.size := by
  obtain ⟨g, cap, e, h1, h2⟩ := World.ownsRow.form h hp
  exact ⟨g, cap, e, h1, h2⟩
theorem OwnUps.cut0 {w : World} {B c n : Nat} {A : Option Addr} {os : List Up} (h : OwnUps w B (.slice A n c) os) (hn : n = os.length) : OwnUps w B (.slice A 0 c) [] := by
  subst hn
  exact own_cut h (Nat.zero_le _)

/-- Drawn updates. -/
def UpsDrawn (R : Nat) (q : Int) (w : World) (e : Ending) (w' : World) : Prop := ∃ v us, e = .returned v ∧ OwnUps w' w.heap.size v us ∧ us.length ≤ 4 ∧ Rd w' R (q + 30) ∧ But R w w'

set_option maxRecDepth 100000 in
set_option maxHeartbeats 8000000 in
theorem l92Updates_any (R : Nat) (q : Int) (A : Option Addr) (c : Nat) (zs : List Int) (w : World) (hR : Rd w R q) (hq : q ≤ 700000000) (hz : Row w w.heap.size A (ints zs)) (hA : ∀ ad, A = some ad → ad.block ≠ R) :
    Calls Try.prog 78 #[.pointer (some ⟨R, 0, none⟩), .slice A zs.length c] w (UpsDrawn R q w) := by
  obtain ⟨i0, hi, hz0, hz1, hz2⟩ := info_of info_up
  have hRl := hR.lt
  have al := (Below.refl w.heap.size w).alloc (Nat.le_refl _) (.cells #[] 38)
  have R0 := hR.below al hRl
  have T0 : But R w (w.alloc (.cells #[] 38)) := .of_below al
  have o0 := OwnUps.nil_new (w := w) (Nat.le_refl _)
  go_enter Try.func78, Try.ntmps78
  go_wp2_with fail
  go_loopw [5, 6] (fun v i wr => ∃ (k : Nat) (L : List Up), k ≤ 4 ∧ i = .int .i64 k ∧ Hid (L.length ≤ k) ∧ OwnUps wr w.heap.size v L ∧ Rd wr R (q + 4 * k) ∧ But R w wr) (fun _ i _ => 4 - (intOf i).toNat)
  case atStart => exact ⟨0, [], Nat.zero_le _, rfl, Nat.le_refl _, o0, by simpa using R0, T0⟩
  case round =>
    clear o0 R0 T0 al
    obtain ⟨k, L, hk, rfl, HL, ho, Rk, Tk⟩ := hrel
    have HL4 : Hid (L.length ≤ 4) := by have := HL.out; show _ ≤ _; omega
    by_cases hlt : k < 4
    · go_wp2_with fail
      refine (pick_any R _ 3 wr Rk (by omega) (by omega) (by omega)).mono ?_
      rintro e w1 ⟨x, rfl, x0, x1, R1, T1⟩
      have o1 := ho.but T1 hRl
      have T2 := Tk.trans T1
      clear ho Rk Tk T1
      by_cases hx : x = 0
      · have e0 : (x == 0) = true := by rw [hx]; rfl
        clear hx
        go_wp2_with fail
        refine (pick_any R _ 4 w1 R1 (by omega) (by omega) (by omega)).mono ?_
        rintro e w2 ⟨x2, rfl, y0, y1, R2, T3⟩
        have o2 := o1.but T3 hRl
        have T4 := T2.trans T3
        clear o1 R1 T2 T3
        go_wp2_with fail
        refine (pick_any R _ 6 w2 R2 (by omega) (by omega) (by omega)).mono ?_
        rintro e w3 ⟨x3, rfl, y2, y3, R3, T5⟩
        have o3 := o2.but T5 hRl
        have T6 := T4.trans T5
        have s1 := USt.new_ (o := ⟨(k : Int), x2 - 1, x3 - 1⟩) o3 R3 T6 hRl
        clear o2 R2 T4 T5 o3 R3 T6
        by_cases hkz : k < zs.length
        · have q0 : (0 : Int) ≤ (k : Int) := by omega
          have q1 : (k : Int) < (zs.length : Int) := by omega
          go_wp2_with fail
          refine (pick_any R _ 6 _ s1.2.2.2.2.1 (by omega) (by omega) (by omega)).mono ?_
          rintro e w4 ⟨y, rfl, y4, y5, R4, T7⟩
          have s4 := USt.but s1 hRl T7 R4
          clear s1 R4 T7
          by_cases hy : 0 < y
          · have e1 : decide (0 < y) = true := decide_eq_true hy
            have rz := row_but hz hA s4.2.2.2.2.2 (Nat.le_refl _)
            obtain ⟨ad, rfl, had, hc⟩ := rz.int_ hkz
            obtain ⟨p0, p1, p2, pf⟩ := id s4.2.1.reads
            have pf1 := pf 1
            have s5 := USt.set1 s4 hRl zs[k]
            obtain ⟨z, hzz⟩ : ∃ z, zs[k] = z := ⟨_, rfl⟩
            rw [hzz] at hc s5
            clear pf hy rz s4 hzz
            by_cases he : (x3 - 1) = z
            · have e9 : ((x3 - 1) == z) = true := by rw [beq_iff_eq]; exact he
              obtain ⟨t0, t1, t2, tf⟩ := id s5.2.1.reads
              have tf2 := tf 2
              have s9 := USt.set2 s5 hRl (7 + (k : Int))
              clear tf he
              obtain ⟨hrow, -⟩ := id s9
              obtain ⟨y0, y1, y2, -⟩ := id s9.2.1.reads
              have hsz := Nat.le_trans s9.2.2.2.1 (Nat.le_of_lt s9.2.1.lt)
              go_wp2_with (at_builtin; go_must (refine wpList_append_own _ rfl _ _ 34 rfl w.heap.size 38 i0 (.agg #[.int .i64 0, .int .i64 0, .int .i64 0]) 3 24 Try.underlying34 hi hz0 hz1 hz2 rfl (by decide) _ L.length (upsV L) rfl (World.ownsRow.alloc hrow _) ⟨_, 0, none⟩ 1 1 [.int .i64 (k : Int), .int .i64 z, .int .i64 (7 + (k : Int))] rfl rfl (new_three_at _ _ _ _ _ _ (by first | rfl | simp)) (upV_cells ⟨(k : Int), z, (7 + (k : Int))⟩) (by have := HL4.out; unfold maxLen; omega) (by have := HL4.out; omega) (by rw [World.size_alloc]; exact Nat.le_succ_of_le hsz) ?_); intro v' w8 hown hg _)
              obtain ⟨a1, a2, a3⟩ := ups_app (o := ⟨(k : Int), z, (7 + (k : Int))⟩) s9.1 s9.2.2.2.2.1 s9.2.2.2.2.2 hRl hown hg
              clear hown hg
              go_wp2
              go_roundw
              case rel => exact ⟨k + 1, L ++ [⟨(k : Int), z, (7 + (k : Int))⟩], by omega, by go_num, by show _ ≤ _; rw [List.length_append, List.length_singleton]; have := HL.out; omega, a1, a2.more (by omega), a3⟩
              case measure => simp [intOf]; omega
            · have e9 : ((x3 - 1) == z) = false := by rw [beq_eq_false_iff_ne]; exact he
              clear he
              obtain ⟨hrow, -⟩ := id s5
              obtain ⟨y0, y1, y2, -⟩ := id s5.2.1.reads
              have hsz := Nat.le_trans s5.2.2.2.1 (Nat.le_of_lt s5.2.1.lt)
              go_wp2_with (at_builtin; go_must (refine wpList_append_own _ rfl _ _ 34 rfl w.heap.size 38 i0 (.agg #[.int .i64 0, .int .i64 0, .int .i64 0]) 3 24 Try.underlying34 hi hz0 hz1 hz2 rfl (by decide) _ L.length (upsV L) rfl (World.ownsRow.alloc hrow _) ⟨_, 0, none⟩ 1 1 [.int .i64 (k : Int), .int .i64 z, .int .i64 (x3 - 1)] rfl rfl (new_three_at _ _ _ _ _ _ (by first | rfl | simp)) (upV_cells ⟨(k : Int), z, (x3 - 1)⟩) (by have := HL4.out; unfold maxLen; omega) (by have := HL4.out; omega) (by rw [World.size_alloc]; exact Nat.le_succ_of_le hsz) ?_); intro v' w8 hown hg _)
              obtain ⟨a1, a2, a3⟩ := ups_app (o := ⟨(k : Int), z, (x3 - 1)⟩) s5.1 s5.2.2.2.2.1 s5.2.2.2.2.2 hRl hown hg
              clear hown hg
              go_wp2
              go_roundw
              case rel => exact ⟨k + 1, L ++ [⟨(k : Int), z, (x3 - 1)⟩], by omega, by go_num, by show _ ≤ _; rw [List.length_append, List.length_singleton]; have := HL.out; omega, a1, a2.more (by omega), a3⟩
              case measure => simp [intOf]; omega
          · have e1 : decide (0 < y) = false := decide_eq_false hy
            obtain ⟨p0, p1, p2, -⟩ := id s4.2.1.reads
            clear hy
            by_cases he : (x3 - 1) = (x2 - 1)
            · have e9 : ((x3 - 1) == (x2 - 1)) = true := by rw [beq_iff_eq]; exact he
              obtain ⟨t0, t1, t2, tf⟩ := id s4.2.1.reads
              have tf2 := tf 2
              have s9 := USt.set2 s4 hRl (7 + (k : Int))
              clear tf he
              obtain ⟨hrow, -⟩ := id s9
              obtain ⟨y0, y1, y2, -⟩ := id s9.2.1.reads
              have hsz := Nat.le_trans s9.2.2.2.1 (Nat.le_of_lt s9.2.1.lt)
              go_wp2_with (at_builtin; go_must (refine wpList_append_own _ rfl _ _ 34 rfl w.heap.size 38 i0 (.agg #[.int .i64 0, .int .i64 0, .int .i64 0]) 3 24 Try.underlying34 hi hz0 hz1 hz2 rfl (by decide) _ L.length (upsV L) rfl (World.ownsRow.alloc hrow _) ⟨_, 0, none⟩ 1 1 [.int .i64 (k : Int), .int .i64 (x2 - 1), .int .i64 (7 + (k : Int))] rfl rfl (new_three_at _ _ _ _ _ _ (by first | rfl | simp)) (upV_cells ⟨(k : Int), (x2 - 1), (7 + (k : Int))⟩) (by have := HL4.out; unfold maxLen; omega) (by have := HL4.out; omega) (by rw [World.size_alloc]; exact Nat.le_succ_of_le hsz) ?_); intro v' w8 hown hg _)
              obtain ⟨a1, a2, a3⟩ := ups_app (o := ⟨(k : Int), (x2 - 1), (7 + (k : Int))⟩) s9.1 s9.2.2.2.2.1 s9.2.2.2.2.2 hRl hown hg
              clear hown hg
              go_wp2
              go_roundw
              case rel => exact ⟨k + 1, L ++ [⟨(k : Int), (x2 - 1), (7 + (k : Int))⟩], by omega, by go_num, by show _ ≤ _; rw [List.length_append, List.length_singleton]; have := HL.out; omega, a1, a2.more (by omega), a3⟩
              case measure => simp [intOf]; omega
            · have e9 : ((x3 - 1) == (x2 - 1)) = false := by rw [beq_eq_false_iff_ne]; exact he
              clear he
              obtain ⟨hrow, -⟩ := id s4
              obtain ⟨y0, y1, y2, -⟩ := id s4.2.1.reads
              have hsz := Nat.le_trans s4.2.2.2.1 (Nat.le_of_lt s4.2.1.lt)
              go_wp2_with (at_builtin; go_must (refine wpList_append_own _ rfl _ _ 34 rfl w.heap.size 38 i0 (.agg #[.int .i64 0, .int .i64 0, .int .i64 0]) 3 24 Try.underlying34 hi hz0 hz1 hz2 rfl (by decide) _ L.length (upsV L) rfl (World.ownsRow.alloc hrow _) ⟨_, 0, none⟩ 1 1 [.int .i64 (k : Int), .int .i64 (x2 - 1), .int .i64 (x3 - 1)] rfl rfl (new_three_at _ _ _ _ _ _ (by first | rfl | simp)) (upV_cells ⟨(k : Int), (x2 - 1), (x3 - 1)⟩) (by have := HL4.out; unfold maxLen; omega) (by have := HL4.out; omega) (by rw [World.size_alloc]; exact Nat.le_succ_of_le hsz) ?_); intro v' w8 hown hg _)
              obtain ⟨a1, a2, a3⟩ := ups_app (o := ⟨(k : Int), (x2 - 1), (x3 - 1)⟩) s4.1 s4.2.2.2.2.1 s4.2.2.2.2.2 hRl hown hg
              clear hown hg
              go_wp2
              go_roundw
              case rel => exact ⟨k + 1, L ++ [⟨(k : Int), (x2 - 1), (x3 - 1)⟩], by omega, by go_num, by show _ ≤ _; rw [List.length_append, List.length_singleton]; have := HL.out; omega, a1, a2.more (by omega), a3⟩
              case measure => simp [intOf]; omega
        · have e1 : decide ((k : Int) < (zs.length : Int)) = false := decide_eq_false (by omega)
          have e2 : decide (k < zs.length) = false := decide_eq_false hkz
          obtain ⟨W3, hW3⟩ : ∃ W, w3.alloc (.cells #[.int .i64 (k : Int), .int .i64 (x2 - 1), .int .i64 (x3 - 1)] 38) = W := ⟨_, rfl⟩
          rw [hW3] at s1
          obtain ⟨p0, p1, p2, -⟩ := id s1.2.1.reads
          by_cases he : (x3 - 1) = (x2 - 1)
          · have e9 : ((x3 - 1) == (x2 - 1)) = true := by rw [beq_iff_eq]; exact he
            obtain ⟨t0, t1, t2, tf⟩ := id s1.2.1.reads
            have tf2 := tf 2
            have s9 := USt.set2 s1 hRl (7 + (k : Int))
            clear tf he
            obtain ⟨hrow, -⟩ := id s9
            obtain ⟨y0, y1, y2, -⟩ := id s9.2.1.reads
            have hsz := Nat.le_trans s9.2.2.2.1 (Nat.le_of_lt s9.2.1.lt)
            go_wp2_with (at_builtin; go_must (refine wpList_append_own _ rfl _ _ 34 rfl w.heap.size 38 i0 (.agg #[.int .i64 0, .int .i64 0, .int .i64 0]) 3 24 Try.underlying34 hi hz0 hz1 hz2 rfl (by decide) _ L.length (upsV L) rfl (World.ownsRow.alloc hrow _) ⟨_, 0, none⟩ 1 1 [.int .i64 (k : Int), .int .i64 (x2 - 1), .int .i64 (7 + (k : Int))] rfl rfl (new_three_at _ _ _ _ _ _ (by first | rfl | simp)) (upV_cells ⟨(k : Int), (x2 - 1), (7 + (k : Int))⟩) (by have := HL4.out; unfold maxLen; omega) (by have := HL4.out; omega) (by rw [World.size_alloc]; exact Nat.le_succ_of_le hsz) ?_); intro v' w8 hown hg _)
            obtain ⟨a1, a2, a3⟩ := ups_app (o := ⟨(k : Int), (x2 - 1), (7 + (k : Int))⟩) s9.1 s9.2.2.2.2.1 s9.2.2.2.2.2 hRl hown hg
            clear hown hg
            go_wp2
            go_roundw
            case rel => exact ⟨k + 1, L ++ [⟨(k : Int), (x2 - 1), (7 + (k : Int))⟩], by omega, by go_num, by show _ ≤ _; rw [List.length_append, List.length_singleton]; have := HL.out; omega, a1, a2.more (by omega), a3⟩
            case measure => simp [intOf]; omega
          · have e9 : ((x3 - 1) == (x2 - 1)) = false := by rw [beq_eq_false_iff_ne]; exact he
            clear he
            obtain ⟨hrow, -⟩ := id s1
            obtain ⟨y0, y1, y2, -⟩ := id s1.2.1.reads
            have hsz := Nat.le_trans s1.2.2.2.1 (Nat.le_of_lt s1.2.1.lt)
            go_wp2_with (at_builtin; go_must (refine wpList_append_own _ rfl _ _ 34 rfl w.heap.size 38 i0 (.agg #[.int .i64 0, .int .i64 0, .int .i64 0]) 3 24 Try.underlying34 hi hz0 hz1 hz2 rfl (by decide) _ L.length (upsV L) rfl (World.ownsRow.alloc hrow _) ⟨_, 0, none⟩ 1 1 [.int .i64 (k : Int), .int .i64 (x2 - 1), .int .i64 (x3 - 1)] rfl rfl (new_three_at _ _ _ _ _ _ (by first | rfl | simp)) (upV_cells ⟨(k : Int), (x2 - 1), (x3 - 1)⟩) (by have := HL4.out; unfold maxLen; omega) (by have := HL4.out; omega) (by rw [World.size_alloc]; exact Nat.le_succ_of_le hsz) ?_); intro v' w8 hown hg _)
            obtain ⟨a1, a2, a3⟩ := ups_app (o := ⟨(k : Int), (x2 - 1), (x3 - 1)⟩) s1.1 s1.2.2.2.2.1 s1.2.2.2.2.2 hRl hown hg
            clear hown hg
            go_wp2
            go_roundw
            case rel => exact ⟨k + 1, L ++ [⟨(k : Int), (x2 - 1), (x3 - 1)⟩], by omega, by go_num, by show _ ≤ _; rw [List.length_append, List.length_singleton]; have := HL.out; omega, a1, a2.more (by omega), a3⟩
            case measure => simp [intOf]; omega
      · have e0 : (x == 0) = false := by rw [beq_eq_false_iff_ne]; exact hx
        go_wp2_with fail
        go_roundw
        case rel => exact ⟨k + 1, L, by omega, by go_num, by have := HL.out; show _ ≤ _; omega, o1, R1.more (by omega), T2⟩
        case measure => simp [intOf]; omega
    · have hk4 : k = 4 := by omega
      subst hk4
      obtain ⟨A2, c2, rfl, -, -⟩ := ho.form
      by_cases h0 : L.length = 0
      · have e0 : ((L.length : Int) == 0) = true := by rw [beq_iff_eq]; omega
        have HZ0 := hid h0
        clear h0 hlt
        go_wp2_with fail
        refine (pick_any R _ 4 wr Rk (by omega) (by omega) (by omega)).mono ?_
        rintro e w9 ⟨j0, rfl, x0, x1, R9, T8⟩
        obtain ⟨j, rfl⟩ := Int.eq_ofNat_of_zero_le x0
        have o9 := ho.but T8 hRl
        have T9 := Tk.trans T8
        clear ho Rk Tk T8
        by_cases hjz : j < zs.length
        · have rz := row_but hz hA T9 (Nat.le_refl _)
          obtain ⟨ad, rfl, had, hc⟩ := rz.int_ hjz
          have q1 : (j : Int) < (zs.length : Int) := by omega
          obtain ⟨z, hzz⟩ : ∃ z, zs[j] = z := ⟨_, rfl⟩
          rw [hzz] at hc
          clear hzz rz
          have nA := (Below.refl w9.heap.size w9).alloc (Nat.le_refl _) (.cells #[.int .i64 (j : Int), .int .i64 z, .int .i64 9] 38)
          have hsz9 := T9.size
          go_wp2_with (at_builtin; go_must (refine wpList_append_own _ rfl _ _ 34 rfl w.heap.size 38 i0 (.agg #[.int .i64 0, .int .i64 0, .int .i64 0]) 3 24 Try.underlying34 hi hz0 hz1 hz2 rfl (by decide) _ L.length (upsV L) rfl (World.ownsRow.alloc o9 _) ⟨_, 0, none⟩ 1 1 [.int .i64 (j : Int), .int .i64 z, .int .i64 9] rfl rfl (new_three_at _ _ _ _ _ _ (by first | rfl | simp)) (upV_cells ⟨(j : Int), z, 9⟩) (by have := HL4.out; unfold maxLen; omega) (by have := HL4.out; omega) (by rw [World.size_alloc]; exact Nat.le_succ_of_le hsz9) ?_); intro v8 w8 hown hg _)
          obtain ⟨S1, S5, S6⟩ := ups_app (o := ⟨(j : Int), z, 9⟩) o9 R9 T9 hRl hown hg
          have HLn : Hid (1 ≤ (L ++ [(⟨(j : Int), z, 9⟩ : Up)]).length ∧ (L ++ [(⟨(j : Int), z, 9⟩ : Up)]).length ≤ 4) := by show _ ∧ _; rw [List.length_append, List.length_singleton]; have := HZ0.out; omega
          clear hown hg nA o9 R9 T9
          obtain ⟨L9, hL9⟩ : ∃ L9, L ++ [(⟨(j : Int), z, 9⟩ : Up)] = L9 := ⟨_, rfl⟩
          rw [hL9] at S1 HLn
          clear hL9
          go_wp2_with fail
          refine (pick_any R _ 30 _ S5 (by omega) (by omega) (by omega)).mono ?_
          rintro e w5 ⟨d, rfl, d0, d1, R5, T5⟩
          have o5 := S1.but T5 hRl
          have T6 := S6.trans T5
          clear S1 S5 S6 T5
          have key : d = 0 ∨ d = 1 ∨ d = 2 ∨ (d ≠ 0 ∧ d ≠ 1 ∧ d ≠ 2) := by omega
          rcases key with rfl | rfl | rfl | ⟨dn0, dn1, dn2⟩
          · obtain ⟨g, cc, hvv, hg1, hg2⟩ := o5.at (by have := HLn.out; omega)
            rw [hvv] at o5 ⊢
            clear hvv
            have hl1 : 1 ≤ L9.length ∧ L9.length ≤ 4 := HLn.out
            go_wp2_with fail
            refine (pick_any R _ (L9.length : Int) w5 R5 (by omega) (by omega) (by omega)).mono ?_
            rintro e w6 ⟨y, rfl, y0, y1, R6, T7⟩
            obtain ⟨m, rfl⟩ := Int.eq_ofNat_of_zero_le y0
            have hm : m < L9.length := by omega
            go_wp2_with fail
            refine (pick_any R _ 6 w6 R6 (by omega) (by omega) (by omega)).mono ?_
            rintro e w7 ⟨x, rfl, x0, x1, R7, T8⟩
            have o7 := (o5.but T7 hRl).but T8 hRl
            have T9 := (T6.trans T7).trans T8
            obtain ⟨u0, z0⟩ : ∃ u0, w7.cell? ⟨g, m * 3, none⟩ = some u0 := ⟨_, (World.ownsRow.cellAt o7 (m * 3) (by omega)).trans (List.getElem?_eq_getElem (by rw [upsV_length]; omega))⟩
            have f0 := World.ownsRow.frozenAt o7 (m * 3)
            have o8 := OwnUps.stored o7 (m := m) (d := 0) hm (by omega) ⟨x - 1, L9[m].o, L9[m].n⟩ (.int .i64 (x - 1)) rfl
            rw [Nat.add_zero] at o8
            have T10 := T9.set_new hg1 (m * 3) (.int .i64 (x - 1))
            have R8 := R7.far (g := g) (by omega) (m * 3) (.int .i64 (x - 1))
            have hls : Hid ((L9.set m ⟨x - 1, L9[m].o, L9[m].n⟩).length ≤ 4) := by show _ ≤ _; rw [List.length_set]; omega
            clear o5 R5 T6 R6 T7 T8 R7 T9 o7
            go_wp2_with fail
            go_ret
            exact ⟨_, _, rfl, o8, hls.out, R8.more (by omega), T10⟩
          · obtain ⟨g, cc, hvv, hg1, hg2⟩ := o5.at (by have := HLn.out; omega)
            rw [hvv] at o5 ⊢
            clear hvv
            have hl1 : 1 ≤ L9.length ∧ L9.length ≤ 4 := HLn.out
            go_wp2_with fail
            refine (pick_any R _ (L9.length : Int) w5 R5 (by omega) (by omega) (by omega)).mono ?_
            rintro e w6 ⟨y, rfl, y0, y1, R6, T7⟩
            obtain ⟨m, rfl⟩ := Int.eq_ofNat_of_zero_le y0
            have hm : m < L9.length := by omega
            go_wp2_with fail
            refine (l92Value_any R _ w6 R6 (by omega)).mono ?_
            rintro e w7 ⟨x, rfl, x0, x1, R7, T8⟩
            have o7 := (o5.but T7 hRl).but T8 hRl
            have T9 := (T6.trans T7).trans T8
            obtain ⟨u0, z0⟩ : ∃ u0, w7.cell? ⟨g, m * 3 + 2, none⟩ = some u0 := ⟨_, (World.ownsRow.cellAt o7 (m * 3 + 2) (by omega)).trans (List.getElem?_eq_getElem (by rw [upsV_length]; omega))⟩
            have f0 := World.ownsRow.frozenAt o7 (m * 3 + 2)
            have o8 := OwnUps.stored o7 (m := m) (d := 2) hm (by omega) ⟨L9[m].r, L9[m].o, x⟩ (.int .i64 x) rfl
            have T10 := T9.set_new hg1 (m * 3 + 2) (.int .i64 x)
            have R8 := R7.far (g := g) (by omega) (m * 3 + 2) (.int .i64 x)
            have hls : Hid ((L9.set m ⟨L9[m].r, L9[m].o, x⟩).length ≤ 4) := by show _ ≤ _; rw [List.length_set]; omega
            clear o5 R5 T6 R6 T7 T8 R7 T9 o7
            go_wp2_with fail
            go_ret
            exact ⟨_, _, rfl, o8, hls.out, R8.more (by omega), T10⟩
          · obtain ⟨g, cc, hvv, hg1, hg2⟩ := o5.at (by have := HLn.out; omega)
            rw [hvv] at o5 ⊢
            clear hvv
            have o8 := o5.cut0 rfl
            have q1 : (0 : Int) ≤ (cc : Int) := by omega
            clear o5
            go_wp2_with fail
            go_ret
            exact ⟨_, [], rfl, o8, Nat.zero_le _, R5.more (by omega), T6⟩
          · have e0 : (d == 0) = false := by rw [beq_eq_false_iff_ne]; exact dn0
            have e1 : (d == 1) = false := by rw [beq_eq_false_iff_ne]; exact dn1
            have e2 : (d == 2) = false := by rw [beq_eq_false_iff_ne]; exact dn2
            clear dn0 dn1 dn2
            go_wp2_with fail
            go_ret
            exact ⟨_, _, rfl, o5, HLn.out.2, R5.more (by omega), T6⟩
        · have e1 : decide ((j : Int) < (zs.length : Int)) = false := decide_eq_false (by omega)
          have e2 : decide (j < zs.length) = false := decide_eq_false hjz
          clear hjz
          have nA := (Below.refl w9.heap.size w9).alloc (Nat.le_refl _) (.cells #[.int .i64 (j : Int), .int .i64 (-1), .int .i64 9] 38)
          have hsz9 := T9.size
          go_wp2_with (at_builtin; go_must (refine wpList_append_own _ rfl _ _ 34 rfl w.heap.size 38 i0 (.agg #[.int .i64 0, .int .i64 0, .int .i64 0]) 3 24 Try.underlying34 hi hz0 hz1 hz2 rfl (by decide) _ L.length (upsV L) rfl (World.ownsRow.alloc o9 _) ⟨_, 0, none⟩ 1 1 [.int .i64 (j : Int), .int .i64 (-1), .int .i64 9] rfl rfl (new_three_at _ _ _ _ _ _ (by first | rfl | simp)) (upV_cells ⟨(j : Int), (-1), 9⟩) (by have := HL4.out; unfold maxLen; omega) (by have := HL4.out; omega) (by rw [World.size_alloc]; exact Nat.le_succ_of_le hsz9) ?_); intro v8 w8 hown hg _)
          obtain ⟨S1, S5, S6⟩ := ups_app (o := ⟨(j : Int), (-1), 9⟩) o9 R9 T9 hRl hown hg
          have HLn : Hid (1 ≤ (L ++ [(⟨(j : Int), (-1), 9⟩ : Up)]).length ∧ (L ++ [(⟨(j : Int), (-1), 9⟩ : Up)]).length ≤ 4) := by show _ ∧ _; rw [List.length_append, List.length_singleton]; have := HZ0.out; omega
          clear hown hg nA o9 R9 T9
          obtain ⟨L9, hL9⟩ : ∃ L9, L ++ [(⟨(j : Int), (-1), 9⟩ : Up)] = L9 := ⟨_, rfl⟩
          rw [hL9] at S1 HLn
          clear hL9
          go_wp2_with fail
          refine (pick_any R _ 30 _ S5 (by omega) (by omega) (by omega)).mono ?_
          rintro e w5 ⟨d, rfl, d0, d1, R5, T5⟩
          have o5 := S1.but T5 hRl
          have T6 := S6.trans T5
          clear S1 S5 S6 T5
          have key : d = 0 ∨ d = 1 ∨ d = 2 ∨ (d ≠ 0 ∧ d ≠ 1 ∧ d ≠ 2) := by omega
          rcases key with rfl | rfl | rfl | ⟨dn0, dn1, dn2⟩
          · obtain ⟨g, cc, hvv, hg1, hg2⟩ := o5.at (by have := HLn.out; omega)
            rw [hvv] at o5 ⊢
            clear hvv
            have hl1 : 1 ≤ L9.length ∧ L9.length ≤ 4 := HLn.out
            go_wp2_with fail
            refine (pick_any R _ (L9.length : Int) w5 R5 (by omega) (by omega) (by omega)).mono ?_
            rintro e w6 ⟨y, rfl, y0, y1, R6, T7⟩
            obtain ⟨m, rfl⟩ := Int.eq_ofNat_of_zero_le y0
            have hm : m < L9.length := by omega
            go_wp2_with fail
            refine (pick_any R _ 6 w6 R6 (by omega) (by omega) (by omega)).mono ?_
            rintro e w7 ⟨x, rfl, x0, x1, R7, T8⟩
            have o7 := (o5.but T7 hRl).but T8 hRl
            have T9 := (T6.trans T7).trans T8
            obtain ⟨u0, z0⟩ : ∃ u0, w7.cell? ⟨g, m * 3, none⟩ = some u0 := ⟨_, (World.ownsRow.cellAt o7 (m * 3) (by omega)).trans (List.getElem?_eq_getElem (by rw [upsV_length]; omega))⟩
            have f0 := World.ownsRow.frozenAt o7 (m * 3)
            have o8 := OwnUps.stored o7 (m := m) (d := 0) hm (by omega) ⟨x - 1, L9[m].o, L9[m].n⟩ (.int .i64 (x - 1)) rfl
            rw [Nat.add_zero] at o8
            have T10 := T9.set_new hg1 (m * 3) (.int .i64 (x - 1))
            have R8 := R7.far (g := g) (by omega) (m * 3) (.int .i64 (x - 1))
            have hls : Hid ((L9.set m ⟨x - 1, L9[m].o, L9[m].n⟩).length ≤ 4) := by show _ ≤ _; rw [List.length_set]; omega
            clear o5 R5 T6 R6 T7 T8 R7 T9 o7
            go_wp2_with fail
            go_ret
            exact ⟨_, _, rfl, o8, hls.out, R8.more (by omega), T10⟩
          · obtain ⟨g, cc, hvv, hg1, hg2⟩ := o5.at (by have := HLn.out; omega)
            rw [hvv] at o5 ⊢
            clear hvv
            have hl1 : 1 ≤ L9.length ∧ L9.length ≤ 4 := HLn.out
            go_wp2_with fail
            refine (pick_any R _ (L9.length : Int) w5 R5 (by omega) (by omega) (by omega)).mono ?_
            rintro e w6 ⟨y, rfl, y0, y1, R6, T7⟩
            obtain ⟨m, rfl⟩ := Int.eq_ofNat_of_zero_le y0
            have hm : m < L9.length := by omega
            go_wp2_with fail
            refine (l92Value_any R _ w6 R6 (by omega)).mono ?_
            rintro e w7 ⟨x, rfl, x0, x1, R7, T8⟩
            have o7 := (o5.but T7 hRl).but T8 hRl
            have T9 := (T6.trans T7).trans T8
            obtain ⟨u0, z0⟩ : ∃ u0, w7.cell? ⟨g, m * 3 + 2, none⟩ = some u0 := ⟨_, (World.ownsRow.cellAt o7 (m * 3 + 2) (by omega)).trans (List.getElem?_eq_getElem (by rw [upsV_length]; omega))⟩
            have f0 := World.ownsRow.frozenAt o7 (m * 3 + 2)
            have o8 := OwnUps.stored o7 (m := m) (d := 2) hm (by omega) ⟨L9[m].r, L9[m].o, x⟩ (.int .i64 x) rfl
            have T10 := T9.set_new hg1 (m * 3 + 2) (.int .i64 x)
            have R8 := R7.far (g := g) (by omega) (m * 3 + 2) (.int .i64 x)
            have hls : Hid ((L9.set m ⟨L9[m].r, L9[m].o, x⟩).length ≤ 4) := by show _ ≤ _; rw [List.length_set]; omega
            clear o5 R5 T6 R6 T7 T8 R7 T9 o7
            go_wp2_with fail
            go_ret
            exact ⟨_, _, rfl, o8, hls.out, R8.more (by omega), T10⟩
          · obtain ⟨g, cc, hvv, hg1, hg2⟩ := o5.at (by have := HLn.out; omega)
            rw [hvv] at o5 ⊢
            clear hvv
            have o8 := o5.cut0 rfl
            have q1 : (0 : Int) ≤ (cc : Int) := by omega
            clear o5
            go_wp2_with fail
            go_ret
            exact ⟨_, [], rfl, o8, Nat.zero_le _, R5.more (by omega), T6⟩
          · have e0 : (d == 0) = false := by rw [beq_eq_false_iff_ne]; exact dn0
            have e1 : (d == 1) = false := by rw [beq_eq_false_iff_ne]; exact dn1
            have e2 : (d == 2) = false := by rw [beq_eq_false_iff_ne]; exact dn2
            clear dn0 dn1 dn2
            go_wp2_with fail
            go_ret
            exact ⟨_, _, rfl, o5, HLn.out.2, R5.more (by omega), T6⟩
      · have e0 : ((L.length : Int) == 0) = false := by rw [beq_eq_false_iff_ne]; omega
        have HLn : Hid (1 ≤ L.length ∧ L.length ≤ 4) := by show _ ∧ _; have := HL.out; omega
        have S1 := ho
        have S5 := Rk
        have S6 := Tk
        clear h0 hlt ho Rk Tk
        go_wp2_with fail
        refine (pick_any R _ 30 _ S5 (by omega) (by omega) (by omega)).mono ?_
        rintro e w5 ⟨d, rfl, d0, d1, R5, T5⟩
        have o5 := S1.but T5 hRl
        have T6 := S6.trans T5
        clear S1 S5 S6 T5
        have key : d = 0 ∨ d = 1 ∨ d = 2 ∨ (d ≠ 0 ∧ d ≠ 1 ∧ d ≠ 2) := by omega
        rcases key with rfl | rfl | rfl | ⟨dn0, dn1, dn2⟩
        · obtain ⟨g, cc, hvv, hg1, hg2⟩ := o5.at (by have := HLn.out; omega)
          rw [hvv] at o5 ⊢
          clear hvv
          have hl1 : 1 ≤ L.length ∧ L.length ≤ 4 := HLn.out
          go_wp2_with fail
          refine (pick_any R _ (L.length : Int) w5 R5 (by omega) (by omega) (by omega)).mono ?_
          rintro e w6 ⟨y, rfl, y0, y1, R6, T7⟩
          obtain ⟨m, rfl⟩ := Int.eq_ofNat_of_zero_le y0
          have hm : m < L.length := by omega
          go_wp2_with fail
          refine (pick_any R _ 6 w6 R6 (by omega) (by omega) (by omega)).mono ?_
          rintro e w7 ⟨x, rfl, x0, x1, R7, T8⟩
          have o7 := (o5.but T7 hRl).but T8 hRl
          have T9 := (T6.trans T7).trans T8
          obtain ⟨u0, z0⟩ : ∃ u0, w7.cell? ⟨g, m * 3, none⟩ = some u0 := ⟨_, (World.ownsRow.cellAt o7 (m * 3) (by omega)).trans (List.getElem?_eq_getElem (by rw [upsV_length]; omega))⟩
          have f0 := World.ownsRow.frozenAt o7 (m * 3)
          have o8 := OwnUps.stored o7 (m := m) (d := 0) hm (by omega) ⟨x - 1, L[m].o, L[m].n⟩ (.int .i64 (x - 1)) rfl
          rw [Nat.add_zero] at o8
          have T10 := T9.set_new hg1 (m * 3) (.int .i64 (x - 1))
          have R8 := R7.far (g := g) (by omega) (m * 3) (.int .i64 (x - 1))
          have hls : Hid ((L.set m ⟨x - 1, L[m].o, L[m].n⟩).length ≤ 4) := by show _ ≤ _; rw [List.length_set]; omega
          clear o5 R5 T6 R6 T7 T8 R7 T9 o7
          go_wp2_with fail
          go_ret
          exact ⟨_, _, rfl, o8, hls.out, R8.more (by omega), T10⟩
        · obtain ⟨g, cc, hvv, hg1, hg2⟩ := o5.at (by have := HLn.out; omega)
          rw [hvv] at o5 ⊢
          clear hvv
          have hl1 : 1 ≤ L.length ∧ L.length ≤ 4 := HLn.out
          go_wp2_with fail
          refine (pick_any R _ (L.length : Int) w5 R5 (by omega) (by omega) (by omega)).mono ?_
          rintro e w6 ⟨y, rfl, y0, y1, R6, T7⟩
          obtain ⟨m, rfl⟩ := Int.eq_ofNat_of_zero_le y0
          have hm : m < L.length := by omega
          go_wp2_with fail
          refine (l92Value_any R _ w6 R6 (by omega)).mono ?_
          rintro e w7 ⟨x, rfl, x0, x1, R7, T8⟩
          have o7 := (o5.but T7 hRl).but T8 hRl
          have T9 := (T6.trans T7).trans T8
          obtain ⟨u0, z0⟩ : ∃ u0, w7.cell? ⟨g, m * 3 + 2, none⟩ = some u0 := ⟨_, (World.ownsRow.cellAt o7 (m * 3 + 2) (by omega)).trans (List.getElem?_eq_getElem (by rw [upsV_length]; omega))⟩
          have f0 := World.ownsRow.frozenAt o7 (m * 3 + 2)
          have o8 := OwnUps.stored o7 (m := m) (d := 2) hm (by omega) ⟨L[m].r, L[m].o, x⟩ (.int .i64 x) rfl
          have T10 := T9.set_new hg1 (m * 3 + 2) (.int .i64 x)
          have R8 := R7.far (g := g) (by omega) (m * 3 + 2) (.int .i64 x)
          have hls : Hid ((L.set m ⟨L[m].r, L[m].o, x⟩).length ≤ 4) := by show _ ≤ _; rw [List.length_set]; omega
          clear o5 R5 T6 R6 T7 T8 R7 T9 o7
          go_wp2_with fail
          go_ret
          exact ⟨_, _, rfl, o8, hls.out, R8.more (by omega), T10⟩
        · obtain ⟨g, cc, hvv, hg1, hg2⟩ := o5.at (by have := HLn.out; omega)
          rw [hvv] at o5 ⊢
          clear hvv
          have o8 := o5.cut0 rfl
          have q1 : (0 : Int) ≤ (cc : Int) := by omega
          clear o5
          go_wp2_with fail
          go_ret
          exact ⟨_, [], rfl, o8, Nat.zero_le _, R5.more (by omega), T6⟩
        · have e0 : (d == 0) = false := by rw [beq_eq_false_iff_ne]; exact dn0
          have e1 : (d == 1) = false := by rw [beq_eq_false_iff_ne]; exact dn1
          have e2 : (d == 2) = false := by rw [beq_eq_false_iff_ne]; exact dn2
          clear dn0 dn1 dn2
          go_wp2_with fail
          go_ret
          exact ⟨_, _, rfl, o5, HLn.out.2, R5.more (by omega), T6⟩
end Go.Proofs.Ytjplondblkkpmaa
