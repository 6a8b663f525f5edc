/-
  Walks: drawn operations, drawn texts.
-/
import Derived.Test.YtpcfabgjdefkiaaSizes
import Derived.Deep.RegionLaw
namespace Go.Proofs.Ytpcfabgjdefkiaa
open Go.RowKit Wo Pu

theorem new_three_at (w : World) (g : Nat) (v0 v1 v2 : Value) (t : TypeId) (hg : g = w.heap.size) : ∀ j u, [v0, v1, v2][j]? = some u → (w.alloc (.cells #[v0, v1, v2] t)).cell? ((⟨g, 0, none⟩ : Addr).add j) = some u := by
  subst hg; exact new_three _ _ _ _ _
/-- Small operations. -/
def Tiny (os : List Op2) : Prop := ∀ o ∈ os, o.t.size ≤ 9 ∧ -1 ≤ o.a ∧ o.a ≤ 9 ∧ 0 ≤ o.n ∧ o.n ≤ 9
theorem Tiny.fit {os : List Op2} (h : Tiny os) : Fit2 os := fun o ho => by have := h o ho; omega
theorem Tiny.snoc {os : List Op2} {o : Op2} (h : Tiny os) (ho : o.t.size ≤ 9 ∧ -1 ≤ o.a ∧ o.a ≤ 9 ∧ 0 ≤ o.n ∧ o.n ≤ 9) : Tiny (os ++ [o]) := by
  intro p hp
  rcases List.mem_append.1 hp with hp | hp
  · exact h p hp
  · rw [List.mem_singleton.1 hp]; exact ho
theorem Tiny.sum {os : List Op2} (h : Tiny os) : tsz os os.length ≤ 9 * os.length := by
  have key : ∀ k, k ≤ os.length → tsz os k ≤ 9 * k := by
    intro k
    induction k with
    | zero => intro _; exact Nat.le_refl _
    | succ k ih =>
      intro hk
      rw [tsz_succ (by omega)]
      have h1 := ih (by omega)
      have h2 := (h os[k] (List.getElem_mem (by omega))).1
      omega
  exact key _ (Nat.le_refl _)
theorem OwnOps.far {w : World} {B g : Nat} {v : Value} {os : List Op2} (h : OwnOps w B v os) (hg : v.ownBlock ≠ some g) (o : Nat) (u : Value) : OwnOps (w.setCell ⟨g, o, none⟩ u) B v os := by
  obtain ⟨h1, h2⟩ := h
  refine ⟨h1, ?_⟩
  rcases h2 with h2 | ⟨g', cap, cur, rfl, hB, hh, hr⟩
  · exact .inl h2
  · refine .inr ⟨g', cap, cur, rfl, hB, ?_, hr⟩
    rw [Below.heap_setCell _ _ _ _ (fun e => hg (by show some g' = some g; rw [show g' = g from e]))]
    exact hh

/-- An operation that is being drawn, in block g; those before it. -/
def OSt (R g : Nat) (q : Int) (W : World) (v : Value) (L : List Op2) (o : Op2) (wx : World) : Prop :=
  OwnOps wx W.heap.size v L ∧ Blk wx g 75 (.int .i64 o.a) (.int .i64 o.n) (.string o.t) ∧ v.ownBlock ≠ some g ∧ W.heap.size ≤ g ∧ Rd wx R q ∧ But R W wx
section
variable {R g : Nat} {q q' : Int} {W wx w' : World} {v : Value} {L : List Op2} {o : Op2}
theorem OSt.but (h : OSt R g q W v L o wx) (hR : R < W.heap.size) (hb : But R wx w') (hr : Rd w' R q') : OSt R g q' W v L o w' := by
  obtain ⟨h1, h2, h3, h4, h5, h6⟩ := h
  exact ⟨h1.but hb hR, h2.but hb (by omega), h3, h4, hr, h6.trans hb⟩
theorem OSt.set0 (h : OSt R g q W v L o wx) (hR : R < W.heap.size) (x : Int) : OSt R g q W v L ⟨x, o.n, o.t⟩ (wx.setCell ⟨g, 0, none⟩ (.int .i64 x)) := by
  obtain ⟨h1, h2, h3, h4, h5, h6⟩ := h
  exact ⟨h1.far h3 _ _, h2.set0 _, h3, h4, h5.far (by omega) _ _, h6.set_new h4 _ _⟩
theorem OSt.set1 (h : OSt R g q W v L o wx) (hR : R < W.heap.size) (x : Int) : OSt R g q W v L ⟨o.a, x, o.t⟩ (wx.setCell ⟨g, 1, none⟩ (.int .i64 x)) := by
  obtain ⟨h1, h2, h3, h4, h5, h6⟩ := h
  exact ⟨h1.far h3 _ _, h2.set1 _, h3, h4, h5.far (by omega) _ _, h6.set_new h4 _ _⟩
theorem OSt.set2 (h : OSt R g q W v L o wx) (hR : R < W.heap.size) (x : ByteArray) : OSt R g q W v L ⟨o.a, o.n, x⟩ (wx.setCell ⟨g, 2, none⟩ (.string x)) := by
  obtain ⟨h1, h2, h3, h4, h5, h6⟩ := h
  exact ⟨h1.far h3 _ _, h2.set2 _, h3, h4, h5.far (by omega) _ _, h6.set_new h4 _ _⟩
theorem OSt.new_ (h1 : OwnOps wx W.heap.size v L) (h5 : Rd wx R q) (h6 : But R W wx) (hR : R < W.heap.size) : OSt R wx.heap.size q W v L o (wx.alloc (.cells #[.int .i64 o.a, .int .i64 o.n, .string o.t] 75)) := by
  have al := (Below.refl wx.heap.size wx).alloc (Nat.le_refl _) (.cells #[.int .i64 o.a, .int .i64 o.n, .string o.t] 75)
  refine ⟨h1.below al, Blk.new_ _ _ _ _ _, fun e => ?_, h6.size, h5.below al (Nat.lt_of_lt_of_le hR h6.size), h6.trans (.of_below al)⟩
  have := (World.ownsRow.lt h1 _ e).2
  omega
theorem OSt.app {v' : Value} (h : OSt R g q W v L o wx) (hR : R < W.heap.size)
    (hown : w'.ownsRow W.heap.size 75 3 v' (L.length + 1) (opsV L ++ [.int .i64 o.a, .int .i64 o.n, .string o.t]))
    (hg : (wx.alloc (.cells #[.int .i64 o.a, .int .i64 o.n, .string o.t] 75)).grownBy w' v.ownBlock) : OwnOps w' W.heap.size v' (L ++ [o]) ∧ Rd w' R q ∧ But R W w' := by
  obtain ⟨h1, h2, h3, h4, h5, h6⟩ := h
  have al := (Below.refl wx.heap.size wx).alloc (Nat.le_refl _) (.cells #[.int .i64 o.a, .int .i64 o.n, .string o.t] 75)
  have lt1 := World.ownsRow.lt h1
  refine ⟨?_, ?_, ?_⟩
  · unfold OwnOps
    rw [List.length_append, List.length_singleton, opsV_append, opsV_one]
    exact hown
  · have b : Below W.heap.size wx w' := ((Below.refl W.heap.size wx).alloc h6.size _).grown hg (by have := h6.size; simp; omega) (fun k hk => (lt1 k hk).1)
    exact h5.below b hR
  · exact World.grownBy.andThen (h6.trans (.of_below al)) hg (fun k hk => .inl (lt1 k hk).1)
end

/-- A list of operations has been drawn. -/
def OpsDrawn (R : Nat) (q : Int) (w : World) (e : Ending) (w' : World) : Prop :=
  ∃ v os, e = .returned v ∧ OwnOps w' w.heap.size v os ∧ os.length ≤ 3 ∧ Tiny os ∧ Rd w' R (q + 200) ∧ But R w w'



set_option maxRecDepth 100000 in
set_option maxRecDepth 100000 in
set_option maxHeartbeats 8000000 in
theorem l91Ops_any (R : Nat) (q : Int) (base : ByteArray) (w : World) (hR : Rd w R q) (hq : q ≤ 600000000) (hb9 : base.size ≤ 9) :
    Calls Try.prog 93 #[.pointer (some ⟨R, 0, none⟩), .string base] w (OpsDrawn R q w) := by
  obtain ⟨i0, hi, hz0, hz1, hz2⟩ := info_of info_op
  have hRl := hR.lt
  have hez : (⟨#[]⟩ : ByteArray).size ≤ 9 := by decide
  have hbz : (⟨#[98]⟩ : ByteArray).size ≤ 9 := by decide
  go_enter Try.func93, Try.ntmps93
  go_wp2_with fail
  have al := (Below.refl w.heap.size w).alloc (Nat.le_refl _) (.cells #[] 75)
  refine (pick_any R q 4 _ (hR.below al hRl) (by omega) (by omega) (by omega)).mono ?_
  rintro e w1 ⟨N, rfl, N0, N1, R1, T1⟩
  have o1 := (OwnOps.nil_new (w := w) (Nat.le_refl _)).but T1 hRl
  have B1 := (But.of_below al).trans T1
  clear al T1
  go_wp2_with fail
  go_loopw [5, 7] (fun v i wr => ∃ (k : Nat) (L : List Op2), (k : Int) ≤ N ∧ i = .int .i64 k ∧ Hid (L.length = k) ∧ OwnOps wr w.heap.size v L ∧ Hid (Tiny L) ∧ Rd wr R (q + 1 + 40 * k) ∧ But R w wr) (fun _ i _ => N.toNat - (intOf i).toNat)
  case atStart => exact ⟨0, [], by omega, rfl, rfl, o1, fun o ho => (by cases ho), by simpa using R1, B1⟩
  case round =>
    clear o1 B1 R1
    obtain ⟨k, L, hk, rfl, HL, hv, HT, hRk, hTk⟩ := hrel
    by_cases hlt : (k : Int) < N
    · have s1 := OSt.new_ (o := ⟨0, 0, ⟨#[98]⟩⟩) hv hRk hTk hRl
      clear hv hRk hTk
      by_cases hb0 : base.size = 0
      · go_wp2_with fail
        refine (pick_any R (q + 1 + 40 * k) 24 _ s1.2.2.2.2.1 (by omega) (by omega) (by omega)).mono ?_
        rintro e w6 ⟨d, rfl, d0, d1, R6, T6⟩
        have s6 := OSt.but s1 hRl T6 R6
        clear T6 R6
        have key : d = 0 ∨ d = 1 ∨ d = 2 ∨ (d ≠ 0 ∧ d ≠ 1 ∧ d ≠ 2) := by omega
        rcases key with rfl | rfl | rfl | ⟨dn0, dn1, dn2⟩
        · obtain ⟨z0, z1, z2, zf⟩ := id s6.2.1.reads
          go_wp2_with fail
          refine (pick_any R _ 10 w6 s6.2.2.2.2.1 (by omega) (by omega) (by omega)).mono ?_
          rintro e w7 ⟨x, rfl, x0, x1, R7, T7⟩
          have s7 := (OSt.but s6 hRl T7 R7).set0 hRl (x - 1)
          obtain ⟨z0, z1, z2, zf⟩ := id (OSt.but s6 hRl T7 R7).2.1.reads
          have zf0 := zf 0
          clear zf T7 R7 s6
          have HT2 := hid (HT.out.snoc (o := ⟨x - 1, 0, ⟨#[98]⟩⟩) (by refine ⟨?_, ?_, ?_, ?_, ?_⟩ <;> first | assumption | (simp only; omega)))
          obtain ⟨hrow, -⟩ := id s7
          obtain ⟨y0, y1, y2, -⟩ := id s7.2.1.reads
          have hsz := Nat.le_trans s7.2.2.2.1 (Nat.le_of_lt s7.2.1.lt)
          go_wp2_with (at_builtin; go_must (refine wpList_append_own _ rfl _ _ 35 rfl w.heap.size 75 i0 (.agg #[.int .i64 0, .int .i64 0, .string ⟨#[]⟩]) 3 32 Try.underlying35 hi hz0 hz1 hz2 rfl (by decide) _ k (opsV L) rfl (World.ownsRow.alloc (HL.out ▸ hrow) _) ⟨_, 0, none⟩ 1 1 [.int .i64 (x - 1), .int .i64 0, .string ⟨#[98]⟩] rfl rfl (new_three_at _ _ _ _ _ _ (by first | rfl | simp)) (opV_cells ⟨(x - 1), 0, ⟨#[98]⟩⟩) (by unfold maxLen; omega) (by omega) (by rw [World.size_alloc]; exact Nat.le_succ_of_le hsz) ?_); intro v' w8 hown hg _)
          have hap := OSt.app s7 hRl (by rw [HL.out]; exact hown) hg
          obtain ⟨a1, a2, a3⟩ := hap
          clear hown hg
          go_wp2
          go_roundw
          case rel => exact ⟨k + 1, L ++ [(⟨x - 1, 0, ⟨#[98]⟩⟩ : Op2)], by omega, by go_num, by show (L ++ [(⟨x - 1, 0, ⟨#[98]⟩⟩ : Op2)]).length = k + 1; rw [List.length_append, HL.out]; rfl, a1, HT2, a2.more (by omega), a3⟩
          case measure => simp [intOf]; omega
        · obtain ⟨z0, z1, z2, zf⟩ := id s6.2.1.reads
          go_wp2_with fail
          refine (pick_any R _ 10 w6 s6.2.2.2.2.1 (by omega) (by omega) (by omega)).mono ?_
          rintro e w7 ⟨x, rfl, x0, x1, R7, T7⟩
          have s7 := (OSt.but s6 hRl T7 R7).set1 hRl x
          obtain ⟨z0, z1, z2, zf⟩ := id (OSt.but s6 hRl T7 R7).2.1.reads
          have zf1 := zf 1
          clear zf T7 R7 s6
          have HT2 := hid (HT.out.snoc (o := ⟨0, x, ⟨#[98]⟩⟩) (by refine ⟨?_, ?_, ?_, ?_, ?_⟩ <;> first | assumption | (simp only; omega)))
          obtain ⟨hrow, -⟩ := id s7
          obtain ⟨y0, y1, y2, -⟩ := id s7.2.1.reads
          have hsz := Nat.le_trans s7.2.2.2.1 (Nat.le_of_lt s7.2.1.lt)
          go_wp2_with (at_builtin; go_must (refine wpList_append_own _ rfl _ _ 35 rfl w.heap.size 75 i0 (.agg #[.int .i64 0, .int .i64 0, .string ⟨#[]⟩]) 3 32 Try.underlying35 hi hz0 hz1 hz2 rfl (by decide) _ k (opsV L) rfl (World.ownsRow.alloc (HL.out ▸ hrow) _) ⟨_, 0, none⟩ 1 1 [.int .i64 0, .int .i64 x, .string ⟨#[98]⟩] rfl rfl (new_three_at _ _ _ _ _ _ (by first | rfl | simp)) (opV_cells ⟨0, x, ⟨#[98]⟩⟩) (by unfold maxLen; omega) (by omega) (by rw [World.size_alloc]; exact Nat.le_succ_of_le hsz) ?_); intro v' w8 hown hg _)
          have hap := OSt.app s7 hRl (by rw [HL.out]; exact hown) hg
          obtain ⟨a1, a2, a3⟩ := hap
          clear hown hg
          go_wp2
          go_roundw
          case rel => exact ⟨k + 1, L ++ [(⟨0, x, ⟨#[98]⟩⟩ : Op2)], by omega, by go_num, by show (L ++ [(⟨0, x, ⟨#[98]⟩⟩ : Op2)]).length = k + 1; rw [List.length_append, HL.out]; rfl, a1, HT2, a2.more (by omega), a3⟩
          case measure => simp [intOf]; omega
        · obtain ⟨z0, z1, z2, zf⟩ := id s6.2.1.reads
          go_wp2_with fail
          refine (l91Text_any R _ w6 s6.2.2.2.2.1 (by omega)).mono ?_
          rintro e w7 ⟨x, rfl, x0, R7, T7⟩
          have s7 := (OSt.but s6 hRl T7 R7).set2 hRl x
          obtain ⟨z0, z1, z2, zf⟩ := id (OSt.but s6 hRl T7 R7).2.1.reads
          have zf2 := zf 2
          clear zf T7 R7 s6
          have HT2 := hid (HT.out.snoc (o := ⟨0, 0, x⟩) (by refine ⟨?_, ?_, ?_, ?_, ?_⟩ <;> first | assumption | (simp only; omega)))
          obtain ⟨hrow, -⟩ := id s7
          obtain ⟨y0, y1, y2, -⟩ := id s7.2.1.reads
          have hsz := Nat.le_trans s7.2.2.2.1 (Nat.le_of_lt s7.2.1.lt)
          go_wp2_with (at_builtin; go_must (refine wpList_append_own _ rfl _ _ 35 rfl w.heap.size 75 i0 (.agg #[.int .i64 0, .int .i64 0, .string ⟨#[]⟩]) 3 32 Try.underlying35 hi hz0 hz1 hz2 rfl (by decide) _ k (opsV L) rfl (World.ownsRow.alloc (HL.out ▸ hrow) _) ⟨_, 0, none⟩ 1 1 [.int .i64 0, .int .i64 0, .string x] rfl rfl (new_three_at _ _ _ _ _ _ (by first | rfl | simp)) (opV_cells ⟨0, 0, x⟩) (by unfold maxLen; omega) (by omega) (by rw [World.size_alloc]; exact Nat.le_succ_of_le hsz) ?_); intro v' w8 hown hg _)
          have hap := OSt.app s7 hRl (by rw [HL.out]; exact hown) hg
          obtain ⟨a1, a2, a3⟩ := hap
          clear hown hg
          go_wp2
          go_roundw
          case rel => exact ⟨k + 1, L ++ [(⟨0, 0, x⟩ : Op2)], by omega, by go_num, by show (L ++ [(⟨0, 0, x⟩ : Op2)]).length = k + 1; rw [List.length_append, HL.out]; rfl, a1, HT2, a2.more (by omega), a3⟩
          case measure => simp [intOf]; omega
        · have e0 : (d == 0) = false := by rw [beq_eq_false_iff_ne]; exact dn0
          have e1 : (d == 1) = false := by rw [beq_eq_false_iff_ne]; exact dn1
          have e2 : (d == 2) = false := by rw [beq_eq_false_iff_ne]; exact dn2
          clear dn0 dn1 dn2
          obtain ⟨z0, z1, z2, zf⟩ := id s6.2.1.reads
          clear zf
          have HT2 := hid (HT.out.snoc (o := ⟨0, 0, ⟨#[98]⟩⟩) (by refine ⟨?_, ?_, ?_, ?_, ?_⟩ <;> first | assumption | (simp only; omega)))
          obtain ⟨hrow, -⟩ := id s6
          obtain ⟨y0, y1, y2, -⟩ := id s6.2.1.reads
          have hsz := Nat.le_trans s6.2.2.2.1 (Nat.le_of_lt s6.2.1.lt)
          go_wp2_with (at_builtin; go_must (refine wpList_append_own _ rfl _ _ 35 rfl w.heap.size 75 i0 (.agg #[.int .i64 0, .int .i64 0, .string ⟨#[]⟩]) 3 32 Try.underlying35 hi hz0 hz1 hz2 rfl (by decide) _ k (opsV L) rfl (World.ownsRow.alloc (HL.out ▸ hrow) _) ⟨_, 0, none⟩ 1 1 [.int .i64 0, .int .i64 0, .string ⟨#[98]⟩] rfl rfl (new_three_at _ _ _ _ _ _ (by first | rfl | simp)) (opV_cells ⟨0, 0, ⟨#[98]⟩⟩) (by unfold maxLen; omega) (by omega) (by rw [World.size_alloc]; exact Nat.le_succ_of_le hsz) ?_); intro v' w8 hown hg _)
          have hap := OSt.app s6 hRl (by rw [HL.out]; exact hown) hg
          obtain ⟨a1, a2, a3⟩ := hap
          clear hown hg
          go_wp2
          go_roundw
          case rel => exact ⟨k + 1, L ++ [(⟨0, 0, ⟨#[98]⟩⟩ : Op2)], by omega, by go_num, by show (L ++ [(⟨0, 0, ⟨#[98]⟩⟩ : Op2)]).length = k + 1; rw [List.length_append, HL.out]; rfl, a1, HT2, a2.more (by omega), a3⟩
          case measure => simp [intOf]; omega
      · have hbp : 0 < (base.size : Int) := by omega
        go_wp2_with fail
        refine (pick_any R (q + 1 + 40 * k) 2 _ s1.2.2.2.2.1 (by omega) (by omega) (by omega)).mono ?_
        rintro e w2 ⟨x, rfl, x0, x1, R2, T2⟩
        have s2 := OSt.but s1 hRl T2 R2
        clear T2 R2 s1
        by_cases hx : x = 0
        · subst hx
          go_wp2_with fail
          refine (pick_any R _ base.size w2 s2.2.2.2.2.1 (by omega) (by omega) (by omega)).mono ?_
          rintro e w3 ⟨y, rfl, y0, y1, R3, T3⟩
          have s3 := OSt.but s2 hRl T3 R3
          clear T3 R3 s2
          by_cases hm : (base.size : Int) - y ≤ 3
          · go_wp2_with fail
            refine (pick_any R _ ((base.size : Int) - y) w3 s3.2.2.2.2.1 (by omega) (by omega) (by omega)).mono ?_
            rintro e w4 ⟨z, rfl, z0, z1, R4, T4⟩
            have s4 := OSt.but s3 hRl T4 R4
            have s5 := ((s4.set0 hRl y).set1 hRl (1 + z)).set2 hRl ⟨#[]⟩
            obtain ⟨q0, q1, q2, qf⟩ := id s4.2.1.reads
            have qf0 := qf 0
            have qf1 := qf 1
            have qf2 := qf 2
            clear T4 R4 s3 s4 qf
            go_wp2_with fail
            refine (pick_any R _ 24 _ s5.2.2.2.2.1 (by omega) (by omega) (by omega)).mono ?_
            rintro e w6 ⟨d, rfl, d0, d1, R6, T6⟩
            have s6 := OSt.but s5 hRl T6 R6
            clear T6 R6
            have key : d = 0 ∨ d = 1 ∨ d = 2 ∨ (d ≠ 0 ∧ d ≠ 1 ∧ d ≠ 2) := by omega
            rcases key with rfl | rfl | rfl | ⟨dn0, dn1, dn2⟩
            · obtain ⟨z0, z1, z2, zf⟩ := id s6.2.1.reads
              go_wp2_with fail
              refine (pick_any R _ 10 w6 s6.2.2.2.2.1 (by omega) (by omega) (by omega)).mono ?_
              rintro e w7 ⟨x, rfl, x0, x1, R7, T7⟩
              have s7 := (OSt.but s6 hRl T7 R7).set0 hRl (x - 1)
              obtain ⟨z0, z1, z2, zf⟩ := id (OSt.but s6 hRl T7 R7).2.1.reads
              have zf0 := zf 0
              clear zf T7 R7 s6
              have HT2 := hid (HT.out.snoc (o := ⟨x - 1, (1 + z), ⟨#[]⟩⟩) (by refine ⟨?_, ?_, ?_, ?_, ?_⟩ <;> first | assumption | (simp only; omega)))
              obtain ⟨hrow, -⟩ := id s7
              obtain ⟨y0, y1, y2, -⟩ := id s7.2.1.reads
              have hsz := Nat.le_trans s7.2.2.2.1 (Nat.le_of_lt s7.2.1.lt)
              go_wp2_with (at_builtin; go_must (refine wpList_append_own _ rfl _ _ 35 rfl w.heap.size 75 i0 (.agg #[.int .i64 0, .int .i64 0, .string ⟨#[]⟩]) 3 32 Try.underlying35 hi hz0 hz1 hz2 rfl (by decide) _ k (opsV L) rfl (World.ownsRow.alloc (HL.out ▸ hrow) _) ⟨_, 0, none⟩ 1 1 [.int .i64 (x - 1), .int .i64 (1 + z), .string ⟨#[]⟩] rfl rfl (new_three_at _ _ _ _ _ _ (by first | rfl | simp)) (opV_cells ⟨(x - 1), (1 + z), ⟨#[]⟩⟩) (by unfold maxLen; omega) (by omega) (by rw [World.size_alloc]; exact Nat.le_succ_of_le hsz) ?_); intro v' w8 hown hg _)
              have hap := OSt.app s7 hRl (by rw [HL.out]; exact hown) hg
              obtain ⟨a1, a2, a3⟩ := hap
              clear hown hg
              go_wp2
              go_roundw
              case rel => exact ⟨k + 1, L ++ [(⟨x - 1, (1 + z), ⟨#[]⟩⟩ : Op2)], by omega, by go_num, by show (L ++ [(⟨x - 1, (1 + z), ⟨#[]⟩⟩ : Op2)]).length = k + 1; rw [List.length_append, HL.out]; rfl, a1, HT2, a2.more (by omega), a3⟩
              case measure => simp [intOf]; omega
            · obtain ⟨z0, z1, z2, zf⟩ := id s6.2.1.reads
              go_wp2_with fail
              refine (pick_any R _ 10 w6 s6.2.2.2.2.1 (by omega) (by omega) (by omega)).mono ?_
              rintro e w7 ⟨x, rfl, x0, x1, R7, T7⟩
              have s7 := (OSt.but s6 hRl T7 R7).set1 hRl x
              obtain ⟨z0, z1, z2, zf⟩ := id (OSt.but s6 hRl T7 R7).2.1.reads
              have zf1 := zf 1
              clear zf T7 R7 s6
              have HT2 := hid (HT.out.snoc (o := ⟨y, x, ⟨#[]⟩⟩) (by refine ⟨?_, ?_, ?_, ?_, ?_⟩ <;> first | assumption | (simp only; omega)))
              obtain ⟨hrow, -⟩ := id s7
              obtain ⟨y0, y1, y2, -⟩ := id s7.2.1.reads
              have hsz := Nat.le_trans s7.2.2.2.1 (Nat.le_of_lt s7.2.1.lt)
              go_wp2_with (at_builtin; go_must (refine wpList_append_own _ rfl _ _ 35 rfl w.heap.size 75 i0 (.agg #[.int .i64 0, .int .i64 0, .string ⟨#[]⟩]) 3 32 Try.underlying35 hi hz0 hz1 hz2 rfl (by decide) _ k (opsV L) rfl (World.ownsRow.alloc (HL.out ▸ hrow) _) ⟨_, 0, none⟩ 1 1 [.int .i64 y, .int .i64 x, .string ⟨#[]⟩] rfl rfl (new_three_at _ _ _ _ _ _ (by first | rfl | simp)) (opV_cells ⟨y, x, ⟨#[]⟩⟩) (by unfold maxLen; omega) (by omega) (by rw [World.size_alloc]; exact Nat.le_succ_of_le hsz) ?_); intro v' w8 hown hg _)
              have hap := OSt.app s7 hRl (by rw [HL.out]; exact hown) hg
              obtain ⟨a1, a2, a3⟩ := hap
              clear hown hg
              go_wp2
              go_roundw
              case rel => exact ⟨k + 1, L ++ [(⟨y, x, ⟨#[]⟩⟩ : Op2)], by omega, by go_num, by show (L ++ [(⟨y, x, ⟨#[]⟩⟩ : Op2)]).length = k + 1; rw [List.length_append, HL.out]; rfl, a1, HT2, a2.more (by omega), a3⟩
              case measure => simp [intOf]; omega
            · obtain ⟨z0, z1, z2, zf⟩ := id s6.2.1.reads
              go_wp2_with fail
              refine (l91Text_any R _ w6 s6.2.2.2.2.1 (by omega)).mono ?_
              rintro e w7 ⟨x, rfl, x0, R7, T7⟩
              have s7 := (OSt.but s6 hRl T7 R7).set2 hRl x
              obtain ⟨z0, z1, z2, zf⟩ := id (OSt.but s6 hRl T7 R7).2.1.reads
              have zf2 := zf 2
              clear zf T7 R7 s6
              have HT2 := hid (HT.out.snoc (o := ⟨y, (1 + z), x⟩) (by refine ⟨?_, ?_, ?_, ?_, ?_⟩ <;> first | assumption | (simp only; omega)))
              obtain ⟨hrow, -⟩ := id s7
              obtain ⟨y0, y1, y2, -⟩ := id s7.2.1.reads
              have hsz := Nat.le_trans s7.2.2.2.1 (Nat.le_of_lt s7.2.1.lt)
              go_wp2_with (at_builtin; go_must (refine wpList_append_own _ rfl _ _ 35 rfl w.heap.size 75 i0 (.agg #[.int .i64 0, .int .i64 0, .string ⟨#[]⟩]) 3 32 Try.underlying35 hi hz0 hz1 hz2 rfl (by decide) _ k (opsV L) rfl (World.ownsRow.alloc (HL.out ▸ hrow) _) ⟨_, 0, none⟩ 1 1 [.int .i64 y, .int .i64 (1 + z), .string x] rfl rfl (new_three_at _ _ _ _ _ _ (by first | rfl | simp)) (opV_cells ⟨y, (1 + z), x⟩) (by unfold maxLen; omega) (by omega) (by rw [World.size_alloc]; exact Nat.le_succ_of_le hsz) ?_); intro v' w8 hown hg _)
              have hap := OSt.app s7 hRl (by rw [HL.out]; exact hown) hg
              obtain ⟨a1, a2, a3⟩ := hap
              clear hown hg
              go_wp2
              go_roundw
              case rel => exact ⟨k + 1, L ++ [(⟨y, (1 + z), x⟩ : Op2)], by omega, by go_num, by show (L ++ [(⟨y, (1 + z), x⟩ : Op2)]).length = k + 1; rw [List.length_append, HL.out]; rfl, a1, HT2, a2.more (by omega), a3⟩
              case measure => simp [intOf]; omega
            · have e0 : (d == 0) = false := by rw [beq_eq_false_iff_ne]; exact dn0
              have e1 : (d == 1) = false := by rw [beq_eq_false_iff_ne]; exact dn1
              have e2 : (d == 2) = false := by rw [beq_eq_false_iff_ne]; exact dn2
              clear dn0 dn1 dn2
              obtain ⟨z0, z1, z2, zf⟩ := id s6.2.1.reads
              clear zf
              have HT2 := hid (HT.out.snoc (o := ⟨y, (1 + z), ⟨#[]⟩⟩) (by refine ⟨?_, ?_, ?_, ?_, ?_⟩ <;> first | assumption | (simp only; omega)))
              obtain ⟨hrow, -⟩ := id s6
              obtain ⟨y0, y1, y2, -⟩ := id s6.2.1.reads
              have hsz := Nat.le_trans s6.2.2.2.1 (Nat.le_of_lt s6.2.1.lt)
              go_wp2_with (at_builtin; go_must (refine wpList_append_own _ rfl _ _ 35 rfl w.heap.size 75 i0 (.agg #[.int .i64 0, .int .i64 0, .string ⟨#[]⟩]) 3 32 Try.underlying35 hi hz0 hz1 hz2 rfl (by decide) _ k (opsV L) rfl (World.ownsRow.alloc (HL.out ▸ hrow) _) ⟨_, 0, none⟩ 1 1 [.int .i64 y, .int .i64 (1 + z), .string ⟨#[]⟩] rfl rfl (new_three_at _ _ _ _ _ _ (by first | rfl | simp)) (opV_cells ⟨y, (1 + z), ⟨#[]⟩⟩) (by unfold maxLen; omega) (by omega) (by rw [World.size_alloc]; exact Nat.le_succ_of_le hsz) ?_); intro v' w8 hown hg _)
              have hap := OSt.app s6 hRl (by rw [HL.out]; exact hown) hg
              obtain ⟨a1, a2, a3⟩ := hap
              clear hown hg
              go_wp2
              go_roundw
              case rel => exact ⟨k + 1, L ++ [(⟨y, (1 + z), ⟨#[]⟩⟩ : Op2)], by omega, by go_num, by show (L ++ [(⟨y, (1 + z), ⟨#[]⟩⟩ : Op2)]).length = k + 1; rw [List.length_append, HL.out]; rfl, a1, HT2, a2.more (by omega), a3⟩
              case measure => simp [intOf]; omega
          · go_wp2_with fail
            refine (pick_any R _ 3 w3 s3.2.2.2.2.1 (by omega) (by omega) (by omega)).mono ?_
            rintro e w4 ⟨z, rfl, z0, z1, R4, T4⟩
            have s4 := OSt.but s3 hRl T4 R4
            have s5 := ((s4.set0 hRl y).set1 hRl (1 + z)).set2 hRl ⟨#[]⟩
            obtain ⟨q0, q1, q2, qf⟩ := id s4.2.1.reads
            have qf0 := qf 0
            have qf1 := qf 1
            have qf2 := qf 2
            clear T4 R4 s3 s4 qf
            go_wp2_with fail
            refine (pick_any R _ 24 _ s5.2.2.2.2.1 (by omega) (by omega) (by omega)).mono ?_
            rintro e w6 ⟨d, rfl, d0, d1, R6, T6⟩
            have s6 := OSt.but s5 hRl T6 R6
            clear T6 R6
            have key : d = 0 ∨ d = 1 ∨ d = 2 ∨ (d ≠ 0 ∧ d ≠ 1 ∧ d ≠ 2) := by omega
            rcases key with rfl | rfl | rfl | ⟨dn0, dn1, dn2⟩
            · obtain ⟨z0, z1, z2, zf⟩ := id s6.2.1.reads
              go_wp2_with fail
              refine (pick_any R _ 10 w6 s6.2.2.2.2.1 (by omega) (by omega) (by omega)).mono ?_
              rintro e w7 ⟨x, rfl, x0, x1, R7, T7⟩
              have s7 := (OSt.but s6 hRl T7 R7).set0 hRl (x - 1)
              obtain ⟨z0, z1, z2, zf⟩ := id (OSt.but s6 hRl T7 R7).2.1.reads
              have zf0 := zf 0
              clear zf T7 R7 s6
              have HT2 := hid (HT.out.snoc (o := ⟨x - 1, (1 + z), ⟨#[]⟩⟩) (by refine ⟨?_, ?_, ?_, ?_, ?_⟩ <;> first | assumption | (simp only; omega)))
              obtain ⟨hrow, -⟩ := id s7
              obtain ⟨y0, y1, y2, -⟩ := id s7.2.1.reads
              have hsz := Nat.le_trans s7.2.2.2.1 (Nat.le_of_lt s7.2.1.lt)
              go_wp2_with (at_builtin; go_must (refine wpList_append_own _ rfl _ _ 35 rfl w.heap.size 75 i0 (.agg #[.int .i64 0, .int .i64 0, .string ⟨#[]⟩]) 3 32 Try.underlying35 hi hz0 hz1 hz2 rfl (by decide) _ k (opsV L) rfl (World.ownsRow.alloc (HL.out ▸ hrow) _) ⟨_, 0, none⟩ 1 1 [.int .i64 (x - 1), .int .i64 (1 + z), .string ⟨#[]⟩] rfl rfl (new_three_at _ _ _ _ _ _ (by first | rfl | simp)) (opV_cells ⟨(x - 1), (1 + z), ⟨#[]⟩⟩) (by unfold maxLen; omega) (by omega) (by rw [World.size_alloc]; exact Nat.le_succ_of_le hsz) ?_); intro v' w8 hown hg _)
              have hap := OSt.app s7 hRl (by rw [HL.out]; exact hown) hg
              obtain ⟨a1, a2, a3⟩ := hap
              clear hown hg
              go_wp2
              go_roundw
              case rel => exact ⟨k + 1, L ++ [(⟨x - 1, (1 + z), ⟨#[]⟩⟩ : Op2)], by omega, by go_num, by show (L ++ [(⟨x - 1, (1 + z), ⟨#[]⟩⟩ : Op2)]).length = k + 1; rw [List.length_append, HL.out]; rfl, a1, HT2, a2.more (by omega), a3⟩
              case measure => simp [intOf]; omega
            · obtain ⟨z0, z1, z2, zf⟩ := id s6.2.1.reads
              go_wp2_with fail
              refine (pick_any R _ 10 w6 s6.2.2.2.2.1 (by omega) (by omega) (by omega)).mono ?_
              rintro e w7 ⟨x, rfl, x0, x1, R7, T7⟩
              have s7 := (OSt.but s6 hRl T7 R7).set1 hRl x
              obtain ⟨z0, z1, z2, zf⟩ := id (OSt.but s6 hRl T7 R7).2.1.reads
              have zf1 := zf 1
              clear zf T7 R7 s6
              have HT2 := hid (HT.out.snoc (o := ⟨y, x, ⟨#[]⟩⟩) (by refine ⟨?_, ?_, ?_, ?_, ?_⟩ <;> first | assumption | (simp only; omega)))
              obtain ⟨hrow, -⟩ := id s7
              obtain ⟨y0, y1, y2, -⟩ := id s7.2.1.reads
              have hsz := Nat.le_trans s7.2.2.2.1 (Nat.le_of_lt s7.2.1.lt)
              go_wp2_with (at_builtin; go_must (refine wpList_append_own _ rfl _ _ 35 rfl w.heap.size 75 i0 (.agg #[.int .i64 0, .int .i64 0, .string ⟨#[]⟩]) 3 32 Try.underlying35 hi hz0 hz1 hz2 rfl (by decide) _ k (opsV L) rfl (World.ownsRow.alloc (HL.out ▸ hrow) _) ⟨_, 0, none⟩ 1 1 [.int .i64 y, .int .i64 x, .string ⟨#[]⟩] rfl rfl (new_three_at _ _ _ _ _ _ (by first | rfl | simp)) (opV_cells ⟨y, x, ⟨#[]⟩⟩) (by unfold maxLen; omega) (by omega) (by rw [World.size_alloc]; exact Nat.le_succ_of_le hsz) ?_); intro v' w8 hown hg _)
              have hap := OSt.app s7 hRl (by rw [HL.out]; exact hown) hg
              obtain ⟨a1, a2, a3⟩ := hap
              clear hown hg
              go_wp2
              go_roundw
              case rel => exact ⟨k + 1, L ++ [(⟨y, x, ⟨#[]⟩⟩ : Op2)], by omega, by go_num, by show (L ++ [(⟨y, x, ⟨#[]⟩⟩ : Op2)]).length = k + 1; rw [List.length_append, HL.out]; rfl, a1, HT2, a2.more (by omega), a3⟩
              case measure => simp [intOf]; omega
            · obtain ⟨z0, z1, z2, zf⟩ := id s6.2.1.reads
              go_wp2_with fail
              refine (l91Text_any R _ w6 s6.2.2.2.2.1 (by omega)).mono ?_
              rintro e w7 ⟨x, rfl, x0, R7, T7⟩
              have s7 := (OSt.but s6 hRl T7 R7).set2 hRl x
              obtain ⟨z0, z1, z2, zf⟩ := id (OSt.but s6 hRl T7 R7).2.1.reads
              have zf2 := zf 2
              clear zf T7 R7 s6
              have HT2 := hid (HT.out.snoc (o := ⟨y, (1 + z), x⟩) (by refine ⟨?_, ?_, ?_, ?_, ?_⟩ <;> first | assumption | (simp only; omega)))
              obtain ⟨hrow, -⟩ := id s7
              obtain ⟨y0, y1, y2, -⟩ := id s7.2.1.reads
              have hsz := Nat.le_trans s7.2.2.2.1 (Nat.le_of_lt s7.2.1.lt)
              go_wp2_with (at_builtin; go_must (refine wpList_append_own _ rfl _ _ 35 rfl w.heap.size 75 i0 (.agg #[.int .i64 0, .int .i64 0, .string ⟨#[]⟩]) 3 32 Try.underlying35 hi hz0 hz1 hz2 rfl (by decide) _ k (opsV L) rfl (World.ownsRow.alloc (HL.out ▸ hrow) _) ⟨_, 0, none⟩ 1 1 [.int .i64 y, .int .i64 (1 + z), .string x] rfl rfl (new_three_at _ _ _ _ _ _ (by first | rfl | simp)) (opV_cells ⟨y, (1 + z), x⟩) (by unfold maxLen; omega) (by omega) (by rw [World.size_alloc]; exact Nat.le_succ_of_le hsz) ?_); intro v' w8 hown hg _)
              have hap := OSt.app s7 hRl (by rw [HL.out]; exact hown) hg
              obtain ⟨a1, a2, a3⟩ := hap
              clear hown hg
              go_wp2
              go_roundw
              case rel => exact ⟨k + 1, L ++ [(⟨y, (1 + z), x⟩ : Op2)], by omega, by go_num, by show (L ++ [(⟨y, (1 + z), x⟩ : Op2)]).length = k + 1; rw [List.length_append, HL.out]; rfl, a1, HT2, a2.more (by omega), a3⟩
              case measure => simp [intOf]; omega
            · have e0 : (d == 0) = false := by rw [beq_eq_false_iff_ne]; exact dn0
              have e1 : (d == 1) = false := by rw [beq_eq_false_iff_ne]; exact dn1
              have e2 : (d == 2) = false := by rw [beq_eq_false_iff_ne]; exact dn2
              clear dn0 dn1 dn2
              obtain ⟨z0, z1, z2, zf⟩ := id s6.2.1.reads
              clear zf
              have HT2 := hid (HT.out.snoc (o := ⟨y, (1 + z), ⟨#[]⟩⟩) (by refine ⟨?_, ?_, ?_, ?_, ?_⟩ <;> first | assumption | (simp only; omega)))
              obtain ⟨hrow, -⟩ := id s6
              obtain ⟨y0, y1, y2, -⟩ := id s6.2.1.reads
              have hsz := Nat.le_trans s6.2.2.2.1 (Nat.le_of_lt s6.2.1.lt)
              go_wp2_with (at_builtin; go_must (refine wpList_append_own _ rfl _ _ 35 rfl w.heap.size 75 i0 (.agg #[.int .i64 0, .int .i64 0, .string ⟨#[]⟩]) 3 32 Try.underlying35 hi hz0 hz1 hz2 rfl (by decide) _ k (opsV L) rfl (World.ownsRow.alloc (HL.out ▸ hrow) _) ⟨_, 0, none⟩ 1 1 [.int .i64 y, .int .i64 (1 + z), .string ⟨#[]⟩] rfl rfl (new_three_at _ _ _ _ _ _ (by first | rfl | simp)) (opV_cells ⟨y, (1 + z), ⟨#[]⟩⟩) (by unfold maxLen; omega) (by omega) (by rw [World.size_alloc]; exact Nat.le_succ_of_le hsz) ?_); intro v' w8 hown hg _)
              have hap := OSt.app s6 hRl (by rw [HL.out]; exact hown) hg
              obtain ⟨a1, a2, a3⟩ := hap
              clear hown hg
              go_wp2
              go_roundw
              case rel => exact ⟨k + 1, L ++ [(⟨y, (1 + z), ⟨#[]⟩⟩ : Op2)], by omega, by go_num, by show (L ++ [(⟨y, (1 + z), ⟨#[]⟩⟩ : Op2)]).length = k + 1; rw [List.length_append, HL.out]; rfl, a1, HT2, a2.more (by omega), a3⟩
              case measure => simp [intOf]; omega
        · have e0 : (x == 0) = false := by rw [beq_eq_false_iff_ne]; exact hx
          go_wp2_with fail
          refine (pick_any R _ 24 _ s2.2.2.2.2.1 (by omega) (by omega) (by omega)).mono ?_
          rintro e w6 ⟨d, rfl, d0, d1, R6, T6⟩
          have s6 := OSt.but s2 hRl T6 R6
          clear T6 R6
          have key : d = 0 ∨ d = 1 ∨ d = 2 ∨ (d ≠ 0 ∧ d ≠ 1 ∧ d ≠ 2) := by omega
          rcases key with rfl | rfl | rfl | ⟨dn0, dn1, dn2⟩
          · obtain ⟨z0, z1, z2, zf⟩ := id s6.2.1.reads
            go_wp2_with fail
            refine (pick_any R _ 10 w6 s6.2.2.2.2.1 (by omega) (by omega) (by omega)).mono ?_
            rintro e w7 ⟨x, rfl, x0, x1, R7, T7⟩
            have s7 := (OSt.but s6 hRl T7 R7).set0 hRl (x - 1)
            obtain ⟨z0, z1, z2, zf⟩ := id (OSt.but s6 hRl T7 R7).2.1.reads
            have zf0 := zf 0
            clear zf T7 R7 s6
            have HT2 := hid (HT.out.snoc (o := ⟨x - 1, 0, ⟨#[98]⟩⟩) (by refine ⟨?_, ?_, ?_, ?_, ?_⟩ <;> first | assumption | (simp only; omega)))
            obtain ⟨hrow, -⟩ := id s7
            obtain ⟨y0, y1, y2, -⟩ := id s7.2.1.reads
            have hsz := Nat.le_trans s7.2.2.2.1 (Nat.le_of_lt s7.2.1.lt)
            go_wp2_with (at_builtin; go_must (refine wpList_append_own _ rfl _ _ 35 rfl w.heap.size 75 i0 (.agg #[.int .i64 0, .int .i64 0, .string ⟨#[]⟩]) 3 32 Try.underlying35 hi hz0 hz1 hz2 rfl (by decide) _ k (opsV L) rfl (World.ownsRow.alloc (HL.out ▸ hrow) _) ⟨_, 0, none⟩ 1 1 [.int .i64 (x - 1), .int .i64 0, .string ⟨#[98]⟩] rfl rfl (new_three_at _ _ _ _ _ _ (by first | rfl | simp)) (opV_cells ⟨(x - 1), 0, ⟨#[98]⟩⟩) (by unfold maxLen; omega) (by omega) (by rw [World.size_alloc]; exact Nat.le_succ_of_le hsz) ?_); intro v' w8 hown hg _)
            have hap := OSt.app s7 hRl (by rw [HL.out]; exact hown) hg
            obtain ⟨a1, a2, a3⟩ := hap
            clear hown hg
            go_wp2
            go_roundw
            case rel => exact ⟨k + 1, L ++ [(⟨x - 1, 0, ⟨#[98]⟩⟩ : Op2)], by omega, by go_num, by show (L ++ [(⟨x - 1, 0, ⟨#[98]⟩⟩ : Op2)]).length = k + 1; rw [List.length_append, HL.out]; rfl, a1, HT2, a2.more (by omega), a3⟩
            case measure => simp [intOf]; omega
          · obtain ⟨z0, z1, z2, zf⟩ := id s6.2.1.reads
            go_wp2_with fail
            refine (pick_any R _ 10 w6 s6.2.2.2.2.1 (by omega) (by omega) (by omega)).mono ?_
            rintro e w7 ⟨x, rfl, x0, x1, R7, T7⟩
            have s7 := (OSt.but s6 hRl T7 R7).set1 hRl x
            obtain ⟨z0, z1, z2, zf⟩ := id (OSt.but s6 hRl T7 R7).2.1.reads
            have zf1 := zf 1
            clear zf T7 R7 s6
            have HT2 := hid (HT.out.snoc (o := ⟨0, x, ⟨#[98]⟩⟩) (by refine ⟨?_, ?_, ?_, ?_, ?_⟩ <;> first | assumption | (simp only; omega)))
            obtain ⟨hrow, -⟩ := id s7
            obtain ⟨y0, y1, y2, -⟩ := id s7.2.1.reads
            have hsz := Nat.le_trans s7.2.2.2.1 (Nat.le_of_lt s7.2.1.lt)
            go_wp2_with (at_builtin; go_must (refine wpList_append_own _ rfl _ _ 35 rfl w.heap.size 75 i0 (.agg #[.int .i64 0, .int .i64 0, .string ⟨#[]⟩]) 3 32 Try.underlying35 hi hz0 hz1 hz2 rfl (by decide) _ k (opsV L) rfl (World.ownsRow.alloc (HL.out ▸ hrow) _) ⟨_, 0, none⟩ 1 1 [.int .i64 0, .int .i64 x, .string ⟨#[98]⟩] rfl rfl (new_three_at _ _ _ _ _ _ (by first | rfl | simp)) (opV_cells ⟨0, x, ⟨#[98]⟩⟩) (by unfold maxLen; omega) (by omega) (by rw [World.size_alloc]; exact Nat.le_succ_of_le hsz) ?_); intro v' w8 hown hg _)
            have hap := OSt.app s7 hRl (by rw [HL.out]; exact hown) hg
            obtain ⟨a1, a2, a3⟩ := hap
            clear hown hg
            go_wp2
            go_roundw
            case rel => exact ⟨k + 1, L ++ [(⟨0, x, ⟨#[98]⟩⟩ : Op2)], by omega, by go_num, by show (L ++ [(⟨0, x, ⟨#[98]⟩⟩ : Op2)]).length = k + 1; rw [List.length_append, HL.out]; rfl, a1, HT2, a2.more (by omega), a3⟩
            case measure => simp [intOf]; omega
          · obtain ⟨z0, z1, z2, zf⟩ := id s6.2.1.reads
            go_wp2_with fail
            refine (l91Text_any R _ w6 s6.2.2.2.2.1 (by omega)).mono ?_
            rintro e w7 ⟨x, rfl, x0, R7, T7⟩
            have s7 := (OSt.but s6 hRl T7 R7).set2 hRl x
            obtain ⟨z0, z1, z2, zf⟩ := id (OSt.but s6 hRl T7 R7).2.1.reads
            have zf2 := zf 2
            clear zf T7 R7 s6
            have HT2 := hid (HT.out.snoc (o := ⟨0, 0, x⟩) (by refine ⟨?_, ?_, ?_, ?_, ?_⟩ <;> first | assumption | (simp only; omega)))
            obtain ⟨hrow, -⟩ := id s7
            obtain ⟨y0, y1, y2, -⟩ := id s7.2.1.reads
            have hsz := Nat.le_trans s7.2.2.2.1 (Nat.le_of_lt s7.2.1.lt)
            go_wp2_with (at_builtin; go_must (refine wpList_append_own _ rfl _ _ 35 rfl w.heap.size 75 i0 (.agg #[.int .i64 0, .int .i64 0, .string ⟨#[]⟩]) 3 32 Try.underlying35 hi hz0 hz1 hz2 rfl (by decide) _ k (opsV L) rfl (World.ownsRow.alloc (HL.out ▸ hrow) _) ⟨_, 0, none⟩ 1 1 [.int .i64 0, .int .i64 0, .string x] rfl rfl (new_three_at _ _ _ _ _ _ (by first | rfl | simp)) (opV_cells ⟨0, 0, x⟩) (by unfold maxLen; omega) (by omega) (by rw [World.size_alloc]; exact Nat.le_succ_of_le hsz) ?_); intro v' w8 hown hg _)
            have hap := OSt.app s7 hRl (by rw [HL.out]; exact hown) hg
            obtain ⟨a1, a2, a3⟩ := hap
            clear hown hg
            go_wp2
            go_roundw
            case rel => exact ⟨k + 1, L ++ [(⟨0, 0, x⟩ : Op2)], by omega, by go_num, by show (L ++ [(⟨0, 0, x⟩ : Op2)]).length = k + 1; rw [List.length_append, HL.out]; rfl, a1, HT2, a2.more (by omega), a3⟩
            case measure => simp [intOf]; omega
          · have e0 : (d == 0) = false := by rw [beq_eq_false_iff_ne]; exact dn0
            have e1 : (d == 1) = false := by rw [beq_eq_false_iff_ne]; exact dn1
            have e2 : (d == 2) = false := by rw [beq_eq_false_iff_ne]; exact dn2
            clear dn0 dn1 dn2
            obtain ⟨z0, z1, z2, zf⟩ := id s6.2.1.reads
            clear zf
            have HT2 := hid (HT.out.snoc (o := ⟨0, 0, ⟨#[98]⟩⟩) (by refine ⟨?_, ?_, ?_, ?_, ?_⟩ <;> first | assumption | (simp only; omega)))
            obtain ⟨hrow, -⟩ := id s6
            obtain ⟨y0, y1, y2, -⟩ := id s6.2.1.reads
            have hsz := Nat.le_trans s6.2.2.2.1 (Nat.le_of_lt s6.2.1.lt)
            go_wp2_with (at_builtin; go_must (refine wpList_append_own _ rfl _ _ 35 rfl w.heap.size 75 i0 (.agg #[.int .i64 0, .int .i64 0, .string ⟨#[]⟩]) 3 32 Try.underlying35 hi hz0 hz1 hz2 rfl (by decide) _ k (opsV L) rfl (World.ownsRow.alloc (HL.out ▸ hrow) _) ⟨_, 0, none⟩ 1 1 [.int .i64 0, .int .i64 0, .string ⟨#[98]⟩] rfl rfl (new_three_at _ _ _ _ _ _ (by first | rfl | simp)) (opV_cells ⟨0, 0, ⟨#[98]⟩⟩) (by unfold maxLen; omega) (by omega) (by rw [World.size_alloc]; exact Nat.le_succ_of_le hsz) ?_); intro v' w8 hown hg _)
            have hap := OSt.app s6 hRl (by rw [HL.out]; exact hown) hg
            obtain ⟨a1, a2, a3⟩ := hap
            clear hown hg
            go_wp2
            go_roundw
            case rel => exact ⟨k + 1, L ++ [(⟨0, 0, ⟨#[98]⟩⟩ : Op2)], by omega, by go_num, by show (L ++ [(⟨0, 0, ⟨#[98]⟩⟩ : Op2)]).length = k + 1; rw [List.length_append, HL.out]; rfl, a1, HT2, a2.more (by omega), a3⟩
            case measure => simp [intOf]; omega
    · obtain ⟨A, c, rfl, _, _⟩ := hv.form
      go_wp2
      go_ret
      exact ⟨_, L, rfl, hv, by rw [HL.out]; omega, HT.out, hRk.more (by omega), hTk⟩
end Go.Proofs.Ytpcfabgjdefkiaa
