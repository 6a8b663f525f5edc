/-
  The coordinator with the slices $SA and $SB is stored as the answer, with the word $BB.
  The coordinator with the slices $SA and $SB is stored as the answer, with the word $BB.
  The coordinator with the slices $SA and $SB is stored as the answer, with the word $BB.
  The coordinator with the slices $SA and $SB is stored as the answer, with the word $BB.
-/
import Derived.Test.YtelmeknpmlbplaaCooC
import Derived.Test.YtelmeknpmlbplaaDrawC
/- Laws on coordinators: a coordinator is boxed. -/
/-
  Walks: a transaction times out, the part of a shard, a vote counted, by the model.
-/
namespace Go.Proofs.Ytelmeknpmlbplaa
open Go.RowKit Wo Pu Rf Co

set_option linter.unusedVariables false in
set_option linter.unusedSimpArgs false in
theorem Co.Late.bad_ {q x : Crd} {t : Int} {b : Bool} (h : Late q t x b) (hn : ¬ CV q) : x = none_ ∧ b = false := by
  cases h with
  | bad _ => exact ⟨rfl, rfl⟩
  | no h1 _ => exact absurd h1 hn
  | yes _ _ _ _ h1 => exact absurd h1 hn
set_option linter.unusedVariables false in
set_option linter.unusedSimpArgs false in
theorem Co.Late.no_ {q x : Crd} {t : Int} {b : Bool} (h : Late q t x b) (h1 : CV q) (h2 : ∀ n (h : n < q.ts.length), t = (n : Int) → q.ts[n].d ≠ 0) : x = q ∧ b = false := by
  cases h with
  | bad hn => exact absurd h1 hn
  | no _ _ => exact ⟨rfl, rfl⟩
  | yes n h3 h4 h5 _ => exact absurd h5 (h2 n h3 h4)
set_option linter.unusedVariables false in
set_option linter.unusedSimpArgs false in
theorem Co.Late.yes_ {q x : Crd} {b : Bool} {n : Nat} (h : Late q (n : Int) x b) (h1 : CV q) (hn : n < q.ts.length) (hd : q.ts[n].d = 0) : x = lateC q n hn ∧ b = true := by
  cases h with
  | bad h2 => exact absurd h1 h2
  | no _ h2 => exact absurd hd (h2 n hn rfl)
  | yes m h3 h4 h5 _ =>
    have e : m = n := by omega
    subst e
    exact ⟨rfl, rfl⟩
set_option linter.unusedVariables false in
set_option linter.unusedSimpArgs false in
theorem ty_ne {w : World} {g g2 : Nat} {T T' : TypeId} {cs cs' : Array Value} {fr fr' : Nat × Nat} (h : w.heap[g]? = some (.cells cs T fr)) (h' : w.heap[g2]? = some (.cells cs' T' fr')) (hT : T ≠ T') : g ≠ g2 := fun e => by
  subst e
  rw [h] at h'
  injection h' with h3
  injection h3 with _ h3
  exact hT h3
section
variable {col : Nat → Nat} {w : World} {B g c n k N : Nat} {b : Value} {q : Crd}
set_option linter.unusedVariables false in
set_option linter.unusedSimpArgs false in
theorem OwnCr.parts (h : OwnCr col w B (.agg #[.slice (some ⟨g, 0, none⟩) N c, b]) q) : OwnTxs col w B (.slice (some ⟨g, 0, none⟩) N c) q.ts ∧ OwnI w B b q.os ∧ ColV col 0 b := by
  obtain ⟨a0, b0, e, h1, h2, h3⟩ := h
  injection e with e
  obtain ⟨rfl, rfl⟩ : (.slice (some ⟨g, 0, none⟩) N c) = a0 ∧ b = b0 := by
    have := congrArg Array.toList e
    simpa using this
  exact ⟨h1, h2, h3⟩
set_option linter.unusedVariables false in
set_option linter.unusedSimpArgs false in
theorem OwnCr.head (h : OwnCr col w B (.agg #[.slice (some ⟨g, 0, none⟩) N c, b]) q) (hN : N = q.ts.length) (hn : n < q.ts.length) : ∃ cs fr, w.heap[g]? = some (.cells cs 33 fr) := by
  subst hN
  obtain ⟨xs, h1, -⟩ := h.parts.1
  exact row_typed h1 g rfl
set_option linter.unusedVariables false in
set_option linter.unusedSimpArgs false in
/-- The decision of transaction n is stored. -/
theorem cr_dec (h : OwnCr col w B (.agg #[.slice (some ⟨g, 0, none⟩) N c, b]) q) (hN : N = q.ts.length) (hn : n < q.ts.length) (x : Int) :
    w.cell? ⟨g, n * 3 + 2, none⟩ = some (.int .i64 q.ts[n].d) ∧ w.frozen? ⟨g, n * 3 + 2, none⟩ = false ∧ B ≤ g ∧ OwnCr col (w.setCell ⟨g, n * 3 + 2, none⟩ (.int .i64 x)) B (.agg #[.slice (some ⟨g, 0, none⟩) N c, b]) ⟨q.ts.set n ⟨q.ts[n].ps, q.ts[n].vs, x⟩, q.os⟩ := by
  subst hN
  obtain ⟨h1, h2, h3⟩ := h.parts
  have hty := h.head rfl hn
  obtain ⟨q0, q1, q2⟩ := h1.dec hn x
  obtain ⟨xs, r1, -⟩ := h1
  refine ⟨q0, q1, (World.ownsRow.lt r1 g rfl).1, _, _, rfl, q2, row_far_type h2 (by decide) (but_set w g _ _) (row_typed r1), h3⟩
set_option linter.unusedVariables false in
set_option linter.unusedSimpArgs false in
/-- A vote of transaction n is stored. -/
theorem cr_vote (h : OwnCr col w B (.agg #[.slice (some ⟨g, 0, none⟩) N c, b]) q) (hN : N = q.ts.length) (hn : n < q.ts.length) (hk : k < q.ts[n].vs.length) :
    ∃ g2 c2, w.cell? ⟨g, n * 3 + 1, none⟩ = some (.slice (some ⟨g2, 0, none⟩) q.ts[n].vs.length c2) ∧ w.cell? ⟨g2, k, none⟩ = some (.int .i64 q.ts[n].vs[k]) ∧ w.frozen? ⟨g2, k, none⟩ = false ∧ B ≤ g2 ∧ (∃ cs fr, w.heap[g2]? = some (.cells cs 3 fr)) ∧
      ∀ x : Int, OwnCr col (w.setCell ⟨g2, k, none⟩ (.int .i64 x)) B (.agg #[.slice (some ⟨g, 0, none⟩) N c, b]) ⟨q.ts.set n ⟨q.ts[n].ps, q.ts[n].vs.set k x, q.ts[n].d⟩, q.os⟩ := by
  subst hN
  obtain ⟨h1, h2, h3⟩ := h.parts
  have h1' := h1
  obtain ⟨g2, c2, q0, q1, q2, q3, q4, q5, q6, q7⟩ := h1.vote hn hk
  have hty : ∃ cs fr, w.heap[g2]? = some (.cells cs 3 fr) := by
    obtain ⟨xs, r1, r2, -⟩ := h1'
    obtain ⟨a', b', t0, t1, t2, -, t4, -⟩ := r2 n hn
    have e := (World.ownsRow.cellAt r1 (n * 3 + 1) (by have := r1.1; omega)).trans t1
    rw [q0] at e
    injection e with e
    subst e
    exact row_typed t4 g2 rfl
  refine ⟨g2, c2, q0, q1, q2, q3, hty, fun x => ⟨_, _, rfl, q7 x, ?_, h3⟩⟩
  exact row_same h2 fun j hj => Below.heap_setCell w _ _ j (fun e => by have e1 : j = g2 := e; have := h3 j hj; rw [e1, q5] at this; omega)
set_option linter.unusedVariables false in
set_option linter.unusedSimpArgs false in
/-- The votes of transaction n, read. -/
theorem cr_votes (h : OwnCr col w B (.agg #[.slice (some ⟨g, 0, none⟩) N c, b]) q) (hN : N = q.ts.length) (hn : n < q.ts.length) : ∃ A2 c2, w.cell? ⟨g, n * 3 + 1, none⟩ = some (.slice A2 q.ts[n].vs.length c2) ∧ Row w w.heap.size A2 (ints q.ts[n].vs) := by
  subst hN
  obtain ⟨xs, r1, r2, -⟩ := h.parts.1
  obtain ⟨a', b', t0, t1, t2, t3⟩ := r2 n hn
  obtain ⟨A, c1, A2, c2, rfl, rfl, -, -, -, s6⟩ := t3.form
  exact ⟨A2, c2, (World.ownsRow.cellAt r1 (n * 3 + 1) (by have := r1.1; omega)).trans t1, s6⟩
set_option linter.unusedVariables false in
set_option linter.unusedSimpArgs false in
theorem cr_head {col : Nat → Nat} {w : World} {B N m : Nat} {Ao Ab : Option Addr} {co cb : Nat} {q : Crd} (h : OwnCr col w B (.agg #[.slice Ao N co, .slice Ab m cb]) q) {n : Nat} (hn : n < q.ts.length) : ∃ g, Ao = some ⟨g, 0, none⟩ ∧ N = q.ts.length := by
  obtain ⟨a0, b0, e, h1, h2, h3⟩ := h
  injection e with e
  obtain ⟨rfl, rfl⟩ : (.slice Ao N co) = a0 ∧ (.slice Ab m cb) = b0 := by
    have := congrArg Array.toList e
    simpa using this
  obtain ⟨g, c, e, -, -⟩ := h1.at hn
  injection e with e1 e2
  exact ⟨g, e1, e2⟩
end
set_option linter.unusedVariables false in
/-- It is at place z, or -1. -/
def Ix (ps : List Part) (s z : Int) : Prop := (∃ (k : Nat) (h : k < ps.length), z = (k : Int) ∧ ps[k].s = s ∧ ∀ j (hj : j < ps.length), j < k → ps[j].s ≠ s) ∨ (z = -1 ∧ ∀ j (h : j < ps.length), ps[j].s ≠ s)
set_option linter.unusedVariables false in
set_option linter.unusedSimpArgs false in
theorem ix_ex (ps : List Part) (s : Int) : ∃ z, Ix ps s z := by
  by_cases h : ∃ k, ∃ h : k < ps.length, ps[k].s = s
  · have : ∀ m, (∀ j (hj : j < ps.length), j < m → ps[j].s ≠ s) ∨ ∃ (k : Nat) (h : k < ps.length), ps[k].s = s ∧ ∀ j (hj : j < ps.length), j < k → ps[j].s ≠ s := by
      intro m
      induction m with
      | zero => exact .inl fun j _ hj => absurd hj (Nat.not_lt_zero _)
      | succ m ih =>
        rcases ih with ih | ih
        · by_cases hm : ∃ h : m < ps.length, ps[m].s = s
          · obtain ⟨h1, h2⟩ := hm
            exact .inr ⟨m, h1, h2, ih⟩
          · refine .inl fun j hj hjm e => ?_
            by_cases e2 : j = m
            · subst e2; exact hm ⟨hj, e⟩
            · exact ih j hj (by omega) e
        · exact .inr ih
    rcases this ps.length with h1 | ⟨k, h1, h2, h3⟩
    · obtain ⟨k, hk, e⟩ := h
      exact absurd e (h1 k hk hk)
    · exact ⟨_, .inl ⟨k, h1, rfl, h2, h3⟩⟩
  · exact ⟨-1, .inr ⟨rfl, fun j hj e => h ⟨j, hj, e⟩⟩⟩
set_option linter.unusedVariables false in
def NoS (ps : List Part) (s : Int) (k : Nat) : Prop := ∀ j (h : j < ps.length), j < k → ps[j].s ≠ s
set_option linter.unusedVariables false in
set_option linter.unusedSimpArgs false in
theorem NoS.zero (ps : List Part) (s : Int) : NoS ps s 0 := fun _ _ h => absurd h (Nat.not_lt_zero _)
set_option linter.unusedVariables false in
set_option linter.unusedSimpArgs false in
theorem NoS.next {ps : List Part} {s : Int} {k : Nat} (h : NoS ps s k) (hk : k < ps.length) (hv : ¬ ps[k].s = s) : NoS ps s (k + 1) := fun j hj hl => by
  by_cases e : j = k
  · subst e; exact hv
  · exact h j hj (by omega)
set_option linter.unusedVariables false in
set_option linter.unusedSimpArgs false in
theorem NoS.at {ps : List Part} {s z : Int} {k : Nat} (h : NoS ps s k) (hk : k < ps.length) (hv : ps[k].s = s) (hz : Ix ps s z) : z = (k : Int) := by
  rcases hz with ⟨m, h1, h2, h3, h4⟩ | ⟨-, h1⟩
  · rcases Nat.lt_trichotomy m k with e | e | e
    · exact absurd h3 (h m h1 e)
    · rw [h2, e]
    · exact absurd hv (h4 k hk e)
  · exact absurd hv (h1 k hk)
set_option linter.unusedVariables false in
set_option linter.unusedSimpArgs false in
theorem NoS.all {ps : List Part} {s z : Int} (h : NoS ps s ps.length) (hz : Ix ps s z) : z = -1 := by
  rcases hz with ⟨m, h1, h2, h3, h4⟩ | ⟨h1, -⟩
  · exact absurd h3 (h m h1 h1)
  · exact h1
set_option linter.unusedVariables false in
set_option linter.unusedSimpArgs false in
set_option maxHeartbeats 4000000 in
theorem l22Shard_is (z : Int) (A : Option Addr) (c : Nat) (ps : List Part) (s : Int) (w : World) (B : Nat) (h : Parts w B A ps) (hm : ps.length ≤ 1048600) (hz : Ix ps s z) :
    Calls Try.prog 66 #[.slice A ps.length c, .int .i64 s] w (Same (.int .i64 z) w) := by
  have HZ := hid hz
  clear hz
  go_enter Try.func66, Try.ntmps66
  go_wp2_with fail
  go_loop [5] (fun i => ∃ k : Nat, k ≤ ps.length ∧ i = .int .i64 k ∧ Hid (NoS ps s k)) (fun i => ps.length - (intOf i).toNat)
  case atStart => exact ⟨0, Nat.zero_le _, rfl, .zero ps s⟩
  case round =>
    obtain ⟨k, hk, rfl, H⟩ := hrel
    by_cases hlt : k < ps.length
    · obtain ⟨p, ad, A', c', ho, rfl, ha, g0, -, -, -⟩ := h.part hlt
      have q0 : (0 : Int) ≤ (k : Int) := by omega
      have q1 : (k : Int) < (ps.length : Int) := by omega
      by_cases hv : ps[k].s = s
      · have e0 : (p.s == s) = true := by rw [beq_iff_eq, ← ho]; exact hv
        have F := hid (H.out.at hlt hv HZ.out)
        clear H hv ho
        go_wp2
        go_ret
        rw [F.out]
        exact ⟨rfl, rfl⟩
      · have e0 : (p.s == s) = false := by rw [beq_eq_false_iff_ne, ← ho]; exact hv
        have HN := hid (H.out.next hlt hv)
        clear H hv ho
        go_wp2
        go_round
        case rel => exact ⟨k + 1, by omega, by go_num, HN⟩
        case measure => simp [intOf]; omega
    · have hk' : k = ps.length := by omega
      subst hk'
      have F := hid (H.out.all HZ.out)
      clear H
      go_wp2
      go_ret
      rw [F.out]
      exact ⟨rfl, rfl⟩
set_option linter.unusedSimpArgs false in
set_option linter.unusedVariables false in
set_option maxRecDepth 100000 in
set_option maxHeartbeats 16000000 in
theorem specCoordinatorTimeout_is (x : Crd) (b : Bool) (v : Value) (q : Crd) (t : Int) (w : World) (h : Crdd w w.heap.size v q) (hf : FitC q) (hx : Late q t x b) :
    Calls Try.prog 41 #[v, .int .i64 t] w (NewCrB x b w) := by
  obtain ⟨bv, hbv⟩ := bool_ofP' (CV q)
  obtain ⟨bi, hbi⟩ := bool_of (0 ≤ t ∧ t ≤ (q.ts.length : Int) - 1)
  have HX := hid hx
  have HBV := hid hbv
  have HBI := hid hbi
  have CVal : Hid (∀ y, Below w.heap.size w y → Calls Try.prog 22 #[v] y (Ret (.bool bv) y)) := fun y hy => specCoordinatorValid_is bv v q y (h.on hy hy.size) hf hbv
  have CCop : Hid (∀ y, Below w.heap.size w y → Calls Try.prog 65 #[v] y (NewCr q y)) := fun y hy => l22Copy_any v q y (h.on hy hy.size) hf
  have CI : Hid (∀ y, Calls Try.prog 53 #[.int .i64 t, .int .i64 0, .int .i64 ((q.ts.length : Int) - 1)] y (Ret (.bool bi) y)) := fun y => (l6In_is bi _ _ _ y hbi).mono fun _ _ h => h.ret
  have hf1 := hf.ts
  have qw : IntKind.i64.wrap ((q.ts.length : Int) - 1) = (q.ts.length : Int) - 1 := IntWalk.i64_in _ (by omega)
  clear hx hbv hbi
  obtain ⟨A, c, A2, c2, rfl, hT, hc, -, hc2⟩ := h
  clear hf
  unfold crV at *
  have b1 := ((Below.refl w.heap.size w).alloc (Nat.le_refl _) (.cells #[.slice A q.ts.length c, .slice A2 q.os.length c2] 26)).alloc (by simp) (.cells #[.slice none 0 0, .slice none 0 0] 26)
  have x0 := (Blk2s.new_ w 26 (.slice A q.ts.length c) (.slice A2 q.os.length c2)).alloc (.cells #[.slice none 0 0, .slice none 0 0] 26)
  have x1 := Blk2s.new_ (w.alloc (.cells #[.slice A q.ts.length c, .slice A2 q.os.length c2] 26)) 26 (.slice none 0 0) (.slice none 0 0)
  rw [World.size_alloc] at x1
  go_enter Try.func41, Try.ntmps41
  go_upto_region 1 with fail
  obtain ⟨w1, hw1⟩ : ∃ w1, (w.alloc (.cells #[.slice A q.ts.length c, .slice A2 q.os.length c2] 26)).alloc (.cells #[.slice none 0 0, .slice none 0 0] 26) = w1 := ⟨_, rfl⟩
  rw [hw1] at b1 x0 x1 ⊢
  clear hw1
  obtain ⟨y0, y1, -⟩ := id x0.reads
  go_wp2_with fail
  refine (CVal.out _ b1).mono ?_
  rintro e w2 ⟨rfl, d⟩
  replace x0 := x0.later d
  replace x1 := x1.later d
  replace b1 := b1.trans (d.mono b1.size)
  clear y0 y1
  obtain ⟨y0, y1, -⟩ := id x0.reads
  cases bv with
  | false =>
    obtain ⟨rfl, rfl⟩ := HX.out.bad_ fun e => by have := HBV.out.2 e; cases this
    clear HX CVal CCop CI
    obtain ⟨t0, t1, tf⟩ := id x1.reads
    have tf0 := tf 0
    have tf1 := tf 1
    clear tf
    obtain ⟨p0, p1, -⟩ := ((x1.set0 (.slice none 0 0)).set1 (.slice none 0 0)).reads
    have b7 := (b1.setCell (p := ⟨w.heap.size + 1, 0, none⟩) (Nat.le_succ _) (.slice none 0 0)).setCell (p := ⟨w.heap.size + 1, 1, none⟩) (Nat.le_succ _) (.slice none 0 0)
    go_wp2
    exact bodyPost_ret (v := .tuple #[.agg #[.slice none 0 0, .slice none 0 0], .bool false]) (by simp [results, Try.results41, go_sem, p0, p1]) rfl ⟨_, _, rfl, OwnCr.none_ _ _, b7⟩
  | true =>
    have HVq := hid (HBV.out.1 rfl)
    have zc := b1.size
    go_wp2_with fail
    refine (CCop.out _ b1).mono ?_
    rintro e w2 ⟨v2, col, rfl, o2, d⟩
    replace x0 := x0.later d
    replace x1 := x1.later d
    replace b1 := b1.trans (d.mono b1.size)
    clear y0 y1
    obtain ⟨y0, y1, -⟩ := id x0.reads
    obtain ⟨Ao, co, Ab, cb, rfl, -, -, -, -, -, -, -⟩ := o2.form
    unfold crV at o2 ⊢
    have HB2 : Hid (w.heap.size + 1 < w2.heap.size) := x1.lt
    replace o2 := o2.base (B' := w.heap.size) zc
    have d := (Below.refl w2.heap.size w2).alloc (Nat.le_refl _) (.cells #[.slice Ao q.ts.length co, .slice Ab q.os.length cb] 26)
    have x6 := Blk2s.new_ w2 26 (.slice Ao q.ts.length co) (.slice Ab q.os.length cb)
    replace o2 := o2.below d
    replace x0 := x0.later d
    replace x1 := x1.later d
    replace b1 := b1.trans (d.mono b1.size)
    clear y0 y1
    obtain ⟨y0, y1, -⟩ := id x0.reads
    go_upto_region 4 with fail
    obtain ⟨w3, hw3⟩ : ∃ x, w2.alloc (.cells #[.slice Ao q.ts.length co, .slice Ab q.os.length cb] 26) = x := ⟨_, rfl⟩
    obtain ⟨g, hg⟩ : ∃ x, w2.heap.size = x := ⟨_, rfl⟩
    rw [hw3] at x0 x1 b1 y0 y1 x6 o2 ⊢
    rw [hg] at x6 HB2 ⊢
    clear hw3 hg d CVal CCop
    go_wp2_with fail
    refine (CI.out _).mono ?_
    rintro e w4 ⟨rfl, d⟩
    replace x0 := x0.later d
    replace x1 := x1.later d
    replace b1 := b1.trans (d.mono b1.size)
    clear y0 y1
    obtain ⟨y0, y1, -⟩ := id x0.reads
    replace o2 := o2.below d
    replace x6 := x6.later d
    clear d CI
    cases bi with
    | false =>
      obtain ⟨rfl, rfl⟩ := HX.out.no_ HVq.out fun n hn e => absurd (HBI.out.2 ⟨by omega, by omega⟩) (by decide)
      clear HX HVq HBV HBI HB2
      obtain ⟨u0, u1, -⟩ := id x6.reads
      have o9 := o2
      clear o2
      obtain ⟨t0, t1, tf⟩ := id x1.reads
      have tf0 := tf 0
      have tf1 := tf 1
      clear tf
      have o10 := (o9.keptT (by decide) (by decide) (by decide) (by decide) (but_set _ (w.heap.size + 1) 0 (.slice Ao x.ts.length co)) (blk_type x1)).keptT (by decide) (by decide) (by decide) (by decide) (but_set _ (w.heap.size + 1) 1 (.slice Ab x.os.length cb)) (blk_type (x1.set0 _))
      have b9 := (b1.setCell (p := ⟨w.heap.size + 1, 0, none⟩) (Nat.le_succ _) (.slice Ao x.ts.length co)).setCell (p := ⟨w.heap.size + 1, 1, none⟩) (Nat.le_succ _) (.slice Ab x.os.length cb)
      obtain ⟨p0, p1, -⟩ := ((x1.set0 (.slice Ao x.ts.length co)).set1 (.slice Ab x.os.length cb)).reads
      clear x0 x1 o9 b1
      go_wp2
      exact bodyPost_ret (v := .tuple #[.agg #[.slice Ao x.ts.length co, .slice Ab x.os.length cb], .bool false]) (by simp [results, Try.results41, go_sem, p0, p1]) rfl ⟨_, _, rfl, o10, b9⟩
    | true =>
      have hti := HBI.out.1 rfl
      obtain ⟨n, rfl⟩ := Int.eq_ofNat_of_zero_le hti.1
      have hn : n < q.ts.length := by omega
      have k0 : (0 : Int) ≤ (n : Int) := by omega
      have k1 : (n : Int) < (q.ts.length : Int) := by omega
      obtain ⟨t, ad, A', c', A9, c9, ho, rfl, had, g0, g1, g2, -⟩ := (hT.below b1 (Nat.le_refl _)).tx hn
      by_cases hd : t.d = 0
      · obtain ⟨rfl, rfl⟩ := HX.out.yes_ HVq.out hn (by rw [ho]; exact hd)
        have e0 : (t.d != 0) = false := by rw [bne_eq_false_iff_eq]; exact hd
        obtain ⟨gT, rfl, -⟩ := cr_head o2 hn
        obtain ⟨hx1, hx2, hgB, hx3⟩ := cr_dec o2 rfl hn 3
        obtain ⟨cs, fr, hty⟩ := o2.head rfl hn
        have n1 := ty_ne x1 hty (by decide)
        have n6 := ty_ne x6 hty (by decide)
        obtain ⟨u0, u1, -⟩ := id x6.reads
        clear HX HVq HBV HBI HB2 hd o2 hti
        go_upto_region 7 with fail
        have x1' := x1.far (p := ⟨gT, n * 3 + 2, none⟩) n1 (.int .i64 3)
        have x6' := x6.far (p := ⟨gT, n * 3 + 2, none⟩) n6 (.int .i64 3)
        have b1' := b1.setCell (p := ⟨gT, n * 3 + 2, none⟩) hgB (.int .i64 3)
        have ho' : q.ts[n] = t := ho
        clear x1 x6 b1 u0 u1 y0 y1 x0 g0 g1 g2 hx1 hx2
        obtain ⟨W, hW⟩ : ∃ x, w4.setCell ⟨gT, n * 3 + 2, none⟩ (.int .i64 3) = x := ⟨_, rfl⟩
        rw [hW] at x1' x6' b1' hx3 ⊢
        clear hW
        have x1 := x1'
        have b1 := b1'
        obtain ⟨u0, u1, -⟩ := id x6'.reads
        have o9 : OwnCr col W w.heap.size (.agg #[.slice (some ⟨gT, 0, none⟩) q.ts.length co, .slice Ab q.os.length cb]) (lateC q n hn) := hx3
        have x0 := trivial
        clear hx3 x1' b1' x6'
        obtain ⟨t0, t1, tf⟩ := id x1.reads
        have tf0 := tf 0
        have tf1 := tf 1
        clear tf
        have o10 := (o9.keptT (by decide) (by decide) (by decide) (by decide) (but_set _ (w.heap.size + 1) 0 (.slice (some ⟨gT, 0, none⟩) q.ts.length co)) (blk_type x1)).keptT (by decide) (by decide) (by decide) (by decide) (but_set _ (w.heap.size + 1) 1 (.slice Ab q.os.length cb)) (blk_type (x1.set0 _))
        have b9 := (b1.setCell (p := ⟨w.heap.size + 1, 0, none⟩) (Nat.le_succ _) (.slice (some ⟨gT, 0, none⟩) q.ts.length co)).setCell (p := ⟨w.heap.size + 1, 1, none⟩) (Nat.le_succ _) (.slice Ab q.os.length cb)
        obtain ⟨p0, p1, -⟩ := ((x1.set0 (.slice (some ⟨gT, 0, none⟩) q.ts.length co)).set1 (.slice Ab q.os.length cb)).reads
        clear x0 x1 o9 b1
        go_wp2
        exact bodyPost_ret (v := .tuple #[.agg #[.slice (some ⟨gT, 0, none⟩) q.ts.length co, .slice Ab q.os.length cb], .bool true]) (by simp [results, Try.results41, go_sem, p0, p1]) rfl ⟨_, _, rfl, o10, b9⟩
      · obtain ⟨rfl, rfl⟩ := HX.out.no_ HVq.out fun m hm e => by
          have e2 : n = m := by omega
          subst e2
          rw [ho]
          exact hd
        have e0 : (t.d != 0) = true := by rw [bne_iff_ne]; exact hd
        clear HX HVq HBV HBI HB2 hd hti
        obtain ⟨u0, u1, -⟩ := id x6.reads
        have o9 := o2
        clear o2
        obtain ⟨t0, t1, tf⟩ := id x1.reads
        have tf0 := tf 0
        have tf1 := tf 1
        clear tf
        have o10 := (o9.keptT (by decide) (by decide) (by decide) (by decide) (but_set _ (w.heap.size + 1) 0 (.slice Ao x.ts.length co)) (blk_type x1)).keptT (by decide) (by decide) (by decide) (by decide) (but_set _ (w.heap.size + 1) 1 (.slice Ab x.os.length cb)) (blk_type (x1.set0 _))
        have b9 := (b1.setCell (p := ⟨w.heap.size + 1, 0, none⟩) (Nat.le_succ _) (.slice Ao x.ts.length co)).setCell (p := ⟨w.heap.size + 1, 1, none⟩) (Nat.le_succ _) (.slice Ab x.os.length cb)
        obtain ⟨p0, p1, -⟩ := ((x1.set0 (.slice Ao x.ts.length co)).set1 (.slice Ab x.os.length cb)).reads
        clear x0 x1 o9 b1
        go_wp2
        exact bodyPost_ret (v := .tuple #[.agg #[.slice Ao x.ts.length co, .slice Ab x.os.length cb], .bool false]) (by simp [results, Try.results41, go_sem, p0, p1]) rfl ⟨_, _, rfl, o10, b9⟩
end Go.Proofs.Ytelmeknpmlbplaa
/- Laws on coordinators: a coordinator is boxed. -/
/-
  Walks: a vote, by the model.
-/
namespace Go.Proofs.Ytelmeknpmlbplaa
open Go.RowKit Wo Pu Rf Co

set_option linter.unusedVariables false in
set_option linter.unusedSimpArgs false in
theorem Co.Counted.bad_ {q x : Crd} {t s : Int} {y b : Bool} (h : Counted q t s y x b) (hn : ¬ CV q) : x = none_ ∧ b = false := by
  cases h with
  | bad _ => exact ⟨rfl, rfl⟩
  | no h1 _ => exact absurd h1 hn
  | yes _ _ _ h1 => exact absurd h1 hn
set_option linter.unusedVariables false in
set_option linter.unusedSimpArgs false in
theorem Co.Counted.no_ {q x : Crd} {t s : Int} {y b : Bool} (h : Counted q t s y x b) (h1 : CV q) (h2 : ∀ n k, ¬ Awaits q t s n k) : x = q ∧ b = false := by
  cases h with
  | bad hn => exact absurd h1 hn
  | no _ _ => exact ⟨rfl, rfl⟩
  | yes n k h3 _ => exact absurd h3 (h2 n k)
set_option linter.unusedVariables false in
set_option linter.unusedSimpArgs false in
theorem Co.Counted.yes_ {q x : Crd} {t s : Int} {y b : Bool} {n k : Nat} (h : Counted q t s y x b) (h1 : CV q) (a : Awaits q t s n k) : x = (if y then yesC q n k a.hi else noC q n k a.hi) ∧ b = true := by
  cases h with
  | bad h2 => exact absurd h1 h2
  | no _ h2 => exact absurd a (h2 n k)
  | yes n' k' a' _ =>
    obtain ⟨e1, e2⟩ := a'.one h1 a
    subst e1
    subst e2
    exact ⟨rfl, rfl⟩
set_option linter.unusedVariables false in
/-- The first j of the votes are for it. -/
def OneTo (vs : List Int) (j : Nat) : Prop := ∀ i (h : i < vs.length), i < j → vs[i] = 1
set_option linter.unusedVariables false in
set_option linter.unusedSimpArgs false in
theorem OneTo.zero (vs : List Int) : OneTo vs 0 := fun _ _ h => absurd h (Nat.not_lt_zero _)
set_option linter.unusedVariables false in
set_option linter.unusedSimpArgs false in
theorem OneTo.next {vs : List Int} {j : Nat} (h : OneTo vs j) (hj : j < vs.length) (hv : vs[j] = 1) : OneTo vs (j + 1) := fun i hi hl => by
  by_cases e : i = j
  · subst e; exact hv
  · exact h i hi (by omega)
set_option linter.unusedVariables false in
set_option linter.unusedSimpArgs false in
theorem OneTo.all {vs : List Int} (h : OneTo vs vs.length) : vs.all (· == 1) = true := List.all_eq_true.2 fun v hv => by
  obtain ⟨i, hi, rfl⟩ := List.getElem_of_mem hv
  rw [beq_iff_eq]
  exact h i hi hi
set_option linter.unusedVariables false in
set_option linter.unusedSimpArgs false in
theorem not_all {vs : List Int} {j : Nat} (hj : j < vs.length) (hv : ¬ vs[j] = 1) : vs.all (· == 1) = false := by
  rw [← Bool.not_eq_true]
  exact fun e => hv (by simpa using List.all_eq_true.1 e _ (List.getElem_mem hj))
/- The coordinator in its box is stored as the answer. -/
set_option linter.unusedVariables false in
set_option linter.unusedSimpArgs false in
/-- One transaction more in the order. -/
theorem cr_order_ {col : Nat → Nat} {W2 : World} {B h1 g gT N co m cb : Nat} {n : Int} {Ab : Option Addr} {q : Crd} (h : OwnCr col W2 B (.agg #[.slice (some ⟨gT, 0, none⟩) N co, .slice Ab m cb]) q) (x1 : Blk2s W2 h1 26 (.slice none 0 0) (.slice none 0 0)) (x6 : Blk2s W2 g 26 (.slice (some ⟨gT, 0, none⟩) N co) (.slice Ab m cb)) (hg1 : h1 ≠ g) (hg2 : B ≤ g) (z : B ≤ W2.heap.size) :
    ∀ v7 w7, w7.ownsRow B 3 1 v7 (q.os.length + 1) (ints q.os ++ [.int .i64 n]) → (W2.alloc (.cells #[.int .i64 n] 3)).grownBy w7 (Value.slice Ab m cb).ownBlock → (v7.ownBlock = (Value.slice Ab m cb).ownBlock ∨ v7.ownBlock = some (W2.alloc (.cells #[.int .i64 n] 3)).heap.size) →
      ∃ A7 c7 col7, v7 = .slice A7 (q.os.length + 1) c7 ∧ (∃ v, w7.cell? ⟨g, 1, none⟩ = some v) ∧ w7.frozen? ⟨g, 1, none⟩ = false ∧
        Blk2s (w7.setCell ⟨g, 1, none⟩ (.slice A7 (q.os.length + 1) c7)) h1 26 (.slice none 0 0) (.slice none 0 0) ∧ Blk2s (w7.setCell ⟨g, 1, none⟩ (.slice A7 (q.os.length + 1) c7)) g 26 (.slice (some ⟨gT, 0, none⟩) N co) (.slice A7 (q.os.length + 1) c7) ∧
        Below B W2 (w7.setCell ⟨g, 1, none⟩ (.slice A7 (q.os.length + 1) c7)) ∧ OwnCr col7 (w7.setCell ⟨g, 1, none⟩ (.slice A7 (q.os.length + 1) c7)) B (.agg #[.slice (some ⟨gT, 0, none⟩) N co, .slice A7 (q.os.length + 1) c7]) ⟨q.ts, q.os ++ [n]⟩ := by
  intro v7 w7 hown hg hat
  obtain ⟨e1, h2, h3⟩ := h.parts
  have al := (Below.refl W2.heap.size W2).alloc (Nat.le_refl _) (.cells #[.int .i64 n] 3)
  have h2' := World.ownsRow.alloc h2 (.cells #[.int .i64 n] 3)
  have k1 := (x1.later al).grown hg (blk_ne_row (x1.later al) h2' (by decide))
  have k6 := (x6.later al).grown hg (blk_ne_row (x6.later al) h2' (by decide))
  have b7 := ((Below.refl B W2).trans (al.mono z)).grown hg (Nat.le_trans z al.size) (fun j hj => (World.ownsRow.lt h2' j hj).1)
  have o7 : OwnI w7 B v7 (q.os ++ [n]) := OwnI.app hown
  obtain ⟨A7, c7, e, -, -⟩ := o7.form
  rw [List.length_append, List.length_singleton] at e
  subst e
  have hor : ∀ k, k < W2.heap.size → col k ≠ 0 → w7.heap[k]? = W2.heap[k]? := fun k hk hc => (hg.block k (Nat.lt_of_lt_of_le hk al.size) (fun e => hc (h3 k e.symm))).trans (al.block k hk)
  have t7 : OwnTxs (tint W2 col 0) w7 B (.slice (some ⟨gT, 0, none⟩) N co) q.ts := by
    obtain ⟨xs, r1, r2, r3⟩ := e1
    refine ⟨xs, row_same r1 fun j hj => hor j (World.ownsRow.lt r1 j hj).2 (by rw [r3 j hj]; decide), fun j hj => ?_, tint_old r1 r3⟩
    obtain ⟨a, b, s0, s1, s2, s3⟩ := r2 j hj
    exact ⟨a, b, s0, s1, s2, s3.map fun e sz n u ys he hr hc => ⟨row_same hr fun i hi => hor i (World.ownsRow.lt hr i hi).2 (by rw [hc i hi]; omega), tint_old hr hc⟩⟩
  have c0 : ColV (tint W2 col 0) 0 (.slice A7 (q.os.length + 1) c7) := fun k hk => by
    rw [hk] at hat
    rcases hat with e | e
    · exact tint_old h2 h3 k e.symm
    · injection e with e
      unfold tint
      rw [if_neg (by rw [e]; simp)]
  refine ⟨A7, c7, tint W2 col 0, rfl, ⟨_, k6.reads.2.1⟩, k6.reads.2.2 1, k1.far (by show h1 ≠ g; exact hg1) _, k6.set1 _, b7.setCell (by show B ≤ g; exact hg2) _, _, _, rfl, t7.keptT (by decide) (by decide) (by decide) (by decide) (but_set w7 g 1 _) (blk_type k6), row_far_type o7 (by decide) (but_set w7 g 1 _) (blk_type k6), c0⟩
set_option linter.unusedVariables false in
set_option linter.unusedSimpArgs false in
theorem cr_order {col : Nat → Nat} {w W2 : World} {g gT N co m cb : Nat} {n : Int} {Ab : Option Addr} {q : Crd} (h : OwnCr col W2 w.heap.size (.agg #[.slice (some ⟨gT, 0, none⟩) N co, .slice Ab m cb]) q) (x1 : Blk2s W2 (w.heap.size + 1) 26 (.slice none 0 0) (.slice none 0 0)) (x6 : Blk2s W2 g 26 (.slice (some ⟨gT, 0, none⟩) N co) (.slice Ab m cb)) (hg2 : w.heap.size + 1 < g) (b1 : Below w.heap.size w W2) :
    ∀ v7 w7, w7.ownsRow w.heap.size 3 1 v7 (q.os.length + 1) (ints q.os ++ [.int .i64 n]) → (W2.alloc (.cells #[.int .i64 n] 3)).grownBy w7 (Value.slice Ab m cb).ownBlock → (v7.ownBlock = (Value.slice Ab m cb).ownBlock ∨ v7.ownBlock = some (W2.alloc (.cells #[.int .i64 n] 3)).heap.size) →
      ∃ A7 c7 col7, v7 = .slice A7 (q.os.length + 1) c7 ∧ (∃ v, w7.cell? ⟨g, 1, none⟩ = some v) ∧ w7.frozen? ⟨g, 1, none⟩ = false ∧
        Blk2s (w7.setCell ⟨g, 1, none⟩ (.slice A7 (q.os.length + 1) c7)) (w.heap.size + 1) 26 (.slice none 0 0) (.slice none 0 0) ∧ Blk2s (w7.setCell ⟨g, 1, none⟩ (.slice A7 (q.os.length + 1) c7)) g 26 (.slice (some ⟨gT, 0, none⟩) N co) (.slice A7 (q.os.length + 1) c7) ∧
        Below w.heap.size w (w7.setCell ⟨g, 1, none⟩ (.slice A7 (q.os.length + 1) c7)) ∧ OwnCr col7 (w7.setCell ⟨g, 1, none⟩ (.slice A7 (q.os.length + 1) c7)) w.heap.size (.agg #[.slice (some ⟨gT, 0, none⟩) N co, .slice A7 (q.os.length + 1) c7]) ⟨q.ts, q.os ++ [n]⟩ := by
  intro v7 w7 hown hg hat
  obtain ⟨A7, c7, col7, e, q1, q2, q3, q4, q5, q6⟩ := cr_order_ h x1 x6 (by omega) (by omega) b1.size v7 w7 hown hg hat
  exact ⟨A7, c7, col7, e, q1, q2, q3, q4, b1.trans q5, q6⟩
/- A vote X is stored: W is the world behind it. -/
set_option linter.unusedSimpArgs false in
set_option linter.unusedVariables false in
set_option maxRecDepth 100000 in
set_option maxHeartbeats 16000000 in
theorem l22Vote_any (x : Crd) (v : Value) (q : Crd) (n k : Nat) (y : Bool) (w : World) (h : Crdd w w.heap.size v q) (hf : FitC q) (hn : n < q.ts.length) (hk : k < q.ts[n].vs.length) (hd : q.ts[n].d = 0) (hx : x = if y then yesC q n k hn else noC q n k hn) :
    Calls Try.prog 67 #[v, .int .i64 n, .int .i64 k, .bool y] w (NewCr x w) := by
  have HX := hid hx
  clear hx
  obtain ⟨i1, hj, hy0, hy1, hy2⟩ := info_of info_int
  have CCop : Hid (∀ y, Below w.heap.size w y → Calls Try.prog 65 #[v] y (NewCr q y)) := fun y hy => l22Copy_any v q y (h.on hy hy.size) hf
  have hf1 := hf.ts
  have hf2 := hf.os
  have hfv := (hf.ps _ (List.getElem_mem hn)).2
  obtain ⟨A, c, A2, c2, rfl, -, hc, -, hc2⟩ := h
  clear hf
  unfold crV at *
  have b1 := ((Below.refl w.heap.size w).alloc (Nat.le_refl _) (.cells #[.slice A q.ts.length c, .slice A2 q.os.length c2] 26)).alloc (by simp) (.cells #[.slice none 0 0, .slice none 0 0] 26)
  have x0 := (Blk2s.new_ w 26 (.slice A q.ts.length c) (.slice A2 q.os.length c2)).alloc (.cells #[.slice none 0 0, .slice none 0 0] 26)
  have x1 := Blk2s.new_ (w.alloc (.cells #[.slice A q.ts.length c, .slice A2 q.os.length c2] 26)) 26 (.slice none 0 0) (.slice none 0 0)
  rw [World.size_alloc] at x1
  go_enter Try.func67, Try.ntmps67
  go_upto_region 1 with fail
  obtain ⟨w1, hw1⟩ : ∃ w1, (w.alloc (.cells #[.slice A q.ts.length c, .slice A2 q.os.length c2] 26)).alloc (.cells #[.slice none 0 0, .slice none 0 0] 26) = w1 := ⟨_, rfl⟩
  rw [hw1] at b1 x0 x1 ⊢
  clear hw1
  obtain ⟨y0, y1, -⟩ := id x0.reads
  have zc := b1.size
  go_wp2_with fail
  refine (CCop.out _ b1).mono ?_
  rintro e w2 ⟨v2, col, rfl, o2, d⟩
  replace x0 := x0.later d
  replace x1 := x1.later d
  replace b1 := b1.trans (d.mono b1.size)
  clear y0 y1
  obtain ⟨y0, y1, -⟩ := id x0.reads
  obtain ⟨Ao, co, Ab, cb, rfl, -, -, -, -, -, -, -⟩ := o2.form
  unfold crV at o2 ⊢
  have HB2 : Hid (w.heap.size + 1 < w2.heap.size) := x1.lt
  replace o2 := o2.base (B' := w.heap.size) zc
  have d := (Below.refl w2.heap.size w2).alloc (Nat.le_refl _) (.cells #[.slice Ao q.ts.length co, .slice Ab q.os.length cb] 26)
  have x6 := Blk2s.new_ w2 26 (.slice Ao q.ts.length co) (.slice Ab q.os.length cb)
  replace o2 := o2.below d
  replace x0 := x0.later d
  replace x1 := x1.later d
  replace b1 := b1.trans (d.mono b1.size)
  clear y0 y1
  obtain ⟨y0, y1, -⟩ := id x0.reads
  go_upto_region 2 with fail
  obtain ⟨w3, hw3⟩ : ∃ x, w2.alloc (.cells #[.slice Ao q.ts.length co, .slice Ab q.os.length cb] 26) = x := ⟨_, rfl⟩
  obtain ⟨g, hg⟩ : ∃ x, w2.heap.size = x := ⟨_, rfl⟩
  rw [hw3] at x0 x1 b1 y0 y1 x6 o2 ⊢
  rw [hg] at x6 HB2 ⊢
  clear hw3 hg d CCop y0 y1
  cases y with
  | false =>
    obtain rfl : x = noC q n k hn := by rw [HX.out]; rfl
    obtain ⟨gT, rfl, hNN⟩ := cr_head o2 hn
    clear hNN
    obtain ⟨g2, c9, q0, q1, q2, q3, ⟨cs2, fr2, hty2⟩, HV⟩ := cr_vote o2 rfl hn hk
    have o3 := HV (-1)
    have n1 := ty_ne x1 hty2 (by decide)
    have n6 := ty_ne x6 hty2 (by decide)
    obtain ⟨u0, u1, -⟩ := id x6.reads
    have k0 : (0 : Int) ≤ (n : Int) := by omega
    have k1 : (n : Int) < (q.ts.length : Int) := by omega
    have k2 : (0 : Int) ≤ (k : Int) := by omega
    have k3 : (k : Int) < (q.ts[n].vs.length : Int) := by omega
    have x1' := x1.far (p := ⟨g2, k, none⟩) n1 (.int .i64 (-1))
    have x6' := x6.far (p := ⟨g2, k, none⟩) n6 (.int .i64 (-1))
    have b1' := b1.setCell (p := ⟨g2, k, none⟩) q3 (.int .i64 (-1))
    clear HV hty2 n1 n6
    go_upto_region 4 with fail
    clear x1 x6 b1 u0 u1 q0 q1 q2 q3 o2
    obtain ⟨W, hW⟩ : ∃ x, w3.setCell ⟨g2, k, none⟩ (.int .i64 (-1)) = x := ⟨_, rfl⟩
    rw [hW] at x1' x6' b1' o3 ⊢
    clear hW
    obtain ⟨u0, u1, -⟩ := id x6'.reads
    obtain ⟨q4, q5, q6, o4⟩ := cr_dec o3 (by simp) (n := n) (by simpa using hn) 3
    obtain ⟨cs, fr, hty⟩ := o3.head (by simp) (n := n) (by simpa using hn)
    have n1 := ty_ne x1' hty (by decide)
    have n6 := ty_ne x6' hty (by decide)
    have x1 := x1'.far (p := ⟨gT, n * 3 + 2, none⟩) n1 (.int .i64 3)
    have x6 := x6'.far (p := ⟨gT, n * 3 + 2, none⟩) n6 (.int .i64 3)
    have b1 := b1'.setCell (p := ⟨gT, n * 3 + 2, none⟩) q6 (.int .i64 3)
    have e9 : (⟨(q.ts.set n ⟨q.ts[n].ps, q.ts[n].vs.set k (-1), q.ts[n].d⟩).set n ⟨((q.ts.set n ⟨q.ts[n].ps, q.ts[n].vs.set k (-1), q.ts[n].d⟩)[n]'(by simpa using hn)).ps, ((q.ts.set n ⟨q.ts[n].ps, q.ts[n].vs.set k (-1), q.ts[n].d⟩)[n]'(by simpa using hn)).vs, 3⟩, q.os⟩ : Crd) = noC q n k hn := by
      unfold noC noTx
      simp
    have o9 := o4
    simp only at o9
    rw [e9] at o9
    clear o4 e9 o3 x1' x6' b1' hty n1 n6
    simp only at q4 q5
    go_upto_region 5 with fail
    clear u0 u1 q4 q5
    obtain ⟨W2, hW⟩ : ∃ x, W.setCell ⟨gT, n * 3 + 2, none⟩ (.int .i64 3) = x := ⟨_, rfl⟩
    rw [hW] at x1 x6 b1 o9 ⊢
    clear hW
    obtain ⟨u0, u1, -⟩ := id x6.reads
    obtain ⟨t0, t1, tf⟩ := id x1.reads
    have tf0 := tf 0
    have tf1 := tf 1
    clear tf
    have o10 := (o9.keptT (by decide) (by decide) (by decide) (by decide) (but_set _ (w.heap.size + 1) 0 (.slice (some ⟨gT, 0, none⟩) q.ts.length co)) (blk_type x1)).keptT (by decide) (by decide) (by decide) (by decide) (but_set _ (w.heap.size + 1) 1 (.slice Ab q.os.length cb)) (blk_type (x1.set0 _))
    have b9 := (b1.setCell (p := ⟨w.heap.size + 1, 0, none⟩) (Nat.le_succ _) (.slice (some ⟨gT, 0, none⟩) q.ts.length co)).setCell (p := ⟨w.heap.size + 1, 1, none⟩) (Nat.le_succ _) (.slice Ab q.os.length cb)
    obtain ⟨p0, p1, -⟩ := ((x1.set0 (.slice (some ⟨gT, 0, none⟩) q.ts.length co)).set1 (.slice Ab q.os.length cb)).reads
    clear x0 x1 o9 b1
    go_wp2
    exact bodyPost_ret (v := .agg #[.slice (some ⟨gT, 0, none⟩) q.ts.length co, .slice Ab q.os.length cb]) (by simp [results, Try.results67, go_sem, p0, p1]) rfl ⟨_, _, rfl, o10, b9⟩
  | true =>
    replace HX : Hid (x = yesC q n k hn) := HX.out.trans (if_pos rfl)
    obtain ⟨gT, rfl, hNN⟩ := cr_head o2 hn
    clear hNN
    obtain ⟨g2, c9, q0, q1, q2, q3, ⟨cs2, fr2, hty2⟩, HV⟩ := cr_vote o2 rfl hn hk
    have o3 := HV (1)
    have n1 := ty_ne x1 hty2 (by decide)
    have n6 := ty_ne x6 hty2 (by decide)
    obtain ⟨u0, u1, -⟩ := id x6.reads
    have k0 : (0 : Int) ≤ (n : Int) := by omega
    have k1 : (n : Int) < (q.ts.length : Int) := by omega
    have k2 : (0 : Int) ≤ (k : Int) := by omega
    have k3 : (k : Int) < (q.ts[n].vs.length : Int) := by omega
    have x1' := x1.far (p := ⟨g2, k, none⟩) n1 (.int .i64 (1))
    have x6' := x6.far (p := ⟨g2, k, none⟩) n6 (.int .i64 (1))
    have b1' := b1.setCell (p := ⟨g2, k, none⟩) q3 (.int .i64 (1))
    clear HV hty2 n1 n6
    go_upto_region 7 with fail
    clear x1 x6 b1 u0 u1 q0 q1 q2 q3 o2
    obtain ⟨W, hW⟩ : ∃ x, w3.setCell ⟨g2, k, none⟩ (.int .i64 (1)) = x := ⟨_, rfl⟩
    rw [hW] at x1' x6' b1' o3 ⊢
    clear hW
    obtain ⟨u0, u1, -⟩ := id x6'.reads
    obtain ⟨AV, cV, q0, q1⟩ := cr_votes o3 (by simp) (n := n) (by simpa using hn)
    have HX1 := hid x1'
    have HX6 := hid x6'
    have HB1 := hid b1'
    have HO3 := hid o3
    simp only [List.getElem_set_self, List.length_set] at q0 q1
    obtain ⟨vs, hvs⟩ : ∃ vs, q.ts[n].vs.set k 1 = vs := ⟨_, rfl⟩
    have hvl : vs.length = q.ts[n].vs.length := by rw [← hvs, List.length_set]
    rw [hvs] at q1
    rw [← hvl] at q0 hfv
    have HVS := hid hvs
    have HD := hid hd
    clear x1' x6' b1' o3 hvs hvl k2 k3 hk hd
    go_wp2_with fail
    go_loop [10] (fun i => ∃ j : Nat, j ≤ vs.length ∧ i = .int .i64 j ∧ Hid (OneTo vs j)) (fun i => vs.length - (intOf i).toNat)
    case atStart => exact ⟨0, Nat.zero_le _, rfl, .zero vs⟩
    case round =>
      obtain ⟨j, hj9, rfl, H⟩ := hrel
      by_cases hlt : j < vs.length
      · obtain ⟨ad, rfl, hbl, hc9⟩ := q1.int_ hlt
        have j0 : (0 : Int) ≤ (j : Int) := by omega
        have j1 : (j : Int) < (vs.length : Int) := by omega
        by_cases hv : vs[j] = 1
        · have e0 : (vs[j] != 1) = false := by rw [bne_eq_false_iff_eq]; exact hv
          have HN := hid (H.out.next hlt hv)
          clear H hv
          go_wp2
          go_round
          case rel => exact ⟨j + 1, by omega, by go_num, HN⟩
          case measure => simp [intOf]; omega
        · have e0 : (vs[j] != 1) = true := by rw [bne_iff_ne]; exact hv
          have hna := not_all hlt hv
          have hxx : x = ⟨q.ts.set n ⟨q.ts[n].ps, q.ts[n].vs.set k 1, q.ts[n].d⟩, q.os⟩ := by
            rw [HX.out]
            unfold yesC yesTx
            rw [HVS.out, if_neg (by rw [hna]; decide), if_neg (by rw [hna]; decide), HD.out]
          have o9 := HO3.out
          rw [← hxx] at o9
          have x1 := HX1.out
          have b1 := HB1.out
          clear H hv hna hxx HX1 HX6 HB1 HO3
          obtain ⟨t0, t1, tf⟩ := id x1.reads
          have tf0 := tf 0
          have tf1 := tf 1
          clear tf
          have o10 := (o9.keptT (by decide) (by decide) (by decide) (by decide) (but_set _ (w.heap.size + 1) 0 (.slice (some ⟨gT, 0, none⟩) q.ts.length co)) (blk_type x1)).keptT (by decide) (by decide) (by decide) (by decide) (but_set _ (w.heap.size + 1) 1 (.slice Ab q.os.length cb)) (blk_type (x1.set0 _))
          have b9 := (b1.setCell (p := ⟨w.heap.size + 1, 0, none⟩) (Nat.le_succ _) (.slice (some ⟨gT, 0, none⟩) q.ts.length co)).setCell (p := ⟨w.heap.size + 1, 1, none⟩) (Nat.le_succ _) (.slice Ab q.os.length cb)
          obtain ⟨p0, p1, -⟩ := ((x1.set0 (.slice (some ⟨gT, 0, none⟩) q.ts.length co)).set1 (.slice Ab q.os.length cb)).reads
          clear x0 x1 o9 b1
          go_wp2
          exact bodyPost_ret (v := .agg #[.slice (some ⟨gT, 0, none⟩) q.ts.length co, .slice Ab q.os.length cb]) (by simp [results, Try.results67, go_sem, p0, p1]) rfl ⟨_, _, rfl, o10, b9⟩
      · have hk' : j = vs.length := by omega
        subst hk'
        have hall := H.out.all
        have hxx : x = ⟨(q.ts.set n ⟨q.ts[n].ps, q.ts[n].vs.set k 1, q.ts[n].d⟩).set n ⟨q.ts[n].ps, q.ts[n].vs.set k 1, 2⟩, q.os ++ [(n : Int)]⟩ := by
          rw [HX.out]
          unfold yesC yesTx
          rw [HVS.out, if_pos hall, if_pos hall, List.set_set]
        obtain ⟨q4, q5, q6, o4⟩ := cr_dec HO3.out (by simp) (n := n) (by simpa using hn) 2
        obtain ⟨cs, fr, hty⟩ := HO3.out.head (by simp) (n := n) (by simpa using hn)
        have n1 := ty_ne HX1.out hty (by decide)
        have n6 := ty_ne HX6.out hty (by decide)
        have x1 := HX1.out.far (p := ⟨gT, n * 3 + 2, none⟩) n1 (.int .i64 2)
        have x6 := HX6.out.far (p := ⟨gT, n * 3 + 2, none⟩) n6 (.int .i64 2)
        have b1 := HB1.out.setCell (p := ⟨gT, n * 3 + 2, none⟩) q6 (.int .i64 2)
        simp only [List.getElem_set_self] at o4 q4
        clear H hall HX1 HX6 HB1 HO3 hty n1 n6 q1 HX HVS hlt hj9
        go_upto_region 13 with fail
        obtain ⟨W2, hW⟩ : ∃ x, W.setCell ⟨gT, n * 3 + 2, none⟩ (.int .i64 2) = x := ⟨_, rfl⟩
        rw [hW] at x1 x6 b1 o4 ⊢
        clear hW u0 u1 q4 q5 q6 q0
        obtain ⟨u0, u1, uf⟩ := id x6.reads
        obtain ⟨oT, oI, oC⟩ := o4.parts
        have rI := World.ownsRow.alloc oI (.cells #[.int .i64 n] 3)
        have zI := b1.size
        have HP : Hid (∀ v7 w7, w7.ownsRow w.heap.size 3 1 v7 (q.os.length + 1) (ints q.os ++ [.int .i64 n]) → (W2.alloc (.cells #[.int .i64 n] 3)).grownBy w7 (Value.slice Ab q.os.length cb).ownBlock → (v7.ownBlock = (Value.slice Ab q.os.length cb).ownBlock ∨ v7.ownBlock = some (W2.alloc (.cells #[.int .i64 n] 3)).heap.size) →
            ∃ A7 c7 col7, v7 = .slice A7 (q.os.length + 1) c7 ∧ (∃ v, w7.cell? ⟨g, 1, none⟩ = some v) ∧ w7.frozen? ⟨g, 1, none⟩ = false ∧
              Blk2s (w7.setCell ⟨g, 1, none⟩ (.slice A7 (q.os.length + 1) c7)) (w.heap.size + 1) 26 (.slice none 0 0) (.slice none 0 0) ∧ Blk2s (w7.setCell ⟨g, 1, none⟩ (.slice A7 (q.os.length + 1) c7)) g 26 (.slice (some ⟨gT, 0, none⟩) q.ts.length co) (.slice A7 (q.os.length + 1) c7) ∧
              Below w.heap.size w (w7.setCell ⟨g, 1, none⟩ (.slice A7 (q.os.length + 1) c7)) ∧ OwnCr col7 (w7.setCell ⟨g, 1, none⟩ (.slice A7 (q.os.length + 1) c7)) w.heap.size (.agg #[.slice (some ⟨gT, 0, none⟩) q.ts.length co, .slice A7 (q.os.length + 1) c7]) x) := by
          rw [hxx]
          exact cr_order o4 x1 x6 (by have := HB2.out; omega) b1
        clear hxx x1 b1 oT oI oC o4 x6
        have ui := uf 1
        clear uf
        go_upto_region 14 with (at_builtin; go_must (refine wpList_append_own_at _ rfl _ _ 24 rfl w.heap.size 3 i1 (.int .i64 0) 1 8 Try.underlying24 hj hy0 hy1 hy2 rfl (by decide) (.slice Ab q.os.length cb) q.os.length _ rfl rI ⟨W2.heap.size, 0, none⟩ 1 1 [.int .i64 n] rfl rfl (cell_one_new _ _ _) (one_int _) (by unfold maxLen; omega) (by omega) (by simp; omega) ?_); intro v7 w7 hown hg _ hat; obtain ⟨A7, c7, col7, rfl, ⟨v4, t4⟩, f4, x1, x6, b1, o9⟩ := HP.out _ _ hown hg hat)
        clear HP rI hown hg u0 u1 ui
        obtain ⟨W3, hW⟩ : ∃ x, w7.setCell ⟨g, 1, none⟩ (.slice A7 (q.os.length + 1) c7) = x := ⟨_, rfl⟩
        rw [hW] at x1 x6 b1 o9 ⊢
        clear hW t4 f4
        obtain ⟨u0, u1, -⟩ := id x6.reads
        obtain ⟨t0, t1, tf⟩ := id x1.reads
        have tf0 := tf 0
        have tf1 := tf 1
        clear tf
        have o10 := (o9.keptT (by decide) (by decide) (by decide) (by decide) (but_set _ (w.heap.size + 1) 0 (.slice (some ⟨gT, 0, none⟩) q.ts.length co)) (blk_type x1)).keptT (by decide) (by decide) (by decide) (by decide) (but_set _ (w.heap.size + 1) 1 (.slice A7 (q.os.length + 1) c7)) (blk_type (x1.set0 _))
        have b9 := (b1.setCell (p := ⟨w.heap.size + 1, 0, none⟩) (Nat.le_succ _) (.slice (some ⟨gT, 0, none⟩) q.ts.length co)).setCell (p := ⟨w.heap.size + 1, 1, none⟩) (Nat.le_succ _) (.slice A7 (q.os.length + 1) c7)
        obtain ⟨p0, p1, -⟩ := ((x1.set0 (.slice (some ⟨gT, 0, none⟩) q.ts.length co)).set1 (.slice A7 (q.os.length + 1) c7)).reads
        clear x0 x1 o9 b1
        go_wp2
        exact bodyPost_ret (v := .agg #[.slice (some ⟨gT, 0, none⟩) q.ts.length co, .slice A7 (q.os.length + 1) c7]) (by simp [results, Try.results67, go_sem, p0, p1]) rfl ⟨_, _, rfl, o10, b9⟩
/- The end of a refusal: a copy is answered. -/
set_option linter.unusedSimpArgs false in
set_option linter.unusedVariables false in
set_option maxRecDepth 100000 in
set_option maxHeartbeats 16000000 in
theorem specCoordinatorVote_is (x : Crd) (b : Bool) (v : Value) (q : Crd) (t s : Int) (y : Bool) (w : World) (h : Crdd w w.heap.size v q) (hf : FitC q) (hx : Counted q t s y x b) :
    Calls Try.prog 26 #[v, .int .i64 t, .int .i64 s, .bool y] w (NewCrB x b w) := by
  obtain ⟨bv, hbv⟩ := bool_ofP' (CV q)
  obtain ⟨bi, hbi⟩ := bool_of (0 ≤ t ∧ t ≤ (q.ts.length : Int) - 1)
  have HX := hid hx
  have HBV := hid hbv
  have HBI := hid hbi
  have HF := hid hf
  have CVal : Hid (∀ y, Below w.heap.size w y → Calls Try.prog 22 #[v] y (Ret (.bool bv) y)) := fun y hy => specCoordinatorValid_is bv v q y (h.on hy hy.size) hf hbv
  have CCop : Hid (∀ y, Below w.heap.size w y → Calls Try.prog 65 #[v] y (NewCr q y)) := fun y hy => l22Copy_any v q y (h.on hy hy.size) hf
  have CI : Hid (∀ y, Calls Try.prog 53 #[.int .i64 t, .int .i64 0, .int .i64 ((q.ts.length : Int) - 1)] y (Ret (.bool bi) y)) := fun y => (l6In_is bi _ _ _ y hbi).mono fun _ _ h => h.ret
  have hf1 := hf.ts
  have qw : IntKind.i64.wrap ((q.ts.length : Int) - 1) = (q.ts.length : Int) - 1 := IntWalk.i64_in _ (by omega)
  have HV0 : Hid (∀ y, Below w.heap.size w y → Crdd y y.heap.size v q) := fun y hy => h.on hy hy.size
  clear hx hbv hbi
  obtain ⟨A, c, A2, c2, rfl, hT, hc, -, hc2⟩ := h
  clear hf
  unfold crV at *
  have b1 := ((Below.refl w.heap.size w).alloc (Nat.le_refl _) (.cells #[.slice A q.ts.length c, .slice A2 q.os.length c2] 26)).alloc (by simp) (.cells #[.slice none 0 0, .slice none 0 0] 26)
  have x0 := (Blk2s.new_ w 26 (.slice A q.ts.length c) (.slice A2 q.os.length c2)).alloc (.cells #[.slice none 0 0, .slice none 0 0] 26)
  have x1 := Blk2s.new_ (w.alloc (.cells #[.slice A q.ts.length c, .slice A2 q.os.length c2] 26)) 26 (.slice none 0 0) (.slice none 0 0)
  rw [World.size_alloc] at x1
  go_enter Try.func26, Try.ntmps26
  go_upto_region 1 with fail
  obtain ⟨w1, hw1⟩ : ∃ w1, (w.alloc (.cells #[.slice A q.ts.length c, .slice A2 q.os.length c2] 26)).alloc (.cells #[.slice none 0 0, .slice none 0 0] 26) = w1 := ⟨_, rfl⟩
  rw [hw1] at b1 x0 x1 ⊢
  clear hw1
  obtain ⟨y0, y1, -⟩ := id x0.reads
  go_wp2_with fail
  refine (CVal.out _ b1).mono ?_
  rintro e w2 ⟨rfl, d⟩
  replace x0 := x0.later d
  replace x1 := x1.later d
  replace b1 := b1.trans (d.mono b1.size)
  clear y0 y1
  obtain ⟨y0, y1, -⟩ := id x0.reads
  clear d
  cases bv with
  | false =>
    obtain ⟨rfl, rfl⟩ := HX.out.bad_ fun e => by have := HBV.out.2 e; cases this
    clear HX CVal CCop CI
    obtain ⟨t0, t1, tf⟩ := id x1.reads
    have tf0 := tf 0
    have tf1 := tf 1
    clear tf
    obtain ⟨p0, p1, -⟩ := ((x1.set0 (.slice none 0 0)).set1 (.slice none 0 0)).reads
    have b7 := (b1.setCell (p := ⟨w.heap.size + 1, 0, none⟩) (Nat.le_succ _) (.slice none 0 0)).setCell (p := ⟨w.heap.size + 1, 1, none⟩) (Nat.le_succ _) (.slice none 0 0)
    go_wp2
    exact bodyPost_ret (v := .tuple #[.agg #[.slice none 0 0, .slice none 0 0], .bool false]) (by simp [results, Try.results26, go_sem, p0, p1]) rfl ⟨_, _, rfl, OwnCr.none_ _ _, b7⟩
  | true =>
    have HVq := hid (HBV.out.1 rfl)
    clear CVal
    go_wp2_with fail
    refine (CI.out _).mono ?_
    rintro e w2 ⟨rfl, d⟩
    replace x0 := x0.later d
    replace x1 := x1.later d
    replace b1 := b1.trans (d.mono b1.size)
    clear y0 y1
    obtain ⟨y0, y1, -⟩ := id x0.reads
    clear d CI
    cases bi with
    | false =>
      have HNo : Hid (x = q ∧ b = false) := HX.out.no_ HVq.out fun n k a => by
        have h1 := a.hi
        have h2 := a.ht
        exact absurd (HBI.out.2 ⟨by omega, by omega⟩) (by decide)
      obtain ⟨rfl, rfl⟩ := HNo.out
      have zc := b1.size
      clear HX HVq HBV
      go_wp2_with fail
      refine (CCop.out _ b1).mono ?_
      rintro e w2 ⟨v2, col, rfl, o2, d⟩
      replace x0 := x0.later d
      replace x1 := x1.later d
      replace b1 := b1.trans (d.mono b1.size)
      clear y0 y1
      obtain ⟨y0, y1, -⟩ := id x0.reads
      obtain ⟨Ao, co, Ab, cb, rfl, -, -, -, -, -, -, -⟩ := o2.form
      unfold crV at o2 ⊢
      have o9 := o2.base (B' := w.heap.size) zc
      clear o2 d CCop zc
      obtain ⟨t0, t1, tf⟩ := id x1.reads
      have tf0 := tf 0
      have tf1 := tf 1
      clear tf
      have o10 := (o9.keptT (by decide) (by decide) (by decide) (by decide) (but_set _ (w.heap.size + 1) 0 (.slice Ao x.ts.length co)) (blk_type x1)).keptT (by decide) (by decide) (by decide) (by decide) (but_set _ (w.heap.size + 1) 1 (.slice Ab x.os.length cb)) (blk_type (x1.set0 _))
      have b9 := (b1.setCell (p := ⟨w.heap.size + 1, 0, none⟩) (Nat.le_succ _) (.slice Ao x.ts.length co)).setCell (p := ⟨w.heap.size + 1, 1, none⟩) (Nat.le_succ _) (.slice Ab x.os.length cb)
      obtain ⟨p0, p1, -⟩ := ((x1.set0 (.slice Ao x.ts.length co)).set1 (.slice Ab x.os.length cb)).reads
      clear x0 x1 o9 b1
      go_wp2
      exact bodyPost_ret (v := .tuple #[.agg #[.slice Ao x.ts.length co, .slice Ab x.os.length cb], .bool false]) (by simp [results, Try.results26, go_sem, p0, p1]) rfl ⟨_, _, rfl, o10, b9⟩
    | true =>
      have hti := HBI.out.1 rfl
      obtain ⟨n, rfl⟩ := Int.eq_ofNat_of_zero_le hti.1
      have hn : n < q.ts.length := by omega
      have k0 : (0 : Int) ≤ (n : Int) := by omega
      have k1 : (n : Int) < (q.ts.length : Int) := by omega
      clear hti HBI
      obtain ⟨t, ad, A', c', A9, c9, ho, rfl, had, g0, g1, g2, -, -, g5, g6⟩ := (hT.below b1 (Nat.le_refl _)).tx hn
      have htv := HVq.out.txs t (by rw [← ho]; exact List.getElem_mem hn)
      have hps := (HF.out.ps t (by rw [← ho]; exact List.getElem_mem hn)).1
      obtain ⟨z, hz⟩ := ix_ex t.ps s
      have CS := hid (l22Shard_is z A' c' t.ps s w2 w.heap.size g5 (by omega) hz)
      have HO := hid ho
      have HZ := hid hz
      clear hz g5 hps
      go_wp2_with fail
      refine CS.out.mono ?_
      rintro e w3 ⟨rfl, rfl⟩
      clear CS
      rcases HZ.out with ⟨k, hk, rfl, hks, -⟩ | ⟨rfl, hnk⟩
      · have hkv : k < t.vs.length := by rw [htv.len]; exact hk
        have k2 : (0 : Int) ≤ (k : Int) := by omega
        have k3 : (k : Int) < (t.vs.length : Int) := by omega
        have k4 : ¬ ((k : Int) < 0) := by omega
        have k5 : decide ((k : Int) < 0) = false := decide_eq_false k4
        obtain ⟨ad2, rfl, hbl, hcv⟩ := g6.int_ hkv
        by_cases hd : t.d = 0
        · have e0 : (t.d != 0) = false := by rw [bne_eq_false_iff_eq]; exact hd
          by_cases hv0 : t.vs[k] = 0
          · have e1 : (t.vs[k] != 0) = false := by rw [bne_eq_false_iff_eq]; exact hv0
            have haw : Awaits q (n : Int) s n k := by
              refine ⟨⟨hn, ?_, ?_, ?_⟩, rfl, ?_, ?_⟩
              · rw [ho]; exact hd
              · rw [ho]; exact hkv
              · simp only [ho]; exact hv0
              · rw [ho]; exact hk
              · simp only [ho]; exact hks
            obtain ⟨hxx, rfl⟩ := HX.out.yes_ HVq.out haw
            have CVo := hid fun w9 hw9 => l22Vote_any x (.agg #[.slice (some ad) q.ts.length c, .slice A2 q.os.length c2]) q n k y w9 (HV0.out w9 hw9) HF.out hn (by rw [ho]; exact hkv) (by rw [ho]; exact hd) hxx
            clear HX HVq HBV hd hv0 hxx haw CCop ho htv HZ
            have zc := b1.size
            go_wp2_with fail
            refine (CVo.out _ b1).mono ?_
            rintro e w2 ⟨v2, col, rfl, o2, d⟩
            replace x0 := x0.later d
            replace x1 := x1.later d
            replace b1 := b1.trans (d.mono b1.size)
            clear y0 y1
            obtain ⟨y0, y1, -⟩ := id x0.reads
            obtain ⟨Ao, co, Ab, cb, rfl, -, -, -, -, -, -, -⟩ := o2.form
            unfold crV at o2 ⊢
            have o9 := o2.base (B' := w.heap.size) zc
            clear o2 d CVo zc g0 g1 g2 hcv
            obtain ⟨t0, t1, tf⟩ := id x1.reads
            have tf0 := tf 0
            have tf1 := tf 1
            clear tf
            have o10 := (o9.keptT (by decide) (by decide) (by decide) (by decide) (but_set _ (w.heap.size + 1) 0 (.slice Ao x.ts.length co)) (blk_type x1)).keptT (by decide) (by decide) (by decide) (by decide) (but_set _ (w.heap.size + 1) 1 (.slice Ab x.os.length cb)) (blk_type (x1.set0 _))
            have b9 := (b1.setCell (p := ⟨w.heap.size + 1, 0, none⟩) (Nat.le_succ _) (.slice Ao x.ts.length co)).setCell (p := ⟨w.heap.size + 1, 1, none⟩) (Nat.le_succ _) (.slice Ab x.os.length cb)
            obtain ⟨p0, p1, -⟩ := ((x1.set0 (.slice Ao x.ts.length co)).set1 (.slice Ab x.os.length cb)).reads
            clear x0 x1 o9 b1
            go_wp2
            exact bodyPost_ret (v := .tuple #[.agg #[.slice Ao x.ts.length co, .slice Ab x.os.length cb], .bool true]) (by simp [results, Try.results26, go_sem, p0, p1]) rfl ⟨_, _, rfl, o10, b9⟩
          · have e1 : (t.vs[k] != 0) = true := by rw [bne_iff_ne]; exact hv0
            have HNo : Hid (x = q ∧ b = false) := HX.out.no_ HVq.out fun n' k' a => by
              have e := a.ht
              have e2 : n' = n := by omega
              subst e2
              have h1 := a.hs
              have h2 := a.v0
              have h3 := a.kp
              simp only [ho] at h1 h2 h3
              have e3 : k' = k := parts_one htv.parts h3 hk (h1.trans hks.symm)
              subst e3
              exact hv0 h2
            clear hv0 hd ho htv HZ
            obtain ⟨rfl, rfl⟩ := HNo.out
            have zc := b1.size
            clear HX HVq HBV
            go_wp2_with fail
            refine (CCop.out _ b1).mono ?_
            rintro e w2 ⟨v2, col, rfl, o2, d⟩
            replace x0 := x0.later d
            replace x1 := x1.later d
            replace b1 := b1.trans (d.mono b1.size)
            clear y0 y1
            obtain ⟨y0, y1, -⟩ := id x0.reads
            obtain ⟨Ao, co, Ab, cb, rfl, -, -, -, -, -, -, -⟩ := o2.form
            unfold crV at o2 ⊢
            have o9 := o2.base (B' := w.heap.size) zc
            clear o2 d CCop zc
            obtain ⟨t0, t1, tf⟩ := id x1.reads
            have tf0 := tf 0
            have tf1 := tf 1
            clear tf
            have o10 := (o9.keptT (by decide) (by decide) (by decide) (by decide) (but_set _ (w.heap.size + 1) 0 (.slice Ao x.ts.length co)) (blk_type x1)).keptT (by decide) (by decide) (by decide) (by decide) (but_set _ (w.heap.size + 1) 1 (.slice Ab x.os.length cb)) (blk_type (x1.set0 _))
            have b9 := (b1.setCell (p := ⟨w.heap.size + 1, 0, none⟩) (Nat.le_succ _) (.slice Ao x.ts.length co)).setCell (p := ⟨w.heap.size + 1, 1, none⟩) (Nat.le_succ _) (.slice Ab x.os.length cb)
            obtain ⟨p0, p1, -⟩ := ((x1.set0 (.slice Ao x.ts.length co)).set1 (.slice Ab x.os.length cb)).reads
            clear x0 x1 o9 b1
            go_wp2
            exact bodyPost_ret (v := .tuple #[.agg #[.slice Ao x.ts.length co, .slice Ab x.os.length cb], .bool false]) (by simp [results, Try.results26, go_sem, p0, p1]) rfl ⟨_, _, rfl, o10, b9⟩
        · have e0 : (t.d != 0) = true := by rw [bne_iff_ne]; exact hd
          have HNo : Hid (x = q ∧ b = false) := HX.out.no_ HVq.out fun n' k' a => by
            have e := a.ht
            have e2 : n' = n := by omega
            subst e2
            have h1 := a.d0
            rw [ho] at h1
            exact hd h1
          clear hd ho htv HZ
          obtain ⟨rfl, rfl⟩ := HNo.out
          have zc := b1.size
          clear HX HVq HBV
          go_wp2_with fail
          refine (CCop.out _ b1).mono ?_
          rintro e w2 ⟨v2, col, rfl, o2, d⟩
          replace x0 := x0.later d
          replace x1 := x1.later d
          replace b1 := b1.trans (d.mono b1.size)
          clear y0 y1
          obtain ⟨y0, y1, -⟩ := id x0.reads
          obtain ⟨Ao, co, Ab, cb, rfl, -, -, -, -, -, -, -⟩ := o2.form
          unfold crV at o2 ⊢
          have o9 := o2.base (B' := w.heap.size) zc
          clear o2 d CCop zc
          obtain ⟨t0, t1, tf⟩ := id x1.reads
          have tf0 := tf 0
          have tf1 := tf 1
          clear tf
          have o10 := (o9.keptT (by decide) (by decide) (by decide) (by decide) (but_set _ (w.heap.size + 1) 0 (.slice Ao x.ts.length co)) (blk_type x1)).keptT (by decide) (by decide) (by decide) (by decide) (but_set _ (w.heap.size + 1) 1 (.slice Ab x.os.length cb)) (blk_type (x1.set0 _))
          have b9 := (b1.setCell (p := ⟨w.heap.size + 1, 0, none⟩) (Nat.le_succ _) (.slice Ao x.ts.length co)).setCell (p := ⟨w.heap.size + 1, 1, none⟩) (Nat.le_succ _) (.slice Ab x.os.length cb)
          obtain ⟨p0, p1, -⟩ := ((x1.set0 (.slice Ao x.ts.length co)).set1 (.slice Ab x.os.length cb)).reads
          clear x0 x1 o9 b1
          go_wp2
          exact bodyPost_ret (v := .tuple #[.agg #[.slice Ao x.ts.length co, .slice Ab x.os.length cb], .bool false]) (by simp [results, Try.results26, go_sem, p0, p1]) rfl ⟨_, _, rfl, o10, b9⟩
      · have HNo : Hid (x = q ∧ b = false) := HX.out.no_ HVq.out fun n' k' a => by
          have e := a.ht
          have e2 : n' = n := by omega
          subst e2
          have h1 := a.hs
          have h3 := a.kp
          simp only [ho] at h1 h3
          exact hnk k' h3 h1
        clear hnk ho htv HZ
        obtain ⟨rfl, rfl⟩ := HNo.out
        have zc := b1.size
        clear HX HVq HBV
        go_wp2_with fail
        refine (CCop.out _ b1).mono ?_
        rintro e w2 ⟨v2, col, rfl, o2, d⟩
        replace x0 := x0.later d
        replace x1 := x1.later d
        replace b1 := b1.trans (d.mono b1.size)
        clear y0 y1
        obtain ⟨y0, y1, -⟩ := id x0.reads
        obtain ⟨Ao, co, Ab, cb, rfl, -, -, -, -, -, -, -⟩ := o2.form
        unfold crV at o2 ⊢
        have o9 := o2.base (B' := w.heap.size) zc
        clear o2 d CCop zc
        obtain ⟨t0, t1, tf⟩ := id x1.reads
        have tf0 := tf 0
        have tf1 := tf 1
        clear tf
        have o10 := (o9.keptT (by decide) (by decide) (by decide) (by decide) (but_set _ (w.heap.size + 1) 0 (.slice Ao x.ts.length co)) (blk_type x1)).keptT (by decide) (by decide) (by decide) (by decide) (but_set _ (w.heap.size + 1) 1 (.slice Ab x.os.length cb)) (blk_type (x1.set0 _))
        have b9 := (b1.setCell (p := ⟨w.heap.size + 1, 0, none⟩) (Nat.le_succ _) (.slice Ao x.ts.length co)).setCell (p := ⟨w.heap.size + 1, 1, none⟩) (Nat.le_succ _) (.slice Ab x.os.length cb)
        obtain ⟨p0, p1, -⟩ := ((x1.set0 (.slice Ao x.ts.length co)).set1 (.slice Ab x.os.length cb)).reads
        clear x0 x1 o9 b1
        go_wp2
        exact bodyPost_ret (v := .tuple #[.agg #[.slice Ao x.ts.length co, .slice Ab x.os.length cb], .bool false]) (by simp [results, Try.results26, go_sem, p0, p1]) rfl ⟨_, _, rfl, o10, b9⟩
end Go.Proofs.Ytelmeknpmlbplaa
/- Laws on coordinators: a coordinator is boxed. -/
/-
  Walk: drawn coordinators.
-/
namespace Go.Proofs.Ytelmeknpmlbplaa
open Go.RowKit Wo Pu Rf Co

/-! ### Sizes. -/
set_option linter.unusedVariables false in
set_option linter.unusedSimpArgs false in
theorem asc_few : ∀ {zs : List Int} (lo hi : Int), zs.Pairwise (· < ·) → (∀ x ∈ zs, lo ≤ x ∧ x ≤ hi) → zs.length ≤ (hi + 1 - lo).toNat := by
  intro zs
  induction zs with
  | nil => intro lo hi _ _; exact Nat.zero_le _
  | cons a zs ih =>
    intro lo hi hp hr
    obtain ⟨h1, h2⟩ := List.pairwise_cons.1 hp
    have ha := hr a List.mem_cons_self
    have := ih (lo + 1) hi h2 (fun x hx => by have := h1 x hx; have := hr x (List.mem_cons_of_mem _ hx); omega)
    rw [List.length_cons]
    omega
set_option linter.unusedVariables false in
set_option linter.unusedSimpArgs false in
theorem asc_rs : ∀ {us : List Up} {k : Int}, Asc k us → (us.map Up.r).Pairwise (· < ·) := by
  intro us
  induction us with
  | nil => intro _ _; exact List.Pairwise.nil
  | cons u us ih =>
    intro k h
    refine List.pairwise_cons.2 ⟨fun x hx => ?_, ih h.2.2⟩
    obtain ⟨v, hv, rfl⟩ := List.mem_map.1 hx
    exact (h.2.2.mem v hv).1
set_option linter.unusedVariables false in
set_option linter.unusedSimpArgs false in
theorem uv_few {us : List Up} (h : UV us) : us.length ≤ 4 := by
  have := asc_few 0 3 (asc_rs h.2) (fun x hx => by obtain ⟨u, hu, rfl⟩ := List.mem_map.1 hx; exact (h.2.mem u hu).2.1)
  rw [List.length_map] at this
  exact this
set_option linter.unusedVariables false in
set_option linter.unusedSimpArgs false in
theorem pv_few {ps : List Part} (h : PartsV ps) : ps.length ≤ 3 ∧ SmP ps := by
  refine ⟨?_, fun p hp => uv_few (h.2.1 p hp).2.2⟩
  have := asc_few (zs := ps.map Part.s) 0 2 (List.pairwise_map.2 h.2.2) (fun x hx => by obtain ⟨p, hp, rfl⟩ := List.mem_map.1 hx; exact ⟨(h.2.1 p hp).1, (h.2.1 p hp).2.1⟩)
  rw [List.length_map] at this
  exact this
set_option linter.unusedVariables false in
/-- Few transactions, of few parts. -/
structure SmC (k : Crd) : Prop where
  ts : k.ts.length ≤ 12
  os : k.os.length ≤ 13
  ps : ∀ t ∈ k.ts, t.ps.length ≤ 3 ∧ t.vs.length ≤ 3
  us : ∀ t ∈ k.ts, SmP t.ps
set_option linter.unusedVariables false in
set_option linter.unusedSimpArgs false in
theorem SmC.fit {k : Crd} (h : SmC k) : FitC k :=
  ⟨by have := h.ts; omega, by have := h.os; omega, fun t ht => by have := h.ps t ht; omega, fun t ht p hp => by have := h.us t ht p hp; omega⟩
set_option linter.unusedVariables false in
set_option linter.unusedSimpArgs false in
theorem cv_few {k : Crd} (h : CV k) : SmC k ∧ k.os.length ≤ 12 := by
  have ho : k.os.length ≤ 12 := by rw [h.cnt]; exact Nat.le_trans List.countP_le_length h.many
  refine ⟨⟨h.many, by omega, fun t ht => ?_, fun t ht => (pv_few (h.txs t ht).parts).2⟩, ho⟩
  have := (pv_few (h.txs t ht).parts).1
  have := (h.txs t ht).len
  omega
set_option linter.unusedVariables false in
set_option linter.unusedSimpArgs false in
theorem SmC.set {k : Crd} (h : SmC k) {n : Nat} {t : Tx} (h1 : t.ps.length ≤ 3 ∧ t.vs.length ≤ 3) (h2 : SmP t.ps) : SmC ⟨k.ts.set n t, k.os⟩ := by
  refine ⟨by simpa using h.ts, h.os, fun x hx => ?_, fun x hx => ?_⟩
  · rcases List.mem_or_eq_of_mem_set hx with e | e
    · exact h.ps x e
    · rw [e]; exact h1
  · rcases List.mem_or_eq_of_mem_set hx with e | e
    · exact h.us x e
    · rw [e]; exact h2
set_option linter.unusedVariables false in
def CrDrawn (R : Nat) (q : Int) (w : World) (e : Ending) (w' : World) : Prop := ∃ v k col, e = .returned v ∧ OwnCr col w' w.heap.size v k ∧ SmC k ∧ Rd w' R (q + 12000) ∧ But R w w'
set_option linter.unusedVariables false in
set_option linter.unusedSimpArgs false in
theorem Blk2s.but_ {w w' : World} {R g : Nat} {T : TypeId} {v u : Value} (h : Blk2s w g T v u) (hb : But R w w') (hg : g ≠ R) : Blk2s w' g T v u := (hb.block g h.lt (fun e => hg (by injection e))).trans h
set_option linter.unusedVariables false in
/-- What the loop has laid: the result's box, the coordinator's at g. -/
def DrC (w : World) (R g : Nat) (q : Int) (a b : Value) (col : Nat → Nat) (k : Crd) (wr : World) : Prop :=
  Blk2s wr w.heap.size 26 (.slice none 0 0) (.slice none 0 0) ∧ Blk2s wr g 26 a b ∧ w.heap.size < g ∧ OwnCr col wr w.heap.size (.agg #[a, b]) k ∧ R < w.heap.size ∧ Rd wr R q ∧ But R w wr
section
variable {w wr w' : World} {R g : Nat} {q q' : Int} {a b : Value} {col : Nat → Nat} {k : Crd}
set_option linter.unusedVariables false in
set_option linter.unusedSimpArgs false in
theorem DrC.call (h : DrC w R g q a b col k wr) (hb : Below wr.heap.size wr w') : DrC w R g q a b col k w' := by
  obtain ⟨h1, h2, h3, h4, h5, h6, h7⟩ := h
  exact ⟨h1.later hb, h2.later hb, h3, h4.below hb, h5, h6.below hb h6.lt, h7.trans (.of_below hb)⟩
set_option linter.unusedVariables false in
set_option linter.unusedSimpArgs false in
theorem DrC.pick (h : DrC w R g q a b col k wr) (hR : Rd w' R q') (hT : But R wr w') : DrC w R g q' a b col k w' := by
  obtain ⟨h1, h2, h3, h4, h5, h6, h7⟩ := h
  exact ⟨h1.but_ hT (by omega), h2.but_ hT (by omega), h3, h4.but hT h5, h5, hR, h7.trans hT⟩
set_option linter.unusedVariables false in
set_option linter.unusedSimpArgs false in
theorem DrC.more (h : DrC w R g q a b col k wr) (hq : q ≤ q') : DrC w R g q' a b col k wr := by
  obtain ⟨h1, h2, h3, h4, h5, h6, h7⟩ := h
  exact ⟨h1, h2, h3, h4, h5, h6.more hq, h7⟩
set_option linter.unusedVariables false in
set_option linter.unusedSimpArgs false in
/-- Another box is stored into. -/
theorem DrC.stored {v0 v1 : Value} {g2 : Nat} (h : DrC w R g q a b col k wr) (hx : Blk2s wr g2 26 v0 v1) (hg : g < g2) (o : Nat) (u : Value) : DrC w R g q a b col k (wr.setCell ⟨g2, o, none⟩ u) := by
  obtain ⟨h1, h2, h3, h4, h5, h6, h7⟩ := h
  exact ⟨h1.far (by show w.heap.size ≠ g2; omega) u, h2.far (by show g ≠ g2; omega) u, h3, h4.keptT (by decide) (by decide) (by decide) (by decide) (but_set wr g2 o u) (blk_type hx), h5, h6.far (by omega) o u, h7.set_new (by omega) o u⟩
set_option linter.unusedVariables false in
set_option linter.unusedSimpArgs false in
/-- Its own box is stored into. -/
theorem DrC.next {a' b' : Value} {col' : Nat → Nat} {k' : Crd} (h : DrC w R g q a b col k wr) (o : OwnCr col' wr w.heap.size (.agg #[a', b']) k') : DrC w R g q a' b' col' k' ((wr.setCell ⟨g, 0, none⟩ a').setCell ⟨g, 1, none⟩ b') := by
  obtain ⟨h1, h2, h3, h4, h5, h6, h7⟩ := h
  exact ⟨(h1.far (p := ⟨g, 0, none⟩) (by show w.heap.size ≠ g; omega) a').far (p := ⟨g, 1, none⟩) (by show w.heap.size ≠ g; omega) b', (h2.set0 a').set1 b', h3, (o.keptT (by decide) (by decide) (by decide) (by decide) (but_set wr g 0 a') (blk_type h2)).keptT (by decide) (by decide) (by decide) (by decide) (but_set _ g 1 b') (blk_type (h2.set0 a')), h5,
    (h6.far (by omega) 0 a').far (by omega) 1 b', (h7.set_new (by omega) 0 a').set_new (by omega) 1 b'⟩
set_option linter.unusedVariables false in
set_option linter.unusedSimpArgs false in
theorem DrC.size (h : DrC w R g q a b col k wr) : w.heap.size ≤ wr.heap.size := h.2.2.2.2.2.2.size
end
/- What the next box holds, o9 with the slices SA and SB, becomes the coordinator. -/
/- In a region: the answer ($SA, $SB) is stored into the next box; W is the world. -/
/- The loop, N rounds of it, and what follows. -/
/- The body: the new box at gn, a copy of the coordinator's slices. -/
/- What a call has answered, in a region. -/
/- The coordinator K in the box, with the slices SA and SB, is the answer; W is the world. -/
set_option linter.unusedSimpArgs false in
set_option linter.unusedVariables false in
set_option maxRecDepth 100000 in
set_option maxHeartbeats 32000000 in
theorem l92Coordinator_any (R : Nat) (q : Int) (w : World) (hR : Rd w R q) (hq : q ≤ 500000000) :
    Calls Try.prog 47 #[.pointer (some ⟨R, 0, none⟩)] w (CrDrawn R q w) := by
  obtain ⟨i1, hj, hy0, hy1, hy2⟩ := info_of info_int
  have hRl := hR.lt
  have x0 := Blk2s.new_ w 26 (.slice none 0 0) (.slice none 0 0)
  have al := (Below.refl w.heap.size w).alloc (Nat.le_refl _) (.cells #[.slice none 0 0, .slice none 0 0] 26)
  go_enter Try.func47, Try.ntmps47
  go_upto_region 1 with fail
  obtain ⟨w1, hw1⟩ : ∃ x, w.alloc (.cells #[.slice none 0 0, .slice none 0 0] 26) = x := ⟨_, rfl⟩
  rw [hw1] at x0 al ⊢
  clear hw1
  have z1 := al.size
  have hz1 : w.heap.size < w1.heap.size := x0.lt
  have a2 := ((Below.refl w1.heap.size w1).alloc (Nat.le_refl _) (.cells #[] 33)).alloc (by simp) (.cells #[] 3)
  have a3 := a2.alloc (by simp; omega) (.cells #[.slice (some ⟨w1.heap.size, 0, none⟩) 0 0, .slice (some ⟨w1.heap.size + 1, 0, none⟩) 0 0] 26)
  have oT : ((w1.alloc (.cells #[] 33)).alloc (.cells #[] 3)).ownsRow w.heap.size 33 3 (.slice (some ⟨w1.heap.size, 0, none⟩) 0 0) 0 [] := World.ownsRow.alloc (nil_own z1 _ _) _
  have oI : ((w1.alloc (.cells #[] 33)).alloc (.cells #[] 3)).ownsRow w.heap.size 3 1 (.slice (some ⟨(w1.alloc (.cells #[] 33)).heap.size, 0, none⟩) 0 0) 0 [] := nil_own (by simp; omega) _ _
  rw [World.size_alloc] at oI
  have x3 := Blk2s.new_ ((w1.alloc (.cells #[] 33)).alloc (.cells #[] 3)) 26 (.slice (some ⟨w1.heap.size, 0, none⟩) 0 0) (.slice (some ⟨w1.heap.size + 1, 0, none⟩) 0 0)
  have S0 : DrC w R (w1.heap.size + 1 + 1) q (.slice (some ⟨w1.heap.size, 0, none⟩) 0 0) (.slice (some ⟨w1.heap.size + 1, 0, none⟩) 0 0) (fun j => if j = w1.heap.size then 1 else 0) none_ (((w1.alloc (.cells #[] 33)).alloc (.cells #[] 3)).alloc (.cells #[.slice (some ⟨w1.heap.size, 0, none⟩) 0 0, .slice (some ⟨w1.heap.size + 1, 0, none⟩) 0 0] 26)) := by
    refine ⟨x0.later a3, by simpa using x3, by omega, ⟨_, _, rfl, ⟨[], World.ownsRow.alloc oT _, (fun j hj => by simp [none_] at hj), fun j hj => ?_⟩, World.ownsRow.alloc oI _, fun j hj => ?_⟩, hRl, (hR.below al hRl).below a3 (by omega), (But.of_below al).trans (.of_below a3)⟩
    · have e : w1.heap.size = j := by simpa [Value.ownBlock] using hj
      simp [e]
    · have e : w1.heap.size + 1 = j := by simpa [Value.ownBlock] using hj
      show (if j = w1.heap.size then 1 else 0) = 0
      rw [if_neg (by omega)]
  clear x0 al a2 a3 oT oI x3
  go_upto_region 2 with fail
  obtain ⟨w2, hw2⟩ : ∃ x, ((w1.alloc (.cells #[] 33)).alloc (.cells #[] 3)).alloc (.cells #[.slice (some ⟨w1.heap.size, 0, none⟩) 0 0, .slice (some ⟨w1.heap.size + 1, 0, none⟩) 0 0] 26) = x := ⟨_, rfl⟩
  obtain ⟨g, hg⟩ : ∃ x, w1.heap.size + 1 + 1 = x := ⟨_, rfl⟩
  rw [hw2, hg] at S0
  rw [hw2]
  try rw [hg]
  clear hw2 hg
  go_wp2_with fail
  refine (pick_any R _ 24 w2 S0.2.2.2.2.2.1 (by omega) (by omega) (by omega)).mono ?_
  rintro e w3 ⟨n0, rfl, n00, n01, R3, T3⟩
  replace S0 := S0.pick R3 T3
  clear R3 T3
  go_wp2_with fail
  refine (pick_any R _ 10 w3 S0.2.2.2.2.2.1 (by omega) (by omega) (by omega)).mono ?_
  rintro e w4 ⟨d, rfl, d0, d1, R3, T3⟩
  replace S0 := S0.pick R3 T3
  clear R3 T3
  by_cases hd : d = 0
  · have e0 : (d == 0) = true := by rw [hd]; rfl
    clear hd
    go_wp2_with fail
    go_loopw [5] (fun i wr => ∃ (k : Nat) (c : Crd) (Aa Ab : Option Addr) (ca cb : Nat) (col : Nat → Nat), k ≤ 50 ∧ i = .int .i64 k ∧ Hid (CV c) ∧ DrC w R g (q + 2 + 210 * k) (.slice Aa c.ts.length ca) (.slice Ab c.os.length cb) col c wr) (fun i _ => 50 - (intOf i).toNat)
    case atStart => exact ⟨0, none_, _, _, _, _, _, Nat.zero_le _, rfl, none_valid, S0.more (by omega)⟩
    case round =>
      clear S0
      obtain ⟨k, c, Aa, Ab, ca, cb, col, hk, rfl, HV, S⟩ := hrel
      have hf := (cv_few HV.out).1
      have hcl := hf.ts
      have hol := (cv_few HV.out).2
      have HF := hid hf
      obtain ⟨y0, y1, -⟩ := id S.2.1.reads
      by_cases hlt : (k : Int) < 50
      · have hk50 : k < 50 := by omega
        have e1 : decide ((k : Int) < 50) = true := decide_eq_true hlt
        have al := (Below.refl wr.heap.size wr).alloc (Nat.le_refl _) (.cells #[.slice Aa c.ts.length ca, .slice Ab c.os.length cb] 26)
        have xn := Blk2s.new_ wr 26 (.slice Aa c.ts.length ca) (.slice Ab c.os.length cb)
        have hgn : g < wr.heap.size := S.2.1.lt
        replace S := S.call al
        have o9 := S.2.2.2.1
        clear hf
        go_upto_region 9 with fail
        clear e1
        obtain ⟨wn, hwn⟩ : ∃ x, wr.alloc (.cells #[.slice Aa c.ts.length ca, .slice Ab c.os.length cb] 26) = x := ⟨_, rfl⟩
        obtain ⟨gn, hgg⟩ : ∃ x, wr.heap.size = x := ⟨_, rfl⟩
        rw [hwn] at S xn o9 ⊢
        rw [hgg] at hgn xn ⊢
        clear hwn hgg al y0 y1
        obtain ⟨y0, y1, -⟩ := id S.2.1.reads
        by_cases hmx : (1 : Int) ≤ (c.ts.length : Int)
        · go_wp2_with fail
          refine (pick_any R _ (c.ts.length : Int) _ S.2.2.2.2.2.1 (by omega) (by omega) (by omega)).mono ?_
          rintro e w5 ⟨t, rfl, t0, t1, R5, T5⟩
          replace S := S.pick R5 T5
          replace xn := xn.but_ T5 (by have := S.2.2.2.2.1; have := S.2.2.1; omega)
          clear R5 T5 y0 y1
          obtain ⟨y0, y1, -⟩ := id S.2.1.reads
          clear hmx o9
          go_wp2_with fail
          refine (pick_any R _ 5 _ S.2.2.2.2.2.1 (by omega) (by omega) (by omega)).mono ?_
          rintro e w6 ⟨d5, rfl, d50, d51, R5, T5⟩
          replace S := S.pick R5 T5
          replace xn := xn.but_ T5 (by have := S.2.2.2.2.1; have := S.2.2.1; omega)
          clear R5 T5 y0 y1
          obtain ⟨y0, y1, -⟩ := id S.2.1.reads
          by_cases h0 : d5 = 0
          · have e5 : (d5 == 0) = true := by rw [h0]; rfl
            clear h0 d50 d51
            go_wp2_with fail
            refine wp_region_held_drew (S := fun x => x.cell? ⟨g, 0, none⟩ = some (.slice Aa c.ts.length ca) ∧ x.cell? ⟨g, 1, none⟩ = some (.slice Ab c.os.length cb)) (by kernel_rfl) ⟨(S.call (Below.refl _ _).drew).2.1.reads.1, (S.call (Below.refl _ _).drew).2.1.reads.2.1⟩ (fun hHeld => ?_)
            replace S := S.call (Below.refl _ _).drew
            replace xn := xn.later (Below.refl _ _).drew
            obtain ⟨W, hW⟩ : ∃ x, w6.drew = x := ⟨_, rfl⟩
            rw [hW] at S xn hHeld ⊢
            clear hW y0 y1 e5
            try simp only [Act.put, List.getElem_toArray, List.getElem_cons_succ, List.getElem_cons_zero, List.setIfInBounds_toArray, List.set_cons_zero, List.set_cons_succ]
            refine wpAnyH_take (i := 0) (oi := _) (v := ?_) rfl (by kernel_rfl) (by kernel_rfl) (by kernel_rfl) (fun _ _ _ h => h) (Or.inl ⟨by rfl, ?_⟩) hHeld ?_
            rotate_left
            · (intro w' hSw; (try dsimp only at hSw); go_simp <;> with_reducible rfl)
            try simp only [Act.put, List.getElem_toArray, List.getElem_cons_succ, List.getElem_cons_zero, List.setIfInBounds_toArray, List.set_cons_zero, List.set_cons_succ]
            refine wpAnyH_take (i := 1) (oi := _) (v := ?_) rfl (by kernel_rfl) (by kernel_rfl) (by kernel_rfl) (fun _ _ _ h => h) (Or.inl ⟨by rfl, ?_⟩) hHeld ?_
            rotate_left
            · (intro w' hSw; (try dsimp only at hSw); go_simp <;> with_reducible rfl)
            try simp only [Act.put, List.getElem_toArray, List.getElem_cons_succ, List.getElem_cons_zero, List.setIfInBounds_toArray, List.set_cons_zero, List.set_cons_succ]
            refine wpAnyH_ready (rs := [2]) (by kernel_rfl) (by simp) (AllReadyH.cons (o := _) rfl (fun K hK => ?_) AllReadyH.nil)
            try simp only [Act.put, List.getElem_toArray, List.getElem_cons_succ, List.getElem_cons_zero, List.setIfInBounds_toArray, List.set_cons_zero, List.set_cons_succ]
            go_simp
            go_at_call 69
            refine (l92Parts_any R _ W S.2.2.2.2.2.1 (by omega)).mono ?_
            rintro e W ⟨vp, ps, rfl, op, hpl, hsm, R6, T6⟩
            replace S := S.pick R6 T6
            replace xn := xn.but_ T6 (by have := S.2.2.2.2.1; have := S.2.2.1; omega)
            obtain ⟨Ap, cp, rfl, rp, -⟩ := op.form
            have HSM := hid hsm
            clear R6 T6 op hsm
            refine hK.out _ _ ⟨S.2.1.reads.1, S.2.1.reads.2.1⟩ (fun hHeld => ?_)
            clear hK K
            try simp only [Act.put, List.getElem_toArray, List.getElem_cons_succ, List.getElem_cons_zero, List.setIfInBounds_toArray, List.set_cons_zero, List.set_cons_succ]
            refine wpAnyH_ready (rs := [3]) (by kernel_rfl) (by simp) (AllReadyH.cons (o := _) rfl (fun K hK => ?_) AllReadyH.nil)
            try simp only [Act.put, List.getElem_toArray, List.getElem_cons_succ, List.getElem_cons_zero, List.setIfInBounds_toArray, List.set_cons_zero, List.set_cons_succ]
            go_simp
            go_at_call 30
            obtain ⟨x, b2, hx⟩ := begun_ex c ps
            refine (specCoordinatorBegin_is x b2 _ c Ap cp ps W S.2.2.2.1.crd HF.out.fit rp (by omega) (fun p hp => by have := HSM.out p hp; omega) hx).mono ?_
            rintro e W ⟨v9, col9, rfl, o9', d9⟩
            have hxv := hx.valid
            have zz := S.size
            replace S := S.call d9
            replace xn := xn.later d9
            have o9 := o9'.base zz
            obtain ⟨A9, c9, B9, e9, rfl, -⟩ := o9.form
            unfold crV at o9 ⊢
            clear hx zz d9 o9'
            refine hK.out _ _ ⟨S.2.1.reads.1, S.2.1.reads.2.1⟩ (fun hHeld => ?_)
            clear hK K
            try simp only [Act.put, List.getElem_toArray, List.getElem_cons_succ, List.getElem_cons_zero, List.setIfInBounds_toArray, List.set_cons_zero, List.set_cons_succ]
            refine wpAnyH_take (i := 4) (oi := _) (v := ?_) rfl (by kernel_rfl) (by kernel_rfl) (by kernel_rfl) (fun _ _ _ h => h) (Or.inl ⟨by rfl, ?_⟩) hHeld ?_
            rotate_left
            · (intro w' hSw; (try dsimp only at hSw); go_simp <;> with_reducible rfl)
            try simp only [Act.put, List.getElem_toArray, List.getElem_cons_succ, List.getElem_cons_zero, List.setIfInBounds_toArray, List.set_cons_zero, List.set_cons_succ]
            refine wpAnyH_take (i := 5) (oi := _) (v := ?_) rfl (by kernel_rfl) (by kernel_rfl) (by kernel_rfl) (fun _ _ _ h => h) (Or.inl ⟨by rfl, ?_⟩) hHeld ?_
            rotate_left
            · (intro w' hSw; (try dsimp only at hSw); go_simp <;> with_reducible rfl)
            try simp only [Act.put, List.getElem_toArray, List.getElem_cons_succ, List.getElem_cons_zero, List.setIfInBounds_toArray, List.set_cons_zero, List.set_cons_succ]
            refine wpAnyH_take (i := 6) (oi := _) (v := ?_) rfl (by kernel_rfl) (by kernel_rfl) (by kernel_rfl) (fun _ _ _ h => h) (Or.inl ⟨by rfl, ?_⟩) hHeld ?_
            rotate_left
            · (intro w' hSw; (try dsimp only at hSw); go_simp <;> with_reducible rfl)
            try simp only [Act.put, List.getElem_toArray, List.getElem_cons_succ, List.getElem_cons_zero, List.setIfInBounds_toArray, List.set_cons_zero, List.set_cons_succ]
            obtain ⟨z0, z1, zff⟩ := id xn.reads
            have zf0 := zff 0
            have zf1 := zff 1
            have S9 := (S.stored xn hgn 0 (.slice A9 x.ts.length c9)).stored (xn.set0 (.slice A9 x.ts.length c9)) hgn 1 (.slice B9 x.os.length e9)
            have o8 := (o9.keptT (by decide) (by decide) (by decide) (by decide) (but_set W gn 0 (.slice A9 x.ts.length c9)) (blk_type xn)).keptT (by decide) (by decide) (by decide) (by decide) (but_set _ gn 1 (.slice B9 x.os.length e9)) (blk_type (xn.set0 (.slice A9 x.ts.length c9)))
            have x8 := (xn.set0 (.slice A9 x.ts.length c9)).set1 (.slice B9 x.os.length e9)
            clear zff
            refine wpAnyH_ready (rs := [7]) (by kernel_rfl) (by simp) (AllReadyH.cons (o := _) rfl (fun K hK => ?_) AllReadyH.nil)
            try simp only [Act.put, List.getElem_toArray, List.getElem_cons_succ, List.getElem_cons_zero, List.setIfInBounds_toArray, List.set_cons_zero, List.set_cons_succ]
            go_simp
            refine hK.out _ _ ⟨S9.2.1.reads.1, S9.2.1.reads.2.1⟩ (fun hHeld => ?_)
            clear hK K
            try simp only [Act.put, List.getElem_toArray, List.getElem_cons_succ, List.getElem_cons_zero, List.setIfInBounds_toArray, List.set_cons_zero, List.set_cons_succ]
            refine wpAnyH_done (by kernel_rfl) ?_ _
            clear S xn o9 z0 z1 zf0 zf1 hHeld
            obtain ⟨W, hWW⟩ : ∃ wz, (W.setCell ⟨gn, 0, none⟩ (.slice A9 x.ts.length c9)).setCell ⟨gn, 1, none⟩ (.slice B9 x.os.length e9) = wz := ⟨_, rfl⟩
            rw [hWW] at S9 o8 x8 ⊢
            have S := S9
            have o9 := o8
            have xn := x8
            clear S9 o8 x8 hWW
            have HVn := hid hxv
            have CW := hid (specCoordinatorValid_is true (.agg #[.slice A9 x.ts.length c9, .slice B9 x.os.length e9]) x W o9.crd (cv_few hxv).1.fit ⟨fun _ => hxv, fun _ => rfl⟩)
            obtain ⟨u0, u1, -⟩ := id xn.reads
            clear hxv
            go_wp2_with fail
            refine CW.out.mono ?_
            rintro e wg ⟨rfl, dg⟩
            replace S := S.call dg
            replace xn := xn.later dg
            replace o9 := o9.below dg
            clear CW dg u0 u1
            obtain ⟨u0, u1, -⟩ := id xn.reads
            obtain ⟨y0, y1, yf⟩ := id S.2.1.reads
            have yf0 := yf 0
            have yf1 := yf 1
            have S9 := S.next o9
            clear yf xn o9 S
            go_wp2
            go_roundw
            case rel => exact ⟨k + 1, x, _, _, _, _, _, by omega, by go_num, HVn, S9.more (by push_cast; omega)⟩
            case measure => simp [intOf]; omega
          · have e5 : (d5 == 0) = false := by rw [beq_eq_false_iff_ne]; exact h0
            by_cases h1 : d5 = 1
            · have e6 : (d5 == 1) = true := by rw [h1]; rfl
              clear h0 h1 d50 d51
              go_wp2_with fail
              refine (pick_any R _ 3 _ S.2.2.2.2.2.1 (by omega) (by omega) (by omega)).mono ?_
              rintro e w7 ⟨d6, rfl, d60, d61, R5, T5⟩
              replace S := S.pick R5 T5
              replace xn := xn.but_ T5 (by have := S.2.2.2.2.1; have := S.2.2.1; omega)
              clear R5 T5 y0 y1
              obtain ⟨y0, y1, -⟩ := id S.2.1.reads
              by_cases h3 : d6 = 0
              · have e7 : (d6 == 0) = true := by rw [h3]; rfl
                clear h3 d60 d61
                obtain ⟨x, b2, hx⟩ := late_ex c t
                have CT := hid (specCoordinatorTimeout_is x b2 _ c t w7 S.2.2.2.1.crd HF.out.fit hx)
                go_wp2_with fail
                refine CT.out.mono ?_
                rintro e W ⟨v9, col9, rfl, o9', d9⟩
                have hxv := hx.valid
                have zz := S.size
                replace S := S.call d9
                replace xn := xn.later d9
                have o9 := o9'.base zz
                obtain ⟨A9, c9, B9, e9, rfl, -⟩ := o9.form
                unfold crV at o9 ⊢
                clear CT hx zz d9 o9' y0 y1 e5 e6 e7
                obtain ⟨z0, z1, zff⟩ := id xn.reads
                have zf0 := zff 0
                have zf1 := zff 1
                have S9 := (S.stored xn hgn 0 (.slice A9 x.ts.length c9)).stored (xn.set0 (.slice A9 x.ts.length c9)) hgn 1 (.slice B9 x.os.length e9)
                have o8 := (o9.keptT (by decide) (by decide) (by decide) (by decide) (but_set W gn 0 (.slice A9 x.ts.length c9)) (blk_type xn)).keptT (by decide) (by decide) (by decide) (by decide) (but_set _ gn 1 (.slice B9 x.os.length e9)) (blk_type (xn.set0 (.slice A9 x.ts.length c9)))
                have x8 := (xn.set0 (.slice A9 x.ts.length c9)).set1 (.slice B9 x.os.length e9)
                clear zff
                go_upto_region 17 with fail
                clear S xn o9 z0 z1 zf0 zf1
                obtain ⟨W, hWW⟩ : ∃ wz, (W.setCell ⟨gn, 0, none⟩ (.slice A9 x.ts.length c9)).setCell ⟨gn, 1, none⟩ (.slice B9 x.os.length e9) = wz := ⟨_, rfl⟩
                rw [hWW] at S9 o8 x8 ⊢
                have S := S9
                have o9 := o8
                have xn := x8
                clear S9 o8 x8 hWW
                have HVn := hid hxv
                have CW := hid (specCoordinatorValid_is true (.agg #[.slice A9 x.ts.length c9, .slice B9 x.os.length e9]) x W o9.crd (cv_few hxv).1.fit ⟨fun _ => hxv, fun _ => rfl⟩)
                obtain ⟨u0, u1, -⟩ := id xn.reads
                clear hxv
                go_wp2_with fail
                refine CW.out.mono ?_
                rintro e wg ⟨rfl, dg⟩
                replace S := S.call dg
                replace xn := xn.later dg
                replace o9 := o9.below dg
                clear CW dg u0 u1
                obtain ⟨u0, u1, -⟩ := id xn.reads
                obtain ⟨y0, y1, yf⟩ := id S.2.1.reads
                have yf0 := yf 0
                have yf1 := yf 1
                have S9 := S.next o9
                clear yf xn o9 S
                go_wp2
                go_roundw
                case rel => exact ⟨k + 1, x, _, _, _, _, _, by omega, by go_num, HVn, S9.more (by push_cast; omega)⟩
                case measure => simp [intOf]; omega
              · have e7 : (d6 == 0) = false := by rw [beq_eq_false_iff_ne]; exact h3
                clear h3 d60 d61
                go_upto_region 17 with fail
                obtain ⟨W, hWW⟩ : ∃ wz, w7 = wz := ⟨_, rfl⟩
                obtain ⟨x, hxc⟩ : ∃ x, c = x := ⟨_, rfl⟩
                rw [hWW] at S xn y0 y1 ⊢
                rw [hxc] at S xn y0 y1 HV HF ⊢
                have hxv := HV.out
                have o9 := S.2.2.2.1
                clear hWW hxc e5 e6 e7 y0 y1
                have HVn := hid hxv
                have CW := hid (specCoordinatorValid_is true (.agg #[.slice Aa x.ts.length ca, .slice Ab x.os.length cb]) x W o9.crd (cv_few hxv).1.fit ⟨fun _ => hxv, fun _ => rfl⟩)
                obtain ⟨u0, u1, -⟩ := id xn.reads
                clear hxv
                go_wp2_with fail
                refine CW.out.mono ?_
                rintro e wg ⟨rfl, dg⟩
                replace S := S.call dg
                replace xn := xn.later dg
                replace o9 := o9.below dg
                clear CW dg u0 u1
                obtain ⟨u0, u1, -⟩ := id xn.reads
                obtain ⟨y0, y1, yf⟩ := id S.2.1.reads
                have yf0 := yf 0
                have yf1 := yf 1
                have S9 := S.next o9
                clear yf xn o9 S
                go_wp2
                go_roundw
                case rel => exact ⟨k + 1, x, _, _, _, _, _, by omega, by go_num, HVn, S9.more (by push_cast; omega)⟩
                case measure => simp [intOf]; omega
            · have e6 : (d5 == 1) = false := by rw [beq_eq_false_iff_ne]; exact h1
              clear h0 h1 d50 d51
              go_wp2_with fail
              refine wp_region_held_drew (S := fun x => x.cell? ⟨g, 0, none⟩ = some (.slice Aa c.ts.length ca) ∧ x.cell? ⟨g, 1, none⟩ = some (.slice Ab c.os.length cb)) (by kernel_rfl) ⟨(S.call (Below.refl _ _).drew).2.1.reads.1, (S.call (Below.refl _ _).drew).2.1.reads.2.1⟩ (fun hHeld => ?_)
              replace S := S.call (Below.refl _ _).drew
              replace xn := xn.later (Below.refl _ _).drew
              obtain ⟨W, hW⟩ : ∃ x, w6.drew = x := ⟨_, rfl⟩
              rw [hW] at S xn hHeld ⊢
              clear hW y0 y1 e5 e6
              try simp only [Act.put, List.getElem_toArray, List.getElem_cons_succ, List.getElem_cons_zero, List.setIfInBounds_toArray, List.set_cons_zero, List.set_cons_succ]
              refine wpAnyH_take (i := 0) (oi := _) (v := ?_) rfl (by kernel_rfl) (by kernel_rfl) (by kernel_rfl) (fun _ _ _ h => h) (Or.inl ⟨by rfl, ?_⟩) hHeld ?_
              rotate_left
              · (intro w' hSw; (try dsimp only at hSw); go_simp <;> with_reducible rfl)
              try simp only [Act.put, List.getElem_toArray, List.getElem_cons_succ, List.getElem_cons_zero, List.setIfInBounds_toArray, List.set_cons_zero, List.set_cons_succ]
              refine wpAnyH_take (i := 1) (oi := _) (v := ?_) rfl (by kernel_rfl) (by kernel_rfl) (by kernel_rfl) (fun _ _ _ h => h) (Or.inl ⟨by rfl, ?_⟩) hHeld ?_
              rotate_left
              · (intro w' hSw; (try dsimp only at hSw); go_simp <;> with_reducible rfl)
              try simp only [Act.put, List.getElem_toArray, List.getElem_cons_succ, List.getElem_cons_zero, List.setIfInBounds_toArray, List.set_cons_zero, List.set_cons_succ]
              refine wpAnyH_take (i := 2) (oi := _) (v := ?_) rfl (by kernel_rfl) (by kernel_rfl) (by kernel_rfl) (fun _ _ _ h => h) (Or.inl ⟨by rfl, ?_⟩) hHeld ?_
              rotate_left
              · (intro w' hSw; (try dsimp only at hSw); go_simp <;> with_reducible rfl)
              try simp only [Act.put, List.getElem_toArray, List.getElem_cons_succ, List.getElem_cons_zero, List.setIfInBounds_toArray, List.set_cons_zero, List.set_cons_succ]
              refine wpAnyH_take (i := 4) (oi := _) (v := ?_) rfl (by kernel_rfl) (by kernel_rfl) (by kernel_rfl) (fun _ _ _ h => h) (Or.inl ⟨by rfl, ?_⟩) hHeld ?_
              rotate_left
              · (intro w' hSw; (try dsimp only at hSw); go_simp <;> with_reducible rfl)
              try simp only [Act.put, List.getElem_toArray, List.getElem_cons_succ, List.getElem_cons_zero, List.setIfInBounds_toArray, List.set_cons_zero, List.set_cons_succ]
              refine wpAnyH_ready (rs := [3]) (by kernel_rfl) (by simp) (AllReadyH.cons (o := _) rfl (fun K hK => ?_) AllReadyH.nil)
              try simp only [Act.put, List.getElem_toArray, List.getElem_cons_succ, List.getElem_cons_zero, List.setIfInBounds_toArray, List.set_cons_zero, List.set_cons_succ]
              go_simp
              go_at_call 48
              refine (pick_any R _ 3 _ S.2.2.2.2.2.1 (by omega) (by omega) (by omega)).mono ?_
              rintro e W ⟨s, rfl, s0, s1, R6, T6⟩
              replace S := S.pick R6 T6
              replace xn := xn.but_ T6 (by have := S.2.2.2.2.1; have := S.2.2.1; omega)
              clear R6 T6
              refine hK.out _ _ ⟨S.2.1.reads.1, S.2.1.reads.2.1⟩ (fun hHeld => ?_)
              clear hK K
              try simp only [Act.put, List.getElem_toArray, List.getElem_cons_succ, List.getElem_cons_zero, List.setIfInBounds_toArray, List.set_cons_zero, List.set_cons_succ]
              refine wpAnyH_ready (rs := [5]) (by kernel_rfl) (by simp) (AllReadyH.cons (o := _) rfl (fun K hK => ?_) AllReadyH.nil)
              try simp only [Act.put, List.getElem_toArray, List.getElem_cons_succ, List.getElem_cons_zero, List.setIfInBounds_toArray, List.set_cons_zero, List.set_cons_succ]
              go_simp
              go_at_call 48
              refine (pick_any R _ 6 _ S.2.2.2.2.2.1 (by omega) (by omega) (by omega)).mono ?_
              rintro e W ⟨y, rfl, yy0, yy1, R6, T6⟩
              replace S := S.pick R6 T6
              replace xn := xn.but_ T6 (by have := S.2.2.2.2.1; have := S.2.2.1; omega)
              clear R6 T6
              refine hK.out _ _ ⟨S.2.1.reads.1, S.2.1.reads.2.1⟩ (fun hHeld => ?_)
              clear hK K
              try simp only [Act.put, List.getElem_toArray, List.getElem_cons_succ, List.getElem_cons_zero, List.setIfInBounds_toArray, List.set_cons_zero, List.set_cons_succ]
              refine wpAnyH_take (i := 6) (oi := _) (v := ?_) rfl (by kernel_rfl) (by kernel_rfl) (by kernel_rfl) (fun _ _ _ h => h) (Or.inl ⟨by rfl, ?_⟩) hHeld ?_
              rotate_left
              · (intro w' hSw; (try dsimp only at hSw); go_simp <;> with_reducible rfl)
              try simp only [Act.put, List.getElem_toArray, List.getElem_cons_succ, List.getElem_cons_zero, List.setIfInBounds_toArray, List.set_cons_zero, List.set_cons_succ]
              obtain ⟨by_, hby⟩ : ∃ b, decide (0 < y) = b := ⟨_, rfl⟩
              refine wpAnyH_ready (rs := [7]) (by kernel_rfl) (by simp) (AllReadyH.cons (o := _) rfl (fun K hK => ?_) AllReadyH.nil)
              try simp only [Act.put, List.getElem_toArray, List.getElem_cons_succ, List.getElem_cons_zero, List.setIfInBounds_toArray, List.set_cons_zero, List.set_cons_succ]
              go_simp
              try rw [hby]
              go_at_call 26
              obtain ⟨x, b2, hx⟩ := counted_ex c t s by_
              refine (specCoordinatorVote_is x b2 _ c t s by_ W S.2.2.2.1.crd HF.out.fit hx).mono ?_
              rintro e W ⟨v9, col9, rfl, o9', d9⟩
              have hxv := hx.valid
              have zz := S.size
              replace S := S.call d9
              replace xn := xn.later d9
              have o9 := o9'.base zz
              obtain ⟨A9, c9, B9, e9, rfl, -⟩ := o9.form
              unfold crV at o9 ⊢
              clear hx zz d9 o9'
              refine hK.out _ _ ⟨S.2.1.reads.1, S.2.1.reads.2.1⟩ (fun hHeld => ?_)
              clear hK K
              try simp only [Act.put, List.getElem_toArray, List.getElem_cons_succ, List.getElem_cons_zero, List.setIfInBounds_toArray, List.set_cons_zero, List.set_cons_succ]
              refine wpAnyH_take (i := 8) (oi := _) (v := ?_) rfl (by kernel_rfl) (by kernel_rfl) (by kernel_rfl) (fun _ _ _ h => h) (Or.inl ⟨by rfl, ?_⟩) hHeld ?_
              rotate_left
              · (intro w' hSw; (try dsimp only at hSw); go_simp <;> with_reducible rfl)
              try simp only [Act.put, List.getElem_toArray, List.getElem_cons_succ, List.getElem_cons_zero, List.setIfInBounds_toArray, List.set_cons_zero, List.set_cons_succ]
              refine wpAnyH_take (i := 9) (oi := _) (v := ?_) rfl (by kernel_rfl) (by kernel_rfl) (by kernel_rfl) (fun _ _ _ h => h) (Or.inl ⟨by rfl, ?_⟩) hHeld ?_
              rotate_left
              · (intro w' hSw; (try dsimp only at hSw); go_simp <;> with_reducible rfl)
              try simp only [Act.put, List.getElem_toArray, List.getElem_cons_succ, List.getElem_cons_zero, List.setIfInBounds_toArray, List.set_cons_zero, List.set_cons_succ]
              refine wpAnyH_take (i := 10) (oi := _) (v := ?_) rfl (by kernel_rfl) (by kernel_rfl) (by kernel_rfl) (fun _ _ _ h => h) (Or.inl ⟨by rfl, ?_⟩) hHeld ?_
              rotate_left
              · (intro w' hSw; (try dsimp only at hSw); go_simp <;> with_reducible rfl)
              try simp only [Act.put, List.getElem_toArray, List.getElem_cons_succ, List.getElem_cons_zero, List.setIfInBounds_toArray, List.set_cons_zero, List.set_cons_succ]
              obtain ⟨z0, z1, zff⟩ := id xn.reads
              have zf0 := zff 0
              have zf1 := zff 1
              have S9 := (S.stored xn hgn 0 (.slice A9 x.ts.length c9)).stored (xn.set0 (.slice A9 x.ts.length c9)) hgn 1 (.slice B9 x.os.length e9)
              have o8 := (o9.keptT (by decide) (by decide) (by decide) (by decide) (but_set W gn 0 (.slice A9 x.ts.length c9)) (blk_type xn)).keptT (by decide) (by decide) (by decide) (by decide) (but_set _ gn 1 (.slice B9 x.os.length e9)) (blk_type (xn.set0 (.slice A9 x.ts.length c9)))
              have x8 := (xn.set0 (.slice A9 x.ts.length c9)).set1 (.slice B9 x.os.length e9)
              clear zff
              refine wpAnyH_ready (rs := [11]) (by kernel_rfl) (by simp) (AllReadyH.cons (o := _) rfl (fun K hK => ?_) AllReadyH.nil)
              try simp only [Act.put, List.getElem_toArray, List.getElem_cons_succ, List.getElem_cons_zero, List.setIfInBounds_toArray, List.set_cons_zero, List.set_cons_succ]
              go_simp
              refine hK.out _ _ ⟨S9.2.1.reads.1, S9.2.1.reads.2.1⟩ (fun hHeld => ?_)
              clear hK K
              try simp only [Act.put, List.getElem_toArray, List.getElem_cons_succ, List.getElem_cons_zero, List.setIfInBounds_toArray, List.set_cons_zero, List.set_cons_succ]
              refine wpAnyH_done (by kernel_rfl) ?_ _
              clear S xn o9 z0 z1 zf0 zf1 hHeld
              obtain ⟨W, hWW⟩ : ∃ wz, (W.setCell ⟨gn, 0, none⟩ (.slice A9 x.ts.length c9)).setCell ⟨gn, 1, none⟩ (.slice B9 x.os.length e9) = wz := ⟨_, rfl⟩
              rw [hWW] at S9 o8 x8 ⊢
              have S := S9
              have o9 := o8
              have xn := x8
              clear S9 o8 x8 hWW
              have HVn := hid hxv
              have CW := hid (specCoordinatorValid_is true (.agg #[.slice A9 x.ts.length c9, .slice B9 x.os.length e9]) x W o9.crd (cv_few hxv).1.fit ⟨fun _ => hxv, fun _ => rfl⟩)
              obtain ⟨u0, u1, -⟩ := id xn.reads
              clear hxv
              go_wp2_with fail
              refine CW.out.mono ?_
              rintro e wg ⟨rfl, dg⟩
              replace S := S.call dg
              replace xn := xn.later dg
              replace o9 := o9.below dg
              clear CW dg u0 u1
              obtain ⟨u0, u1, -⟩ := id xn.reads
              obtain ⟨y0, y1, yf⟩ := id S.2.1.reads
              have yf0 := yf 0
              have yf1 := yf 1
              have S9 := S.next o9
              clear yf xn o9 S
              go_wp2
              go_roundw
              case rel => exact ⟨k + 1, x, _, _, _, _, _, by omega, by go_num, HVn, S9.more (by push_cast; omega)⟩
              case measure => simp [intOf]; omega
        · go_wp2_with fail
          refine (pick_any R _ 1 _ S.2.2.2.2.2.1 (by omega) (by omega) (by omega)).mono ?_
          rintro e w5 ⟨t, rfl, t0, t1, R5, T5⟩
          replace S := S.pick R5 T5
          replace xn := xn.but_ T5 (by have := S.2.2.2.2.1; have := S.2.2.1; omega)
          clear R5 T5 y0 y1
          obtain ⟨y0, y1, -⟩ := id S.2.1.reads
          clear hmx o9
          go_wp2_with fail
          refine (pick_any R _ 5 _ S.2.2.2.2.2.1 (by omega) (by omega) (by omega)).mono ?_
          rintro e w6 ⟨d5, rfl, d50, d51, R5, T5⟩
          replace S := S.pick R5 T5
          replace xn := xn.but_ T5 (by have := S.2.2.2.2.1; have := S.2.2.1; omega)
          clear R5 T5 y0 y1
          obtain ⟨y0, y1, -⟩ := id S.2.1.reads
          by_cases h0 : d5 = 0
          · have e5 : (d5 == 0) = true := by rw [h0]; rfl
            clear h0 d50 d51
            go_wp2_with fail
            refine wp_region_held_drew (S := fun x => x.cell? ⟨g, 0, none⟩ = some (.slice Aa c.ts.length ca) ∧ x.cell? ⟨g, 1, none⟩ = some (.slice Ab c.os.length cb)) (by kernel_rfl) ⟨(S.call (Below.refl _ _).drew).2.1.reads.1, (S.call (Below.refl _ _).drew).2.1.reads.2.1⟩ (fun hHeld => ?_)
            replace S := S.call (Below.refl _ _).drew
            replace xn := xn.later (Below.refl _ _).drew
            obtain ⟨W, hW⟩ : ∃ x, w6.drew = x := ⟨_, rfl⟩
            rw [hW] at S xn hHeld ⊢
            clear hW y0 y1 e5
            try simp only [Act.put, List.getElem_toArray, List.getElem_cons_succ, List.getElem_cons_zero, List.setIfInBounds_toArray, List.set_cons_zero, List.set_cons_succ]
            refine wpAnyH_take (i := 0) (oi := _) (v := ?_) rfl (by kernel_rfl) (by kernel_rfl) (by kernel_rfl) (fun _ _ _ h => h) (Or.inl ⟨by rfl, ?_⟩) hHeld ?_
            rotate_left
            · (intro w' hSw; (try dsimp only at hSw); go_simp <;> with_reducible rfl)
            try simp only [Act.put, List.getElem_toArray, List.getElem_cons_succ, List.getElem_cons_zero, List.setIfInBounds_toArray, List.set_cons_zero, List.set_cons_succ]
            refine wpAnyH_take (i := 1) (oi := _) (v := ?_) rfl (by kernel_rfl) (by kernel_rfl) (by kernel_rfl) (fun _ _ _ h => h) (Or.inl ⟨by rfl, ?_⟩) hHeld ?_
            rotate_left
            · (intro w' hSw; (try dsimp only at hSw); go_simp <;> with_reducible rfl)
            try simp only [Act.put, List.getElem_toArray, List.getElem_cons_succ, List.getElem_cons_zero, List.setIfInBounds_toArray, List.set_cons_zero, List.set_cons_succ]
            refine wpAnyH_ready (rs := [2]) (by kernel_rfl) (by simp) (AllReadyH.cons (o := _) rfl (fun K hK => ?_) AllReadyH.nil)
            try simp only [Act.put, List.getElem_toArray, List.getElem_cons_succ, List.getElem_cons_zero, List.setIfInBounds_toArray, List.set_cons_zero, List.set_cons_succ]
            go_simp
            go_at_call 69
            refine (l92Parts_any R _ W S.2.2.2.2.2.1 (by omega)).mono ?_
            rintro e W ⟨vp, ps, rfl, op, hpl, hsm, R6, T6⟩
            replace S := S.pick R6 T6
            replace xn := xn.but_ T6 (by have := S.2.2.2.2.1; have := S.2.2.1; omega)
            obtain ⟨Ap, cp, rfl, rp, -⟩ := op.form
            have HSM := hid hsm
            clear R6 T6 op hsm
            refine hK.out _ _ ⟨S.2.1.reads.1, S.2.1.reads.2.1⟩ (fun hHeld => ?_)
            clear hK K
            try simp only [Act.put, List.getElem_toArray, List.getElem_cons_succ, List.getElem_cons_zero, List.setIfInBounds_toArray, List.set_cons_zero, List.set_cons_succ]
            refine wpAnyH_ready (rs := [3]) (by kernel_rfl) (by simp) (AllReadyH.cons (o := _) rfl (fun K hK => ?_) AllReadyH.nil)
            try simp only [Act.put, List.getElem_toArray, List.getElem_cons_succ, List.getElem_cons_zero, List.setIfInBounds_toArray, List.set_cons_zero, List.set_cons_succ]
            go_simp
            go_at_call 30
            obtain ⟨x, b2, hx⟩ := begun_ex c ps
            refine (specCoordinatorBegin_is x b2 _ c Ap cp ps W S.2.2.2.1.crd HF.out.fit rp (by omega) (fun p hp => by have := HSM.out p hp; omega) hx).mono ?_
            rintro e W ⟨v9, col9, rfl, o9', d9⟩
            have hxv := hx.valid
            have zz := S.size
            replace S := S.call d9
            replace xn := xn.later d9
            have o9 := o9'.base zz
            obtain ⟨A9, c9, B9, e9, rfl, -⟩ := o9.form
            unfold crV at o9 ⊢
            clear hx zz d9 o9'
            refine hK.out _ _ ⟨S.2.1.reads.1, S.2.1.reads.2.1⟩ (fun hHeld => ?_)
            clear hK K
            try simp only [Act.put, List.getElem_toArray, List.getElem_cons_succ, List.getElem_cons_zero, List.setIfInBounds_toArray, List.set_cons_zero, List.set_cons_succ]
            refine wpAnyH_take (i := 4) (oi := _) (v := ?_) rfl (by kernel_rfl) (by kernel_rfl) (by kernel_rfl) (fun _ _ _ h => h) (Or.inl ⟨by rfl, ?_⟩) hHeld ?_
            rotate_left
            · (intro w' hSw; (try dsimp only at hSw); go_simp <;> with_reducible rfl)
            try simp only [Act.put, List.getElem_toArray, List.getElem_cons_succ, List.getElem_cons_zero, List.setIfInBounds_toArray, List.set_cons_zero, List.set_cons_succ]
            refine wpAnyH_take (i := 5) (oi := _) (v := ?_) rfl (by kernel_rfl) (by kernel_rfl) (by kernel_rfl) (fun _ _ _ h => h) (Or.inl ⟨by rfl, ?_⟩) hHeld ?_
            rotate_left
            · (intro w' hSw; (try dsimp only at hSw); go_simp <;> with_reducible rfl)
            try simp only [Act.put, List.getElem_toArray, List.getElem_cons_succ, List.getElem_cons_zero, List.setIfInBounds_toArray, List.set_cons_zero, List.set_cons_succ]
            refine wpAnyH_take (i := 6) (oi := _) (v := ?_) rfl (by kernel_rfl) (by kernel_rfl) (by kernel_rfl) (fun _ _ _ h => h) (Or.inl ⟨by rfl, ?_⟩) hHeld ?_
            rotate_left
            · (intro w' hSw; (try dsimp only at hSw); go_simp <;> with_reducible rfl)
            try simp only [Act.put, List.getElem_toArray, List.getElem_cons_succ, List.getElem_cons_zero, List.setIfInBounds_toArray, List.set_cons_zero, List.set_cons_succ]
            obtain ⟨z0, z1, zff⟩ := id xn.reads
            have zf0 := zff 0
            have zf1 := zff 1
            have S9 := (S.stored xn hgn 0 (.slice A9 x.ts.length c9)).stored (xn.set0 (.slice A9 x.ts.length c9)) hgn 1 (.slice B9 x.os.length e9)
            have o8 := (o9.keptT (by decide) (by decide) (by decide) (by decide) (but_set W gn 0 (.slice A9 x.ts.length c9)) (blk_type xn)).keptT (by decide) (by decide) (by decide) (by decide) (but_set _ gn 1 (.slice B9 x.os.length e9)) (blk_type (xn.set0 (.slice A9 x.ts.length c9)))
            have x8 := (xn.set0 (.slice A9 x.ts.length c9)).set1 (.slice B9 x.os.length e9)
            clear zff
            refine wpAnyH_ready (rs := [7]) (by kernel_rfl) (by simp) (AllReadyH.cons (o := _) rfl (fun K hK => ?_) AllReadyH.nil)
            try simp only [Act.put, List.getElem_toArray, List.getElem_cons_succ, List.getElem_cons_zero, List.setIfInBounds_toArray, List.set_cons_zero, List.set_cons_succ]
            go_simp
            refine hK.out _ _ ⟨S9.2.1.reads.1, S9.2.1.reads.2.1⟩ (fun hHeld => ?_)
            clear hK K
            try simp only [Act.put, List.getElem_toArray, List.getElem_cons_succ, List.getElem_cons_zero, List.setIfInBounds_toArray, List.set_cons_zero, List.set_cons_succ]
            refine wpAnyH_done (by kernel_rfl) ?_ _
            clear S xn o9 z0 z1 zf0 zf1 hHeld
            obtain ⟨W, hWW⟩ : ∃ wz, (W.setCell ⟨gn, 0, none⟩ (.slice A9 x.ts.length c9)).setCell ⟨gn, 1, none⟩ (.slice B9 x.os.length e9) = wz := ⟨_, rfl⟩
            rw [hWW] at S9 o8 x8 ⊢
            have S := S9
            have o9 := o8
            have xn := x8
            clear S9 o8 x8 hWW
            have HVn := hid hxv
            have CW := hid (specCoordinatorValid_is true (.agg #[.slice A9 x.ts.length c9, .slice B9 x.os.length e9]) x W o9.crd (cv_few hxv).1.fit ⟨fun _ => hxv, fun _ => rfl⟩)
            obtain ⟨u0, u1, -⟩ := id xn.reads
            clear hxv
            go_wp2_with fail
            refine CW.out.mono ?_
            rintro e wg ⟨rfl, dg⟩
            replace S := S.call dg
            replace xn := xn.later dg
            replace o9 := o9.below dg
            clear CW dg u0 u1
            obtain ⟨u0, u1, -⟩ := id xn.reads
            obtain ⟨y0, y1, yf⟩ := id S.2.1.reads
            have yf0 := yf 0
            have yf1 := yf 1
            have S9 := S.next o9
            clear yf xn o9 S
            go_wp2
            go_roundw
            case rel => exact ⟨k + 1, x, _, _, _, _, _, by omega, by go_num, HVn, S9.more (by push_cast; omega)⟩
            case measure => simp [intOf]; omega
          · have e5 : (d5 == 0) = false := by rw [beq_eq_false_iff_ne]; exact h0
            by_cases h1 : d5 = 1
            · have e6 : (d5 == 1) = true := by rw [h1]; rfl
              clear h0 h1 d50 d51
              go_wp2_with fail
              refine (pick_any R _ 3 _ S.2.2.2.2.2.1 (by omega) (by omega) (by omega)).mono ?_
              rintro e w7 ⟨d6, rfl, d60, d61, R5, T5⟩
              replace S := S.pick R5 T5
              replace xn := xn.but_ T5 (by have := S.2.2.2.2.1; have := S.2.2.1; omega)
              clear R5 T5 y0 y1
              obtain ⟨y0, y1, -⟩ := id S.2.1.reads
              by_cases h3 : d6 = 0
              · have e7 : (d6 == 0) = true := by rw [h3]; rfl
                clear h3 d60 d61
                obtain ⟨x, b2, hx⟩ := late_ex c t
                have CT := hid (specCoordinatorTimeout_is x b2 _ c t w7 S.2.2.2.1.crd HF.out.fit hx)
                go_wp2_with fail
                refine CT.out.mono ?_
                rintro e W ⟨v9, col9, rfl, o9', d9⟩
                have hxv := hx.valid
                have zz := S.size
                replace S := S.call d9
                replace xn := xn.later d9
                have o9 := o9'.base zz
                obtain ⟨A9, c9, B9, e9, rfl, -⟩ := o9.form
                unfold crV at o9 ⊢
                clear CT hx zz d9 o9' y0 y1 e5 e6 e7
                obtain ⟨z0, z1, zff⟩ := id xn.reads
                have zf0 := zff 0
                have zf1 := zff 1
                have S9 := (S.stored xn hgn 0 (.slice A9 x.ts.length c9)).stored (xn.set0 (.slice A9 x.ts.length c9)) hgn 1 (.slice B9 x.os.length e9)
                have o8 := (o9.keptT (by decide) (by decide) (by decide) (by decide) (but_set W gn 0 (.slice A9 x.ts.length c9)) (blk_type xn)).keptT (by decide) (by decide) (by decide) (by decide) (but_set _ gn 1 (.slice B9 x.os.length e9)) (blk_type (xn.set0 (.slice A9 x.ts.length c9)))
                have x8 := (xn.set0 (.slice A9 x.ts.length c9)).set1 (.slice B9 x.os.length e9)
                clear zff
                go_upto_region 17 with fail
                clear S xn o9 z0 z1 zf0 zf1
                obtain ⟨W, hWW⟩ : ∃ wz, (W.setCell ⟨gn, 0, none⟩ (.slice A9 x.ts.length c9)).setCell ⟨gn, 1, none⟩ (.slice B9 x.os.length e9) = wz := ⟨_, rfl⟩
                rw [hWW] at S9 o8 x8 ⊢
                have S := S9
                have o9 := o8
                have xn := x8
                clear S9 o8 x8 hWW
                have HVn := hid hxv
                have CW := hid (specCoordinatorValid_is true (.agg #[.slice A9 x.ts.length c9, .slice B9 x.os.length e9]) x W o9.crd (cv_few hxv).1.fit ⟨fun _ => hxv, fun _ => rfl⟩)
                obtain ⟨u0, u1, -⟩ := id xn.reads
                clear hxv
                go_wp2_with fail
                refine CW.out.mono ?_
                rintro e wg ⟨rfl, dg⟩
                replace S := S.call dg
                replace xn := xn.later dg
                replace o9 := o9.below dg
                clear CW dg u0 u1
                obtain ⟨u0, u1, -⟩ := id xn.reads
                obtain ⟨y0, y1, yf⟩ := id S.2.1.reads
                have yf0 := yf 0
                have yf1 := yf 1
                have S9 := S.next o9
                clear yf xn o9 S
                go_wp2
                go_roundw
                case rel => exact ⟨k + 1, x, _, _, _, _, _, by omega, by go_num, HVn, S9.more (by push_cast; omega)⟩
                case measure => simp [intOf]; omega
              · have e7 : (d6 == 0) = false := by rw [beq_eq_false_iff_ne]; exact h3
                clear h3 d60 d61
                go_upto_region 17 with fail
                obtain ⟨W, hWW⟩ : ∃ wz, w7 = wz := ⟨_, rfl⟩
                obtain ⟨x, hxc⟩ : ∃ x, c = x := ⟨_, rfl⟩
                rw [hWW] at S xn y0 y1 ⊢
                rw [hxc] at S xn y0 y1 HV HF ⊢
                have hxv := HV.out
                have o9 := S.2.2.2.1
                clear hWW hxc e5 e6 e7 y0 y1
                have HVn := hid hxv
                have CW := hid (specCoordinatorValid_is true (.agg #[.slice Aa x.ts.length ca, .slice Ab x.os.length cb]) x W o9.crd (cv_few hxv).1.fit ⟨fun _ => hxv, fun _ => rfl⟩)
                obtain ⟨u0, u1, -⟩ := id xn.reads
                clear hxv
                go_wp2_with fail
                refine CW.out.mono ?_
                rintro e wg ⟨rfl, dg⟩
                replace S := S.call dg
                replace xn := xn.later dg
                replace o9 := o9.below dg
                clear CW dg u0 u1
                obtain ⟨u0, u1, -⟩ := id xn.reads
                obtain ⟨y0, y1, yf⟩ := id S.2.1.reads
                have yf0 := yf 0
                have yf1 := yf 1
                have S9 := S.next o9
                clear yf xn o9 S
                go_wp2
                go_roundw
                case rel => exact ⟨k + 1, x, _, _, _, _, _, by omega, by go_num, HVn, S9.more (by push_cast; omega)⟩
                case measure => simp [intOf]; omega
            · have e6 : (d5 == 1) = false := by rw [beq_eq_false_iff_ne]; exact h1
              clear h0 h1 d50 d51
              go_wp2_with fail
              refine wp_region_held_drew (S := fun x => x.cell? ⟨g, 0, none⟩ = some (.slice Aa c.ts.length ca) ∧ x.cell? ⟨g, 1, none⟩ = some (.slice Ab c.os.length cb)) (by kernel_rfl) ⟨(S.call (Below.refl _ _).drew).2.1.reads.1, (S.call (Below.refl _ _).drew).2.1.reads.2.1⟩ (fun hHeld => ?_)
              replace S := S.call (Below.refl _ _).drew
              replace xn := xn.later (Below.refl _ _).drew
              obtain ⟨W, hW⟩ : ∃ x, w6.drew = x := ⟨_, rfl⟩
              rw [hW] at S xn hHeld ⊢
              clear hW y0 y1 e5 e6
              try simp only [Act.put, List.getElem_toArray, List.getElem_cons_succ, List.getElem_cons_zero, List.setIfInBounds_toArray, List.set_cons_zero, List.set_cons_succ]
              refine wpAnyH_take (i := 0) (oi := _) (v := ?_) rfl (by kernel_rfl) (by kernel_rfl) (by kernel_rfl) (fun _ _ _ h => h) (Or.inl ⟨by rfl, ?_⟩) hHeld ?_
              rotate_left
              · (intro w' hSw; (try dsimp only at hSw); go_simp <;> with_reducible rfl)
              try simp only [Act.put, List.getElem_toArray, List.getElem_cons_succ, List.getElem_cons_zero, List.setIfInBounds_toArray, List.set_cons_zero, List.set_cons_succ]
              refine wpAnyH_take (i := 1) (oi := _) (v := ?_) rfl (by kernel_rfl) (by kernel_rfl) (by kernel_rfl) (fun _ _ _ h => h) (Or.inl ⟨by rfl, ?_⟩) hHeld ?_
              rotate_left
              · (intro w' hSw; (try dsimp only at hSw); go_simp <;> with_reducible rfl)
              try simp only [Act.put, List.getElem_toArray, List.getElem_cons_succ, List.getElem_cons_zero, List.setIfInBounds_toArray, List.set_cons_zero, List.set_cons_succ]
              refine wpAnyH_take (i := 2) (oi := _) (v := ?_) rfl (by kernel_rfl) (by kernel_rfl) (by kernel_rfl) (fun _ _ _ h => h) (Or.inl ⟨by rfl, ?_⟩) hHeld ?_
              rotate_left
              · (intro w' hSw; (try dsimp only at hSw); go_simp <;> with_reducible rfl)
              try simp only [Act.put, List.getElem_toArray, List.getElem_cons_succ, List.getElem_cons_zero, List.setIfInBounds_toArray, List.set_cons_zero, List.set_cons_succ]
              refine wpAnyH_take (i := 4) (oi := _) (v := ?_) rfl (by kernel_rfl) (by kernel_rfl) (by kernel_rfl) (fun _ _ _ h => h) (Or.inl ⟨by rfl, ?_⟩) hHeld ?_
              rotate_left
              · (intro w' hSw; (try dsimp only at hSw); go_simp <;> with_reducible rfl)
              try simp only [Act.put, List.getElem_toArray, List.getElem_cons_succ, List.getElem_cons_zero, List.setIfInBounds_toArray, List.set_cons_zero, List.set_cons_succ]
              refine wpAnyH_ready (rs := [3]) (by kernel_rfl) (by simp) (AllReadyH.cons (o := _) rfl (fun K hK => ?_) AllReadyH.nil)
              try simp only [Act.put, List.getElem_toArray, List.getElem_cons_succ, List.getElem_cons_zero, List.setIfInBounds_toArray, List.set_cons_zero, List.set_cons_succ]
              go_simp
              go_at_call 48
              refine (pick_any R _ 3 _ S.2.2.2.2.2.1 (by omega) (by omega) (by omega)).mono ?_
              rintro e W ⟨s, rfl, s0, s1, R6, T6⟩
              replace S := S.pick R6 T6
              replace xn := xn.but_ T6 (by have := S.2.2.2.2.1; have := S.2.2.1; omega)
              clear R6 T6
              refine hK.out _ _ ⟨S.2.1.reads.1, S.2.1.reads.2.1⟩ (fun hHeld => ?_)
              clear hK K
              try simp only [Act.put, List.getElem_toArray, List.getElem_cons_succ, List.getElem_cons_zero, List.setIfInBounds_toArray, List.set_cons_zero, List.set_cons_succ]
              refine wpAnyH_ready (rs := [5]) (by kernel_rfl) (by simp) (AllReadyH.cons (o := _) rfl (fun K hK => ?_) AllReadyH.nil)
              try simp only [Act.put, List.getElem_toArray, List.getElem_cons_succ, List.getElem_cons_zero, List.setIfInBounds_toArray, List.set_cons_zero, List.set_cons_succ]
              go_simp
              go_at_call 48
              refine (pick_any R _ 6 _ S.2.2.2.2.2.1 (by omega) (by omega) (by omega)).mono ?_
              rintro e W ⟨y, rfl, yy0, yy1, R6, T6⟩
              replace S := S.pick R6 T6
              replace xn := xn.but_ T6 (by have := S.2.2.2.2.1; have := S.2.2.1; omega)
              clear R6 T6
              refine hK.out _ _ ⟨S.2.1.reads.1, S.2.1.reads.2.1⟩ (fun hHeld => ?_)
              clear hK K
              try simp only [Act.put, List.getElem_toArray, List.getElem_cons_succ, List.getElem_cons_zero, List.setIfInBounds_toArray, List.set_cons_zero, List.set_cons_succ]
              refine wpAnyH_take (i := 6) (oi := _) (v := ?_) rfl (by kernel_rfl) (by kernel_rfl) (by kernel_rfl) (fun _ _ _ h => h) (Or.inl ⟨by rfl, ?_⟩) hHeld ?_
              rotate_left
              · (intro w' hSw; (try dsimp only at hSw); go_simp <;> with_reducible rfl)
              try simp only [Act.put, List.getElem_toArray, List.getElem_cons_succ, List.getElem_cons_zero, List.setIfInBounds_toArray, List.set_cons_zero, List.set_cons_succ]
              obtain ⟨by_, hby⟩ : ∃ b, decide (0 < y) = b := ⟨_, rfl⟩
              refine wpAnyH_ready (rs := [7]) (by kernel_rfl) (by simp) (AllReadyH.cons (o := _) rfl (fun K hK => ?_) AllReadyH.nil)
              try simp only [Act.put, List.getElem_toArray, List.getElem_cons_succ, List.getElem_cons_zero, List.setIfInBounds_toArray, List.set_cons_zero, List.set_cons_succ]
              go_simp
              try rw [hby]
              go_at_call 26
              obtain ⟨x, b2, hx⟩ := counted_ex c t s by_
              refine (specCoordinatorVote_is x b2 _ c t s by_ W S.2.2.2.1.crd HF.out.fit hx).mono ?_
              rintro e W ⟨v9, col9, rfl, o9', d9⟩
              have hxv := hx.valid
              have zz := S.size
              replace S := S.call d9
              replace xn := xn.later d9
              have o9 := o9'.base zz
              obtain ⟨A9, c9, B9, e9, rfl, -⟩ := o9.form
              unfold crV at o9 ⊢
              clear hx zz d9 o9'
              refine hK.out _ _ ⟨S.2.1.reads.1, S.2.1.reads.2.1⟩ (fun hHeld => ?_)
              clear hK K
              try simp only [Act.put, List.getElem_toArray, List.getElem_cons_succ, List.getElem_cons_zero, List.setIfInBounds_toArray, List.set_cons_zero, List.set_cons_succ]
              refine wpAnyH_take (i := 8) (oi := _) (v := ?_) rfl (by kernel_rfl) (by kernel_rfl) (by kernel_rfl) (fun _ _ _ h => h) (Or.inl ⟨by rfl, ?_⟩) hHeld ?_
              rotate_left
              · (intro w' hSw; (try dsimp only at hSw); go_simp <;> with_reducible rfl)
              try simp only [Act.put, List.getElem_toArray, List.getElem_cons_succ, List.getElem_cons_zero, List.setIfInBounds_toArray, List.set_cons_zero, List.set_cons_succ]
              refine wpAnyH_take (i := 9) (oi := _) (v := ?_) rfl (by kernel_rfl) (by kernel_rfl) (by kernel_rfl) (fun _ _ _ h => h) (Or.inl ⟨by rfl, ?_⟩) hHeld ?_
              rotate_left
              · (intro w' hSw; (try dsimp only at hSw); go_simp <;> with_reducible rfl)
              try simp only [Act.put, List.getElem_toArray, List.getElem_cons_succ, List.getElem_cons_zero, List.setIfInBounds_toArray, List.set_cons_zero, List.set_cons_succ]
              refine wpAnyH_take (i := 10) (oi := _) (v := ?_) rfl (by kernel_rfl) (by kernel_rfl) (by kernel_rfl) (fun _ _ _ h => h) (Or.inl ⟨by rfl, ?_⟩) hHeld ?_
              rotate_left
              · (intro w' hSw; (try dsimp only at hSw); go_simp <;> with_reducible rfl)
              try simp only [Act.put, List.getElem_toArray, List.getElem_cons_succ, List.getElem_cons_zero, List.setIfInBounds_toArray, List.set_cons_zero, List.set_cons_succ]
              obtain ⟨z0, z1, zff⟩ := id xn.reads
              have zf0 := zff 0
              have zf1 := zff 1
              have S9 := (S.stored xn hgn 0 (.slice A9 x.ts.length c9)).stored (xn.set0 (.slice A9 x.ts.length c9)) hgn 1 (.slice B9 x.os.length e9)
              have o8 := (o9.keptT (by decide) (by decide) (by decide) (by decide) (but_set W gn 0 (.slice A9 x.ts.length c9)) (blk_type xn)).keptT (by decide) (by decide) (by decide) (by decide) (but_set _ gn 1 (.slice B9 x.os.length e9)) (blk_type (xn.set0 (.slice A9 x.ts.length c9)))
              have x8 := (xn.set0 (.slice A9 x.ts.length c9)).set1 (.slice B9 x.os.length e9)
              clear zff
              refine wpAnyH_ready (rs := [11]) (by kernel_rfl) (by simp) (AllReadyH.cons (o := _) rfl (fun K hK => ?_) AllReadyH.nil)
              try simp only [Act.put, List.getElem_toArray, List.getElem_cons_succ, List.getElem_cons_zero, List.setIfInBounds_toArray, List.set_cons_zero, List.set_cons_succ]
              go_simp
              refine hK.out _ _ ⟨S9.2.1.reads.1, S9.2.1.reads.2.1⟩ (fun hHeld => ?_)
              clear hK K
              try simp only [Act.put, List.getElem_toArray, List.getElem_cons_succ, List.getElem_cons_zero, List.setIfInBounds_toArray, List.set_cons_zero, List.set_cons_succ]
              refine wpAnyH_done (by kernel_rfl) ?_ _
              clear S xn o9 z0 z1 zf0 zf1 hHeld
              obtain ⟨W, hWW⟩ : ∃ wz, (W.setCell ⟨gn, 0, none⟩ (.slice A9 x.ts.length c9)).setCell ⟨gn, 1, none⟩ (.slice B9 x.os.length e9) = wz := ⟨_, rfl⟩
              rw [hWW] at S9 o8 x8 ⊢
              have S := S9
              have o9 := o8
              have xn := x8
              clear S9 o8 x8 hWW
              have HVn := hid hxv
              have CW := hid (specCoordinatorValid_is true (.agg #[.slice A9 x.ts.length c9, .slice B9 x.os.length e9]) x W o9.crd (cv_few hxv).1.fit ⟨fun _ => hxv, fun _ => rfl⟩)
              obtain ⟨u0, u1, -⟩ := id xn.reads
              clear hxv
              go_wp2_with fail
              refine CW.out.mono ?_
              rintro e wg ⟨rfl, dg⟩
              replace S := S.call dg
              replace xn := xn.later dg
              replace o9 := o9.below dg
              clear CW dg u0 u1
              obtain ⟨u0, u1, -⟩ := id xn.reads
              obtain ⟨y0, y1, yf⟩ := id S.2.1.reads
              have yf0 := yf 0
              have yf1 := yf 1
              have S9 := S.next o9
              clear yf xn o9 S
              go_wp2
              go_roundw
              case rel => exact ⟨k + 1, x, _, _, _, _, _, by omega, by go_num, HVn, S9.more (by push_cast; omega)⟩
              case measure => simp [intOf]; omega
      · have e1 : decide ((k : Int) < 50) = false := decide_eq_false hlt
        clear hlt
        by_cases hc0 : c.ts.length = 0
        · have e2 : ((c.ts.length : Int) == 0) = true := by rw [beq_iff_eq]; omega
          have HSM := HF
          clear hc0 y0 y1
          obtain ⟨W, hW⟩ : ∃ x, wr = x := ⟨_, rfl⟩
          rw [hW] at S ⊢
          clear hW hf
          obtain ⟨y0, y1, -⟩ := id S.2.1.reads
          clear y0 y1
          obtain ⟨t0, t1, tf⟩ := id S.1.reads
          have tf0 := tf 0
          have tf1 := tf 1
          obtain ⟨u0, u1, -⟩ := id S.2.1.reads
          have o10 := (S.2.2.2.1.keptT (by decide) (by decide) (by decide) (by decide) (but_set W w.heap.size 0 (.slice Aa c.ts.length ca)) (blk_type S.1)).keptT (by decide) (by decide) (by decide) (by decide) (but_set _ w.heap.size 1 (.slice Ab c.os.length cb)) (blk_type (S.1.set0 (.slice Aa c.ts.length ca)))
          have R10 := (S.2.2.2.2.2.1.far S.2.2.2.2.1 0 (.slice Aa c.ts.length ca)).far S.2.2.2.2.1 1 (.slice Ab c.os.length cb)
          have T10 := (S.2.2.2.2.2.2.set_new (Nat.le_refl w.heap.size) 0 (.slice Aa c.ts.length ca)).set_new (Nat.le_refl w.heap.size) 1 (.slice Ab c.os.length cb)
          obtain ⟨p0, p1, -⟩ := ((S.1.set0 (.slice Aa c.ts.length ca)).set1 (.slice Ab c.os.length cb)).reads
          clear tf S
          go_wp2
          exact bodyPost_ret (v := .agg #[.slice Aa c.ts.length ca, .slice Ab c.os.length cb]) (by simp [results, Try.results47, go_sem, p0, p1]) rfl ⟨_, c, _, rfl, o10, HSM.out, R10.more (by push_cast; omega), T10⟩
        · have e2 : ((c.ts.length : Int) == 0) = false := by rw [beq_eq_false_iff_ne]; omega
          clear hf
          go_wp2_with fail
          refine (pick_any R _ (c.ts.length : Int) _ S.2.2.2.2.2.1 (by omega) (by omega) (by omega)).mono ?_
          rintro e w5 ⟨t, rfl, t0, t1, R5, T5⟩
          replace S := S.pick R5 T5
          clear R5 T5 y0 y1 e1 e2
          obtain ⟨y0, y1, -⟩ := id S.2.1.reads
          obtain ⟨n, rfl⟩ := Int.eq_ofNat_of_zero_le t0
          have hn : n < c.ts.length := by omega
          clear hc0
          go_wp2_with fail
          refine (pick_any R _ 20 _ S.2.2.2.2.2.1 (by omega) (by omega) (by omega)).mono ?_
          rintro e w6 ⟨d5, rfl, d50, d51, R5, T5⟩
          replace S := S.pick R5 T5
          clear R5 T5 y0 y1
          obtain ⟨y0, y1, yf⟩ := id S.2.1.reads
          have hps := HF.out.ps _ (List.getElem_mem hn)
          have hus := HF.out.us _ (List.getElem_mem hn)
          obtain ⟨gT, rfl, -⟩ := cr_head S.2.2.2.1 hn
          by_cases h0 : d5 = 0
          · have e5 : (d5 == 0) = true := by rw [h0]; rfl
            clear h0 d50 d51 yf
            go_wp2_with fail
            refine wp_region_held_drew (S := fun x => x.cell? ⟨g, 0, none⟩ = some (.slice (some ⟨gT, 0, none⟩) c.ts.length ca) ∧ x.cell? ⟨g, 1, none⟩ = some (.slice Ab c.os.length cb)) (by kernel_rfl) ⟨(S.call (Below.refl _ _).drew).2.1.reads.1, (S.call (Below.refl _ _).drew).2.1.reads.2.1⟩ (fun hHeld => ?_)
            replace S := S.call (Below.refl _ _).drew
            obtain ⟨W, hW⟩ : ∃ x, w6.drew = x := ⟨_, rfl⟩
            rw [hW] at S hHeld ⊢
            clear hW y0 y1 e5
            try simp only [Act.put, List.getElem_toArray, List.getElem_cons_succ, List.getElem_cons_zero, List.setIfInBounds_toArray, List.set_cons_zero, List.set_cons_succ]
            refine wpAnyH_take (i := 0) (oi := _) (v := ?_) rfl (by kernel_rfl) (by kernel_rfl) (by kernel_rfl) (fun _ _ _ h => h) (Or.inl ⟨by rfl, ?_⟩) hHeld ?_
            rotate_left
            · (intro w' hSw; (try dsimp only at hSw); go_simp <;> with_reducible rfl)
            try simp only [Act.put, List.getElem_toArray, List.getElem_cons_succ, List.getElem_cons_zero, List.setIfInBounds_toArray, List.set_cons_zero, List.set_cons_succ]
            refine wpAnyH_take (i := 1) (oi := _) (v := ?_) rfl (by kernel_rfl) (by kernel_rfl) (by kernel_rfl) (fun _ _ _ h => h) (Or.inl ⟨by rfl, ?_⟩) hHeld ?_
            rotate_left
            · (intro w' hSw; (try dsimp only at hSw); go_simp <;> with_reducible rfl)
            try simp only [Act.put, List.getElem_toArray, List.getElem_cons_succ, List.getElem_cons_zero, List.setIfInBounds_toArray, List.set_cons_zero, List.set_cons_succ]
            refine wpAnyH_take (i := 2) (oi := _) (v := ?_) rfl (by kernel_rfl) (by kernel_rfl) (by kernel_rfl) (fun _ _ _ h => h) (Or.inl ⟨by rfl, ?_⟩) hHeld ?_
            rotate_left
            · (intro w' hSw; (try dsimp only at hSw); go_simp <;> with_reducible rfl)
            try simp only [Act.put, List.getElem_toArray, List.getElem_cons_succ, List.getElem_cons_zero, List.setIfInBounds_toArray, List.set_cons_zero, List.set_cons_succ]
            refine wpAnyH_take (i := 3) (oi := _) (v := ?_) rfl (by kernel_rfl) (by kernel_rfl) (by kernel_rfl) (fun _ _ _ h => h) (Or.inl ⟨by rfl, ?_⟩) hHeld ?_
            rotate_left
            · (intro w' hSw; (try dsimp only at hSw); go_simp <;> with_reducible rfl)
            try simp only [Act.put, List.getElem_toArray, List.getElem_cons_succ, List.getElem_cons_zero, List.setIfInBounds_toArray, List.set_cons_zero, List.set_cons_succ]
            refine wpAnyH_ready (rs := [4]) (by kernel_rfl) (by simp) (AllReadyH.cons (o := _) rfl (fun K hK => ?_) AllReadyH.nil)
            try simp only [Act.put, List.getElem_toArray, List.getElem_cons_succ, List.getElem_cons_zero, List.setIfInBounds_toArray, List.set_cons_zero, List.set_cons_succ]
            go_simp
            go_at_call 48
            refine (pick_any R _ 5 _ S.2.2.2.2.2.1 (by omega) (by omega) (by omega)).mono ?_
            rintro e W ⟨s, rfl, s0, s1, R6, T6⟩
            replace S := S.pick R6 T6
            clear R6 T6
            refine hK.out _ _ ⟨S.2.1.reads.1, S.2.1.reads.2.1⟩ (fun hHeld => ?_)
            clear hK K
            try simp only [Act.put, List.getElem_toArray, List.getElem_cons_succ, List.getElem_cons_zero, List.setIfInBounds_toArray, List.set_cons_zero, List.set_cons_succ]
            have k1 : (n : Int) < (c.ts.length : Int) := by omega
            refine wpAnyH_take (i := 5) (oi := _) (v := ?_) rfl (by kernel_rfl) (by kernel_rfl) (by kernel_rfl) (fun _ _ _ h => h) (Or.inl ⟨by rfl, ?_⟩) hHeld ?_
            rotate_left
            · (intro w' hSw; (try dsimp only at hSw); go_simp <;> with_reducible rfl)
            try simp only [Act.put, List.getElem_toArray, List.getElem_cons_succ, List.getElem_cons_zero, List.setIfInBounds_toArray, List.set_cons_zero, List.set_cons_succ]
            refine wpAnyH_take (i := 6) (oi := _) (v := ?_) rfl (by kernel_rfl) (by kernel_rfl) (by kernel_rfl) (fun _ _ _ h => h) (Or.inl ⟨by rfl, ?_⟩) hHeld ?_
            rotate_left
            · (intro w' hSw; (try dsimp only at hSw); go_simp <;> with_reducible rfl)
            try simp only [Act.put, List.getElem_toArray, List.getElem_cons_succ, List.getElem_cons_zero, List.setIfInBounds_toArray, List.set_cons_zero, List.set_cons_succ]
            obtain ⟨q4, q5, q6, o4⟩ := cr_dec S.2.2.2.1 rfl hn s
            obtain ⟨cs, fr, hty⟩ := S.2.2.2.1.head rfl hn
            have n1 := ty_ne S.1 hty (by decide)
            have n6 := ty_ne S.2.1 hty (by decide)
            have x1 := S.1.far (p := ⟨gT, n * 3 + 2, none⟩) n1 (.int .i64 s)
            have x6 := S.2.1.far (p := ⟨gT, n * 3 + 2, none⟩) n6 (.int .i64 s)
            have hRw := S.2.2.2.2.1
            have R7 := S.2.2.2.2.2.1.far (g := gT) (by omega) (n * 3 + 2) (.int .i64 s)
            have T7 := S.2.2.2.2.2.2.set_new (g := gT) q6 (n * 3 + 2) (.int .i64 s)
            have hgw := S.2.2.1
            clear S hty
            refine wpAnyH_ready (rs := [7]) (by kernel_rfl) (by simp) (AllReadyH.cons (o := _) rfl (fun K hK => ?_) AllReadyH.nil)
            try simp only [Act.put, List.getElem_toArray, List.getElem_cons_succ, List.getElem_cons_zero, List.setIfInBounds_toArray, List.set_cons_zero, List.set_cons_succ]
            go_simp
            refine hK.out _ _ ⟨x6.reads.1, x6.reads.2.1⟩ (fun hHeld => ?_)
            clear hK K
            try simp only [Act.put, List.getElem_toArray, List.getElem_cons_succ, List.getElem_cons_zero, List.setIfInBounds_toArray, List.set_cons_zero, List.set_cons_succ]
            refine wpAnyH_done (by kernel_rfl) ?_ _
            clear hHeld q4 q5
            obtain ⟨W, hW⟩ : ∃ x, W.setCell ⟨gT, n * 3 + 2, none⟩ (.int .i64 s) = x := ⟨_, rfl⟩
            rw [hW] at x1 x6 R7 T7 o4 ⊢
            have HSM : Hid (SmC ⟨c.ts.set n ⟨c.ts[n].ps, c.ts[n].vs, s⟩, c.os⟩) := HF.out.set hps hus
            have S : DrC w R g _ (.slice (some ⟨gT, 0, none⟩) c.ts.length ca) (.slice Ab c.os.length cb) col ⟨c.ts.set n ⟨c.ts[n].ps, c.ts[n].vs, s⟩, c.os⟩ W := ⟨x1, x6, hgw, o4, hRw, R7, T7⟩
            clear hW x1 x6 R7 T7 o4 hgw hRw
            obtain ⟨k9, hk9⟩ : ∃ k9 : Crd, k9 = ⟨c.ts.set n ⟨c.ts[n].ps, c.ts[n].vs, s⟩, c.os⟩ := ⟨_, rfl⟩
            rw [← hk9] at S HSM
            clear hk9
            obtain ⟨t0, t1, tf⟩ := id S.1.reads
            have tf0 := tf 0
            have tf1 := tf 1
            obtain ⟨u0, u1, -⟩ := id S.2.1.reads
            have o10 := (S.2.2.2.1.keptT (by decide) (by decide) (by decide) (by decide) (but_set W w.heap.size 0 (.slice (some ⟨gT, 0, none⟩) c.ts.length ca)) (blk_type S.1)).keptT (by decide) (by decide) (by decide) (by decide) (but_set _ w.heap.size 1 (.slice Ab c.os.length cb)) (blk_type (S.1.set0 (.slice (some ⟨gT, 0, none⟩) c.ts.length ca)))
            have R10 := (S.2.2.2.2.2.1.far S.2.2.2.2.1 0 (.slice (some ⟨gT, 0, none⟩) c.ts.length ca)).far S.2.2.2.2.1 1 (.slice Ab c.os.length cb)
            have T10 := (S.2.2.2.2.2.2.set_new (Nat.le_refl w.heap.size) 0 (.slice (some ⟨gT, 0, none⟩) c.ts.length ca)).set_new (Nat.le_refl w.heap.size) 1 (.slice Ab c.os.length cb)
            obtain ⟨p0, p1, -⟩ := ((S.1.set0 (.slice (some ⟨gT, 0, none⟩) c.ts.length ca)).set1 (.slice Ab c.os.length cb)).reads
            clear tf S
            go_wp2
            exact bodyPost_ret (v := .agg #[.slice (some ⟨gT, 0, none⟩) c.ts.length ca, .slice Ab c.os.length cb]) (by simp [results, Try.results47, go_sem, p0, p1]) rfl ⟨_, k9, _, rfl, o10, HSM.out, R10.more (by push_cast; omega), T10⟩
          · have e5 : (d5 == 0) = false := by rw [beq_eq_false_iff_ne]; exact h0
            by_cases h1 : d5 = 1
            · have e6 : (d5 == 1) = true := by rw [h1]; rfl
              clear h0 h1 d50 d51
              have y1f := yf 1
              clear yf
              have oI := S.2.2.2.1.parts.2.1
              have rI := World.ownsRow.alloc oI (.cells #[.int .i64 n] 3)
              have zI := S.size
              have hRw := S.2.2.2.2.1
              have hgw := S.2.2.1
              have R7 := S.2.2.2.2.2.1
              have T7 := S.2.2.2.2.2.2
              have HP := hid (cr_order_ (n := (n : Int)) S.2.2.2.1 S.1 S.2.1 (by omega) (by omega) zI)
              clear S oI
              go_upto_region 30 with (at_builtin; go_must (refine wpList_append_own_at _ rfl _ _ 24 rfl w.heap.size 3 i1 (.int .i64 0) 1 8 Try.underlying24 hj hy0 hy1 hy2 rfl (by decide) (.slice Ab c.os.length cb) c.os.length _ rfl rI ⟨w6.heap.size, 0, none⟩ 1 1 [.int .i64 n] rfl rfl (cell_one_new _ _ _) (one_int _) (by unfold maxLen; omega) (by omega) (by simp; omega) ?_); intro v7 w7 hown hg _ hat; obtain ⟨A7, c7, col7, rfl, ⟨v4, t4⟩, f4, x1, x6, b1, o9⟩ := HP.out _ _ hown hg hat)
              obtain ⟨W, hW⟩ : ∃ x, w7.setCell ⟨g, 1, none⟩ (.slice A7 (c.os.length + 1) c7) = x := ⟨_, rfl⟩
              rw [hW] at x1 x6 b1 o9 ⊢
              replace R7 := R7.below b1 hRw
              replace T7 : But R w W := ⟨b1.os.trans T7.os, b1.tape.trans T7.tape, b1.output.trans T7.output, Nat.le_trans T7.size b1.size, fun j hj hne => (b1.block j hj).trans (T7.block j hj hne)⟩
              have HSM : Hid (SmC ⟨c.ts, c.os ++ [(n : Int)]⟩) := ⟨HF.out.ts, by show (c.os ++ [(n : Int)]).length ≤ 13; simp; omega, HF.out.ps, HF.out.us⟩
              have S : DrC w R g _ (.slice (some ⟨gT, 0, none⟩) c.ts.length ca) (.slice A7 (c.os.length + 1) c7) col7 ⟨c.ts, c.os ++ [(n : Int)]⟩ W := ⟨x1, x6, hgw, o9, hRw, R7, T7⟩
              clear hW x1 x6 b1 R7 T7 o9 hgw hRw t4 f4 HP rI hown hg hat y0 y1 y1f e5 e6
              obtain ⟨k9, hk9⟩ : ∃ k9 : Crd, k9 = ⟨c.ts, c.os ++ [(n : Int)]⟩ := ⟨_, rfl⟩
              rw [← hk9] at S HSM
              clear hk9
              obtain ⟨t0, t1, tf⟩ := id S.1.reads
              have tf0 := tf 0
              have tf1 := tf 1
              obtain ⟨u0, u1, -⟩ := id S.2.1.reads
              have o10 := (S.2.2.2.1.keptT (by decide) (by decide) (by decide) (by decide) (but_set W w.heap.size 0 (.slice (some ⟨gT, 0, none⟩) c.ts.length ca)) (blk_type S.1)).keptT (by decide) (by decide) (by decide) (by decide) (but_set _ w.heap.size 1 (.slice A7 (c.os.length + 1) c7)) (blk_type (S.1.set0 (.slice (some ⟨gT, 0, none⟩) c.ts.length ca)))
              have R10 := (S.2.2.2.2.2.1.far S.2.2.2.2.1 0 (.slice (some ⟨gT, 0, none⟩) c.ts.length ca)).far S.2.2.2.2.1 1 (.slice A7 (c.os.length + 1) c7)
              have T10 := (S.2.2.2.2.2.2.set_new (Nat.le_refl w.heap.size) 0 (.slice (some ⟨gT, 0, none⟩) c.ts.length ca)).set_new (Nat.le_refl w.heap.size) 1 (.slice A7 (c.os.length + 1) c7)
              obtain ⟨p0, p1, -⟩ := ((S.1.set0 (.slice (some ⟨gT, 0, none⟩) c.ts.length ca)).set1 (.slice A7 (c.os.length + 1) c7)).reads
              clear tf S
              go_wp2
              exact bodyPost_ret (v := .agg #[.slice (some ⟨gT, 0, none⟩) c.ts.length ca, .slice A7 (c.os.length + 1) c7]) (by simp [results, Try.results47, go_sem, p0, p1]) rfl ⟨_, k9, _, rfl, o10, HSM.out, R10.more (by push_cast; omega), T10⟩
            · have e6 : (d5 == 1) = false := by rw [beq_eq_false_iff_ne]; exact h1
              by_cases h2 : d5 = 2
              · have e7 : (d5 == 2) = true := by rw [h2]; rfl
                clear h0 h1 h2 d50 d51 yf
                have hvl : 0 < c.ts[n].vs.length := by
                  have hv := HV.out.txs _ (List.getElem_mem hn)
                  rw [hv.len]
                  exact List.length_pos_iff.2 hv.parts.1
                obtain ⟨g2, c9, r0, r1, r2, r3, ⟨cs2, fr2, hty2⟩, HVo⟩ := cr_vote (k := 0) S.2.2.2.1 rfl hn hvl
                have hgT : gT < w6.heap.size := by
                  obtain ⟨cs, fr, hty⟩ := S.2.2.2.1.head rfl hn
                  exact blk_lt hty
                have hg2l : g2 < w6.heap.size := blk_lt hty2
                have hgTB : w.heap.size ≤ gT := (cr_dec S.2.2.2.1 rfl hn 0).2.2.1
                clear r1 r2 HVo hty2
                have hvl2 := hps.2
                obtain ⟨vl, hvle⟩ : ∃ vl, c.ts[n].vs.length = vl := ⟨_, rfl⟩
                have HVL := hid hvle
                rw [hvle] at r0 hvl hvl2
                have k0 : (0 : Int) ≤ (n : Int) := by omega
                have k1 : (n : Int) < (c.ts.length : Int) := by omega
                have k2 : decide ((0 : Int) < (vl : Int)) = true := decide_eq_true (by omega)
                have k3 : (0 : Int) < (vl : Int) := by omega
                clear hvle
                go_wp2_with fail
                refine wp_region_held_drew (S := fun x => (x.cell? ⟨g, 0, none⟩ = some (.slice (some ⟨gT, 0, none⟩) c.ts.length ca) ∧ x.cell? ⟨g, 1, none⟩ = some (.slice Ab c.os.length cb)) ∧ x.cell? ⟨gT, n * 3 + 1, none⟩ = some (.slice (some ⟨g2, 0, none⟩) vl c9)) (by kernel_rfl) ⟨⟨(S.call (Below.refl _ _).drew).2.1.reads.1, (S.call (Below.refl _ _).drew).2.1.reads.2.1⟩, r0⟩ (fun hHeld => ?_)
                have Bd := (Below.refl w6.heap.size w6).drew
                replace S := S.call Bd
                have hRw := S.2.2.2.2.1
                replace hgT := Nat.lt_of_lt_of_le hgT Bd.size
                replace hg2l := Nat.lt_of_lt_of_le hg2l Bd.size
                clear Bd
                obtain ⟨W, hW⟩ : ∃ x, w6.drew = x := ⟨_, rfl⟩
                have r0W : W.cell? ⟨gT, n * 3 + 1, none⟩ = some (.slice (some ⟨g2, 0, none⟩) vl c9) := by rw [← hW]; exact r0
                rw [hW] at S hHeld hgT hg2l ⊢
                clear hW y0 y1 e5 e6 e7 r0
                try simp only [Act.put, List.getElem_toArray, List.getElem_cons_succ, List.getElem_cons_zero, List.setIfInBounds_toArray, List.set_cons_zero, List.set_cons_succ]
                refine wpAnyH_take (i := 0) (oi := _) (v := ?_) rfl (by kernel_rfl) (by kernel_rfl) (by kernel_rfl) (fun _ _ _ h => h) (Or.inl ⟨by rfl, ?_⟩) hHeld ?_
                rotate_left
                · (intro w' hSw; (try dsimp only at hSw); go_simp <;> with_reducible rfl)
                try simp only [Act.put, List.getElem_toArray, List.getElem_cons_succ, List.getElem_cons_zero, List.setIfInBounds_toArray, List.set_cons_zero, List.set_cons_succ]
                refine wpAnyH_take (i := 1) (oi := _) (v := ?_) rfl (by kernel_rfl) (by kernel_rfl) (by kernel_rfl) (fun _ _ _ h => h) (Or.inl ⟨by rfl, ?_⟩) hHeld ?_
                rotate_left
                · (intro w' hSw; (try dsimp only at hSw); go_simp <;> with_reducible rfl)
                try simp only [Act.put, List.getElem_toArray, List.getElem_cons_succ, List.getElem_cons_zero, List.setIfInBounds_toArray, List.set_cons_zero, List.set_cons_succ]
                refine wpAnyH_take (i := 2) (oi := _) (v := ?_) rfl (by kernel_rfl) (by kernel_rfl) (by kernel_rfl) (fun _ _ _ h => h) (Or.inl ⟨by rfl, ?_⟩) hHeld ?_
                rotate_left
                · (intro w' hSw; (try dsimp only at hSw); go_simp <;> with_reducible rfl)
                try simp only [Act.put, List.getElem_toArray, List.getElem_cons_succ, List.getElem_cons_zero, List.setIfInBounds_toArray, List.set_cons_zero, List.set_cons_succ]
                refine wpAnyH_take (i := 3) (oi := _) (v := ?_) rfl (by kernel_rfl) (by kernel_rfl) (by kernel_rfl) (fun _ _ _ h => h) (Or.inl ⟨by rfl, ?_⟩) hHeld ?_
                rotate_left
                · (intro w' hSw; (try dsimp only at hSw); go_simp <;> with_reducible rfl)
                try simp only [Act.put, List.getElem_toArray, List.getElem_cons_succ, List.getElem_cons_zero, List.setIfInBounds_toArray, List.set_cons_zero, List.set_cons_succ]
                refine wpAnyH_take (i := 4) (oi := _) (v := ?_) rfl (by kernel_rfl) (by kernel_rfl) (by kernel_rfl) (fun _ _ _ h => h) (Or.inl ⟨by rfl, ?_⟩) hHeld ?_
                rotate_left
                · (intro w' hSw; (try dsimp only at hSw); go_simp <;> with_reducible rfl)
                try simp only [Act.put, List.getElem_toArray, List.getElem_cons_succ, List.getElem_cons_zero, List.setIfInBounds_toArray, List.set_cons_zero, List.set_cons_succ]
                refine wpAnyH_take (i := 5) (oi := _) (v := ?_) rfl (by kernel_rfl) (by kernel_rfl) (by kernel_rfl) (fun _ _ _ h => h) (Or.inl ⟨by rfl, ?_⟩) hHeld ?_
                rotate_left
                · (intro w' hSw; (try dsimp only at hSw); go_simp <;> with_reducible rfl)
                try simp only [Act.put, List.getElem_toArray, List.getElem_cons_succ, List.getElem_cons_zero, List.setIfInBounds_toArray, List.set_cons_zero, List.set_cons_succ]
                refine wpAnyH_take (i := 6) (oi := _) (v := ?_) rfl (by kernel_rfl) (by kernel_rfl) (by kernel_rfl) (fun _ _ _ h => h) (Or.inl ⟨by rfl, ?_⟩) hHeld ?_
                rotate_left
                · (intro w' hSw; (try dsimp only at hSw); go_simp <;> with_reducible rfl)
                try simp only [Act.put, List.getElem_toArray, List.getElem_cons_succ, List.getElem_cons_zero, List.setIfInBounds_toArray, List.set_cons_zero, List.set_cons_succ]
                refine wpAnyH_ready (rs := [7]) (by kernel_rfl) (by simp) (AllReadyH.cons (o := _) rfl (fun K hK => ?_) AllReadyH.nil)
                try simp only [Act.put, List.getElem_toArray, List.getElem_cons_succ, List.getElem_cons_zero, List.setIfInBounds_toArray, List.set_cons_zero, List.set_cons_succ]
                go_simp
                go_at_call 48
                refine (pick_any R _ 4 _ S.2.2.2.2.2.1 (by omega) (by omega) (by omega)).mono ?_
                rintro e W ⟨s, rfl, s0, s1, R6, T6⟩
                replace S := S.pick R6 T6
                replace r0W := (T6.cell (n * 3 + 1) hgT (by omega)).trans r0W
                clear R6 T6
                refine hK.out _ _ ⟨⟨S.2.1.reads.1, S.2.1.reads.2.1⟩, r0W⟩ (fun hHeld => ?_)
                clear hK K
                try simp only [Act.put, List.getElem_toArray, List.getElem_cons_succ, List.getElem_cons_zero, List.setIfInBounds_toArray, List.set_cons_zero, List.set_cons_succ]
                have e9 : IntKind.i64.wrap (s - 2) = s - 2 := IntWalk.i64_in _ (by omega)
                refine wpAnyH_take (i := 8) (oi := _) (v := ?_) rfl (by kernel_rfl) (by kernel_rfl) (by kernel_rfl) (fun _ _ _ h => h) (Or.inl ⟨by rfl, ?_⟩) hHeld ?_
                rotate_left
                · (intro w' hSw; (try dsimp only at hSw); go_simp <;> with_reducible rfl)
                try simp only [Act.put, List.getElem_toArray, List.getElem_cons_succ, List.getElem_cons_zero, List.setIfInBounds_toArray, List.set_cons_zero, List.set_cons_succ]
                refine wpAnyH_take (i := 9) (oi := _) (v := ?_) rfl (by kernel_rfl) (by kernel_rfl) (by kernel_rfl) (fun _ _ _ h => h) (Or.inl ⟨by rfl, ?_⟩) hHeld ?_
                rotate_left
                · (intro w' hSw; (try dsimp only at hSw); go_simp <;> with_reducible rfl)
                try simp only [Act.put, List.getElem_toArray, List.getElem_cons_succ, List.getElem_cons_zero, List.setIfInBounds_toArray, List.set_cons_zero, List.set_cons_succ]
                obtain ⟨g2', c9', r0, r1, r2, r3, ⟨cs2, fr2, hty2⟩, HVo⟩ := cr_vote (k := 0) S.2.2.2.1 rfl hn (by rw [HVL.out]; exact hvl)
                rw [r0W] at r0
                injection r0 with r0
                injection r0 with r0 r00 r000
                injection r0 with r0
                injection r0 with r0
                subst r0
                clear r00 r000
                have o4 := HVo (s - 2)
                obtain ⟨cs3, fr3, hty3⟩ := S.2.2.2.1.head rfl hn
                have n1 := ty_ne S.1 hty2 (by decide)
                have n6 := ty_ne S.2.1 hty2 (by decide)
                have n7 := ty_ne hty3 hty2 (by decide)
                have x1 := S.1.far (p := ⟨g2, 0, none⟩) n1 (.int .i64 (s - 2))
                have x6 := S.2.1.far (p := ⟨g2, 0, none⟩) n6 (.int .i64 (s - 2))
                have R7 := S.2.2.2.2.2.1.far (g := g2) (by omega) 0 (.int .i64 (s - 2))
                have T7 := S.2.2.2.2.2.2.set_new (g := g2) r3 0 (.int .i64 (s - 2))
                have hgw := S.2.2.1
                have r0X : (W.setCell ⟨g2, 0, none⟩ (.int .i64 (s - 2))).cell? ⟨gT, n * 3 + 1, none⟩ = some (.slice (some ⟨g2, 0, none⟩) vl c9) := (World.cell?_setCell_far W ⟨g2, 0, none⟩ ⟨gT, n * 3 + 1, none⟩ _ (fun e => n7 e.symm)).trans r0W
                clear S hty2 hty3 HVo r0W
                refine wpAnyH_ready (rs := [10]) (by kernel_rfl) (by simp) (AllReadyH.cons (o := _) rfl (fun K hK => ?_) AllReadyH.nil)
                try simp only [Act.put, List.getElem_toArray, List.getElem_cons_succ, List.getElem_cons_zero, List.setIfInBounds_toArray, List.set_cons_zero, List.set_cons_succ]
                go_simp
                refine hK.out _ _ ⟨⟨x6.reads.1, x6.reads.2.1⟩, r0X⟩ (fun hHeld => ?_)
                clear hK K
                try simp only [Act.put, List.getElem_toArray, List.getElem_cons_succ, List.getElem_cons_zero, List.setIfInBounds_toArray, List.set_cons_zero, List.set_cons_succ]
                refine wpAnyH_done (by kernel_rfl) ?_ _
                clear hHeld r0X r1 r2
                obtain ⟨W, hW⟩ : ∃ x, W.setCell ⟨g2, 0, none⟩ (.int .i64 (s - 2)) = x := ⟨_, rfl⟩
                rw [hW] at x1 x6 R7 T7 o4 ⊢
                have HSM : Hid (SmC ⟨c.ts.set n ⟨c.ts[n].ps, c.ts[n].vs.set 0 (s - 2), c.ts[n].d⟩, c.os⟩) := HF.out.set ⟨hps.1, by rw [List.length_set]; exact hps.2⟩ hus
                have S : DrC w R g _ (.slice (some ⟨gT, 0, none⟩) c.ts.length ca) (.slice Ab c.os.length cb) col ⟨c.ts.set n ⟨c.ts[n].ps, c.ts[n].vs.set 0 (s - 2), c.ts[n].d⟩, c.os⟩ W := ⟨x1, x6, hgw, o4, hRw, R7, T7⟩
                clear hW x1 x6 R7 T7 o4 hgw
                obtain ⟨k9, hk9⟩ : ∃ k9 : Crd, k9 = ⟨c.ts.set n ⟨c.ts[n].ps, c.ts[n].vs.set 0 (s - 2), c.ts[n].d⟩, c.os⟩ := ⟨_, rfl⟩
                rw [← hk9] at S HSM
                clear hk9
                obtain ⟨t0, t1, tf⟩ := id S.1.reads
                have tf0 := tf 0
                have tf1 := tf 1
                obtain ⟨u0, u1, -⟩ := id S.2.1.reads
                have o10 := (S.2.2.2.1.keptT (by decide) (by decide) (by decide) (by decide) (but_set W w.heap.size 0 (.slice (some ⟨gT, 0, none⟩) c.ts.length ca)) (blk_type S.1)).keptT (by decide) (by decide) (by decide) (by decide) (but_set _ w.heap.size 1 (.slice Ab c.os.length cb)) (blk_type (S.1.set0 (.slice (some ⟨gT, 0, none⟩) c.ts.length ca)))
                have R10 := (S.2.2.2.2.2.1.far S.2.2.2.2.1 0 (.slice (some ⟨gT, 0, none⟩) c.ts.length ca)).far S.2.2.2.2.1 1 (.slice Ab c.os.length cb)
                have T10 := (S.2.2.2.2.2.2.set_new (Nat.le_refl w.heap.size) 0 (.slice (some ⟨gT, 0, none⟩) c.ts.length ca)).set_new (Nat.le_refl w.heap.size) 1 (.slice Ab c.os.length cb)
                obtain ⟨p0, p1, -⟩ := ((S.1.set0 (.slice (some ⟨gT, 0, none⟩) c.ts.length ca)).set1 (.slice Ab c.os.length cb)).reads
                clear tf S
                go_wp2
                exact bodyPost_ret (v := .agg #[.slice (some ⟨gT, 0, none⟩) c.ts.length ca, .slice Ab c.os.length cb]) (by simp [results, Try.results47, go_sem, p0, p1]) rfl ⟨_, k9, _, rfl, o10, HSM.out, R10.more (by push_cast; omega), T10⟩
              · have e7 : (d5 == 2) = false := by rw [beq_eq_false_iff_ne]; exact h2
                clear h0 h1 h2 d50 d51 yf
                have HSM := HF
                go_upto_region 30 with fail
                obtain ⟨W, hW⟩ : ∃ x, w6 = x := ⟨_, rfl⟩
                rw [hW] at S ⊢
                clear hW y0 y1 e5 e6 e7
                obtain ⟨t0, t1, tf⟩ := id S.1.reads
                have tf0 := tf 0
                have tf1 := tf 1
                obtain ⟨u0, u1, -⟩ := id S.2.1.reads
                have o10 := (S.2.2.2.1.keptT (by decide) (by decide) (by decide) (by decide) (but_set W w.heap.size 0 (.slice (some ⟨gT, 0, none⟩) c.ts.length ca)) (blk_type S.1)).keptT (by decide) (by decide) (by decide) (by decide) (but_set _ w.heap.size 1 (.slice Ab c.os.length cb)) (blk_type (S.1.set0 (.slice (some ⟨gT, 0, none⟩) c.ts.length ca)))
                have R10 := (S.2.2.2.2.2.1.far S.2.2.2.2.1 0 (.slice (some ⟨gT, 0, none⟩) c.ts.length ca)).far S.2.2.2.2.1 1 (.slice Ab c.os.length cb)
                have T10 := (S.2.2.2.2.2.2.set_new (Nat.le_refl w.heap.size) 0 (.slice (some ⟨gT, 0, none⟩) c.ts.length ca)).set_new (Nat.le_refl w.heap.size) 1 (.slice Ab c.os.length cb)
                obtain ⟨p0, p1, -⟩ := ((S.1.set0 (.slice (some ⟨gT, 0, none⟩) c.ts.length ca)).set1 (.slice Ab c.os.length cb)).reads
                clear tf S
                go_wp2
                exact bodyPost_ret (v := .agg #[.slice (some ⟨gT, 0, none⟩) c.ts.length ca, .slice Ab c.os.length cb]) (by simp [results, Try.results47, go_sem, p0, p1]) rfl ⟨_, c, _, rfl, o10, HSM.out, R10.more (by push_cast; omega), T10⟩
  · have e0 : (d == 0) = false := by rw [beq_eq_false_iff_ne]; exact hd
    clear hd
    have h50 : n0 ≤ 50 := by omega
    go_wp2_with fail
    go_loopw [5] (fun i wr => ∃ (k : Nat) (c : Crd) (Aa Ab : Option Addr) (ca cb : Nat) (col : Nat → Nat), k ≤ 50 ∧ i = .int .i64 k ∧ Hid (CV c) ∧ DrC w R g (q + 2 + 210 * k) (.slice Aa c.ts.length ca) (.slice Ab c.os.length cb) col c wr) (fun i _ => 50 - (intOf i).toNat)
    case atStart => exact ⟨0, none_, _, _, _, _, _, Nat.zero_le _, rfl, none_valid, S0.more (by omega)⟩
    case round =>
      clear S0
      obtain ⟨k, c, Aa, Ab, ca, cb, col, hk, rfl, HV, S⟩ := hrel
      have hf := (cv_few HV.out).1
      have hcl := hf.ts
      have hol := (cv_few HV.out).2
      have HF := hid hf
      obtain ⟨y0, y1, -⟩ := id S.2.1.reads
      by_cases hlt : (k : Int) < n0
      · have hk50 : k < 50 := by omega
        have e1 : decide ((k : Int) < n0) = true := decide_eq_true hlt
        have al := (Below.refl wr.heap.size wr).alloc (Nat.le_refl _) (.cells #[.slice Aa c.ts.length ca, .slice Ab c.os.length cb] 26)
        have xn := Blk2s.new_ wr 26 (.slice Aa c.ts.length ca) (.slice Ab c.os.length cb)
        have hgn : g < wr.heap.size := S.2.1.lt
        replace S := S.call al
        have o9 := S.2.2.2.1
        clear hf
        go_upto_region 9 with fail
        clear e1
        obtain ⟨wn, hwn⟩ : ∃ x, wr.alloc (.cells #[.slice Aa c.ts.length ca, .slice Ab c.os.length cb] 26) = x := ⟨_, rfl⟩
        obtain ⟨gn, hgg⟩ : ∃ x, wr.heap.size = x := ⟨_, rfl⟩
        rw [hwn] at S xn o9 ⊢
        rw [hgg] at hgn xn ⊢
        clear hwn hgg al y0 y1
        obtain ⟨y0, y1, -⟩ := id S.2.1.reads
        by_cases hmx : (1 : Int) ≤ (c.ts.length : Int)
        · go_wp2_with fail
          refine (pick_any R _ (c.ts.length : Int) _ S.2.2.2.2.2.1 (by omega) (by omega) (by omega)).mono ?_
          rintro e w5 ⟨t, rfl, t0, t1, R5, T5⟩
          replace S := S.pick R5 T5
          replace xn := xn.but_ T5 (by have := S.2.2.2.2.1; have := S.2.2.1; omega)
          clear R5 T5 y0 y1
          obtain ⟨y0, y1, -⟩ := id S.2.1.reads
          clear hmx o9
          go_wp2_with fail
          refine (pick_any R _ 5 _ S.2.2.2.2.2.1 (by omega) (by omega) (by omega)).mono ?_
          rintro e w6 ⟨d5, rfl, d50, d51, R5, T5⟩
          replace S := S.pick R5 T5
          replace xn := xn.but_ T5 (by have := S.2.2.2.2.1; have := S.2.2.1; omega)
          clear R5 T5 y0 y1
          obtain ⟨y0, y1, -⟩ := id S.2.1.reads
          by_cases h0 : d5 = 0
          · have e5 : (d5 == 0) = true := by rw [h0]; rfl
            clear h0 d50 d51
            go_wp2_with fail
            refine wp_region_held_drew (S := fun x => x.cell? ⟨g, 0, none⟩ = some (.slice Aa c.ts.length ca) ∧ x.cell? ⟨g, 1, none⟩ = some (.slice Ab c.os.length cb)) (by kernel_rfl) ⟨(S.call (Below.refl _ _).drew).2.1.reads.1, (S.call (Below.refl _ _).drew).2.1.reads.2.1⟩ (fun hHeld => ?_)
            replace S := S.call (Below.refl _ _).drew
            replace xn := xn.later (Below.refl _ _).drew
            obtain ⟨W, hW⟩ : ∃ x, w6.drew = x := ⟨_, rfl⟩
            rw [hW] at S xn hHeld ⊢
            clear hW y0 y1 e5
            try simp only [Act.put, List.getElem_toArray, List.getElem_cons_succ, List.getElem_cons_zero, List.setIfInBounds_toArray, List.set_cons_zero, List.set_cons_succ]
            refine wpAnyH_take (i := 0) (oi := _) (v := ?_) rfl (by kernel_rfl) (by kernel_rfl) (by kernel_rfl) (fun _ _ _ h => h) (Or.inl ⟨by rfl, ?_⟩) hHeld ?_
            rotate_left
            · (intro w' hSw; (try dsimp only at hSw); go_simp <;> with_reducible rfl)
            try simp only [Act.put, List.getElem_toArray, List.getElem_cons_succ, List.getElem_cons_zero, List.setIfInBounds_toArray, List.set_cons_zero, List.set_cons_succ]
            refine wpAnyH_take (i := 1) (oi := _) (v := ?_) rfl (by kernel_rfl) (by kernel_rfl) (by kernel_rfl) (fun _ _ _ h => h) (Or.inl ⟨by rfl, ?_⟩) hHeld ?_
            rotate_left
            · (intro w' hSw; (try dsimp only at hSw); go_simp <;> with_reducible rfl)
            try simp only [Act.put, List.getElem_toArray, List.getElem_cons_succ, List.getElem_cons_zero, List.setIfInBounds_toArray, List.set_cons_zero, List.set_cons_succ]
            refine wpAnyH_ready (rs := [2]) (by kernel_rfl) (by simp) (AllReadyH.cons (o := _) rfl (fun K hK => ?_) AllReadyH.nil)
            try simp only [Act.put, List.getElem_toArray, List.getElem_cons_succ, List.getElem_cons_zero, List.setIfInBounds_toArray, List.set_cons_zero, List.set_cons_succ]
            go_simp
            go_at_call 69
            refine (l92Parts_any R _ W S.2.2.2.2.2.1 (by omega)).mono ?_
            rintro e W ⟨vp, ps, rfl, op, hpl, hsm, R6, T6⟩
            replace S := S.pick R6 T6
            replace xn := xn.but_ T6 (by have := S.2.2.2.2.1; have := S.2.2.1; omega)
            obtain ⟨Ap, cp, rfl, rp, -⟩ := op.form
            have HSM := hid hsm
            clear R6 T6 op hsm
            refine hK.out _ _ ⟨S.2.1.reads.1, S.2.1.reads.2.1⟩ (fun hHeld => ?_)
            clear hK K
            try simp only [Act.put, List.getElem_toArray, List.getElem_cons_succ, List.getElem_cons_zero, List.setIfInBounds_toArray, List.set_cons_zero, List.set_cons_succ]
            refine wpAnyH_ready (rs := [3]) (by kernel_rfl) (by simp) (AllReadyH.cons (o := _) rfl (fun K hK => ?_) AllReadyH.nil)
            try simp only [Act.put, List.getElem_toArray, List.getElem_cons_succ, List.getElem_cons_zero, List.setIfInBounds_toArray, List.set_cons_zero, List.set_cons_succ]
            go_simp
            go_at_call 30
            obtain ⟨x, b2, hx⟩ := begun_ex c ps
            refine (specCoordinatorBegin_is x b2 _ c Ap cp ps W S.2.2.2.1.crd HF.out.fit rp (by omega) (fun p hp => by have := HSM.out p hp; omega) hx).mono ?_
            rintro e W ⟨v9, col9, rfl, o9', d9⟩
            have hxv := hx.valid
            have zz := S.size
            replace S := S.call d9
            replace xn := xn.later d9
            have o9 := o9'.base zz
            obtain ⟨A9, c9, B9, e9, rfl, -⟩ := o9.form
            unfold crV at o9 ⊢
            clear hx zz d9 o9'
            refine hK.out _ _ ⟨S.2.1.reads.1, S.2.1.reads.2.1⟩ (fun hHeld => ?_)
            clear hK K
            try simp only [Act.put, List.getElem_toArray, List.getElem_cons_succ, List.getElem_cons_zero, List.setIfInBounds_toArray, List.set_cons_zero, List.set_cons_succ]
            refine wpAnyH_take (i := 4) (oi := _) (v := ?_) rfl (by kernel_rfl) (by kernel_rfl) (by kernel_rfl) (fun _ _ _ h => h) (Or.inl ⟨by rfl, ?_⟩) hHeld ?_
            rotate_left
            · (intro w' hSw; (try dsimp only at hSw); go_simp <;> with_reducible rfl)
            try simp only [Act.put, List.getElem_toArray, List.getElem_cons_succ, List.getElem_cons_zero, List.setIfInBounds_toArray, List.set_cons_zero, List.set_cons_succ]
            refine wpAnyH_take (i := 5) (oi := _) (v := ?_) rfl (by kernel_rfl) (by kernel_rfl) (by kernel_rfl) (fun _ _ _ h => h) (Or.inl ⟨by rfl, ?_⟩) hHeld ?_
            rotate_left
            · (intro w' hSw; (try dsimp only at hSw); go_simp <;> with_reducible rfl)
            try simp only [Act.put, List.getElem_toArray, List.getElem_cons_succ, List.getElem_cons_zero, List.setIfInBounds_toArray, List.set_cons_zero, List.set_cons_succ]
            refine wpAnyH_take (i := 6) (oi := _) (v := ?_) rfl (by kernel_rfl) (by kernel_rfl) (by kernel_rfl) (fun _ _ _ h => h) (Or.inl ⟨by rfl, ?_⟩) hHeld ?_
            rotate_left
            · (intro w' hSw; (try dsimp only at hSw); go_simp <;> with_reducible rfl)
            try simp only [Act.put, List.getElem_toArray, List.getElem_cons_succ, List.getElem_cons_zero, List.setIfInBounds_toArray, List.set_cons_zero, List.set_cons_succ]
            obtain ⟨z0, z1, zff⟩ := id xn.reads
            have zf0 := zff 0
            have zf1 := zff 1
            have S9 := (S.stored xn hgn 0 (.slice A9 x.ts.length c9)).stored (xn.set0 (.slice A9 x.ts.length c9)) hgn 1 (.slice B9 x.os.length e9)
            have o8 := (o9.keptT (by decide) (by decide) (by decide) (by decide) (but_set W gn 0 (.slice A9 x.ts.length c9)) (blk_type xn)).keptT (by decide) (by decide) (by decide) (by decide) (but_set _ gn 1 (.slice B9 x.os.length e9)) (blk_type (xn.set0 (.slice A9 x.ts.length c9)))
            have x8 := (xn.set0 (.slice A9 x.ts.length c9)).set1 (.slice B9 x.os.length e9)
            clear zff
            refine wpAnyH_ready (rs := [7]) (by kernel_rfl) (by simp) (AllReadyH.cons (o := _) rfl (fun K hK => ?_) AllReadyH.nil)
            try simp only [Act.put, List.getElem_toArray, List.getElem_cons_succ, List.getElem_cons_zero, List.setIfInBounds_toArray, List.set_cons_zero, List.set_cons_succ]
            go_simp
            refine hK.out _ _ ⟨S9.2.1.reads.1, S9.2.1.reads.2.1⟩ (fun hHeld => ?_)
            clear hK K
            try simp only [Act.put, List.getElem_toArray, List.getElem_cons_succ, List.getElem_cons_zero, List.setIfInBounds_toArray, List.set_cons_zero, List.set_cons_succ]
            refine wpAnyH_done (by kernel_rfl) ?_ _
            clear S xn o9 z0 z1 zf0 zf1 hHeld
            obtain ⟨W, hWW⟩ : ∃ wz, (W.setCell ⟨gn, 0, none⟩ (.slice A9 x.ts.length c9)).setCell ⟨gn, 1, none⟩ (.slice B9 x.os.length e9) = wz := ⟨_, rfl⟩
            rw [hWW] at S9 o8 x8 ⊢
            have S := S9
            have o9 := o8
            have xn := x8
            clear S9 o8 x8 hWW
            have HVn := hid hxv
            have CW := hid (specCoordinatorValid_is true (.agg #[.slice A9 x.ts.length c9, .slice B9 x.os.length e9]) x W o9.crd (cv_few hxv).1.fit ⟨fun _ => hxv, fun _ => rfl⟩)
            obtain ⟨u0, u1, -⟩ := id xn.reads
            clear hxv
            go_wp2_with fail
            refine CW.out.mono ?_
            rintro e wg ⟨rfl, dg⟩
            replace S := S.call dg
            replace xn := xn.later dg
            replace o9 := o9.below dg
            clear CW dg u0 u1
            obtain ⟨u0, u1, -⟩ := id xn.reads
            obtain ⟨y0, y1, yf⟩ := id S.2.1.reads
            have yf0 := yf 0
            have yf1 := yf 1
            have S9 := S.next o9
            clear yf xn o9 S
            go_wp2
            go_roundw
            case rel => exact ⟨k + 1, x, _, _, _, _, _, by omega, by go_num, HVn, S9.more (by push_cast; omega)⟩
            case measure => simp [intOf]; omega
          · have e5 : (d5 == 0) = false := by rw [beq_eq_false_iff_ne]; exact h0
            by_cases h1 : d5 = 1
            · have e6 : (d5 == 1) = true := by rw [h1]; rfl
              clear h0 h1 d50 d51
              go_wp2_with fail
              refine (pick_any R _ 3 _ S.2.2.2.2.2.1 (by omega) (by omega) (by omega)).mono ?_
              rintro e w7 ⟨d6, rfl, d60, d61, R5, T5⟩
              replace S := S.pick R5 T5
              replace xn := xn.but_ T5 (by have := S.2.2.2.2.1; have := S.2.2.1; omega)
              clear R5 T5 y0 y1
              obtain ⟨y0, y1, -⟩ := id S.2.1.reads
              by_cases h3 : d6 = 0
              · have e7 : (d6 == 0) = true := by rw [h3]; rfl
                clear h3 d60 d61
                obtain ⟨x, b2, hx⟩ := late_ex c t
                have CT := hid (specCoordinatorTimeout_is x b2 _ c t w7 S.2.2.2.1.crd HF.out.fit hx)
                go_wp2_with fail
                refine CT.out.mono ?_
                rintro e W ⟨v9, col9, rfl, o9', d9⟩
                have hxv := hx.valid
                have zz := S.size
                replace S := S.call d9
                replace xn := xn.later d9
                have o9 := o9'.base zz
                obtain ⟨A9, c9, B9, e9, rfl, -⟩ := o9.form
                unfold crV at o9 ⊢
                clear CT hx zz d9 o9' y0 y1 e5 e6 e7
                obtain ⟨z0, z1, zff⟩ := id xn.reads
                have zf0 := zff 0
                have zf1 := zff 1
                have S9 := (S.stored xn hgn 0 (.slice A9 x.ts.length c9)).stored (xn.set0 (.slice A9 x.ts.length c9)) hgn 1 (.slice B9 x.os.length e9)
                have o8 := (o9.keptT (by decide) (by decide) (by decide) (by decide) (but_set W gn 0 (.slice A9 x.ts.length c9)) (blk_type xn)).keptT (by decide) (by decide) (by decide) (by decide) (but_set _ gn 1 (.slice B9 x.os.length e9)) (blk_type (xn.set0 (.slice A9 x.ts.length c9)))
                have x8 := (xn.set0 (.slice A9 x.ts.length c9)).set1 (.slice B9 x.os.length e9)
                clear zff
                go_upto_region 17 with fail
                clear S xn o9 z0 z1 zf0 zf1
                obtain ⟨W, hWW⟩ : ∃ wz, (W.setCell ⟨gn, 0, none⟩ (.slice A9 x.ts.length c9)).setCell ⟨gn, 1, none⟩ (.slice B9 x.os.length e9) = wz := ⟨_, rfl⟩
                rw [hWW] at S9 o8 x8 ⊢
                have S := S9
                have o9 := o8
                have xn := x8
                clear S9 o8 x8 hWW
                have HVn := hid hxv
                have CW := hid (specCoordinatorValid_is true (.agg #[.slice A9 x.ts.length c9, .slice B9 x.os.length e9]) x W o9.crd (cv_few hxv).1.fit ⟨fun _ => hxv, fun _ => rfl⟩)
                obtain ⟨u0, u1, -⟩ := id xn.reads
                clear hxv
                go_wp2_with fail
                refine CW.out.mono ?_
                rintro e wg ⟨rfl, dg⟩
                replace S := S.call dg
                replace xn := xn.later dg
                replace o9 := o9.below dg
                clear CW dg u0 u1
                obtain ⟨u0, u1, -⟩ := id xn.reads
                obtain ⟨y0, y1, yf⟩ := id S.2.1.reads
                have yf0 := yf 0
                have yf1 := yf 1
                have S9 := S.next o9
                clear yf xn o9 S
                go_wp2
                go_roundw
                case rel => exact ⟨k + 1, x, _, _, _, _, _, by omega, by go_num, HVn, S9.more (by push_cast; omega)⟩
                case measure => simp [intOf]; omega
              · have e7 : (d6 == 0) = false := by rw [beq_eq_false_iff_ne]; exact h3
                clear h3 d60 d61
                go_upto_region 17 with fail
                obtain ⟨W, hWW⟩ : ∃ wz, w7 = wz := ⟨_, rfl⟩
                obtain ⟨x, hxc⟩ : ∃ x, c = x := ⟨_, rfl⟩
                rw [hWW] at S xn y0 y1 ⊢
                rw [hxc] at S xn y0 y1 HV HF ⊢
                have hxv := HV.out
                have o9 := S.2.2.2.1
                clear hWW hxc e5 e6 e7 y0 y1
                have HVn := hid hxv
                have CW := hid (specCoordinatorValid_is true (.agg #[.slice Aa x.ts.length ca, .slice Ab x.os.length cb]) x W o9.crd (cv_few hxv).1.fit ⟨fun _ => hxv, fun _ => rfl⟩)
                obtain ⟨u0, u1, -⟩ := id xn.reads
                clear hxv
                go_wp2_with fail
                refine CW.out.mono ?_
                rintro e wg ⟨rfl, dg⟩
                replace S := S.call dg
                replace xn := xn.later dg
                replace o9 := o9.below dg
                clear CW dg u0 u1
                obtain ⟨u0, u1, -⟩ := id xn.reads
                obtain ⟨y0, y1, yf⟩ := id S.2.1.reads
                have yf0 := yf 0
                have yf1 := yf 1
                have S9 := S.next o9
                clear yf xn o9 S
                go_wp2
                go_roundw
                case rel => exact ⟨k + 1, x, _, _, _, _, _, by omega, by go_num, HVn, S9.more (by push_cast; omega)⟩
                case measure => simp [intOf]; omega
            · have e6 : (d5 == 1) = false := by rw [beq_eq_false_iff_ne]; exact h1
              clear h0 h1 d50 d51
              go_wp2_with fail
              refine wp_region_held_drew (S := fun x => x.cell? ⟨g, 0, none⟩ = some (.slice Aa c.ts.length ca) ∧ x.cell? ⟨g, 1, none⟩ = some (.slice Ab c.os.length cb)) (by kernel_rfl) ⟨(S.call (Below.refl _ _).drew).2.1.reads.1, (S.call (Below.refl _ _).drew).2.1.reads.2.1⟩ (fun hHeld => ?_)
              replace S := S.call (Below.refl _ _).drew
              replace xn := xn.later (Below.refl _ _).drew
              obtain ⟨W, hW⟩ : ∃ x, w6.drew = x := ⟨_, rfl⟩
              rw [hW] at S xn hHeld ⊢
              clear hW y0 y1 e5 e6
              try simp only [Act.put, List.getElem_toArray, List.getElem_cons_succ, List.getElem_cons_zero, List.setIfInBounds_toArray, List.set_cons_zero, List.set_cons_succ]
              refine wpAnyH_take (i := 0) (oi := _) (v := ?_) rfl (by kernel_rfl) (by kernel_rfl) (by kernel_rfl) (fun _ _ _ h => h) (Or.inl ⟨by rfl, ?_⟩) hHeld ?_
              rotate_left
              · (intro w' hSw; (try dsimp only at hSw); go_simp <;> with_reducible rfl)
              try simp only [Act.put, List.getElem_toArray, List.getElem_cons_succ, List.getElem_cons_zero, List.setIfInBounds_toArray, List.set_cons_zero, List.set_cons_succ]
              refine wpAnyH_take (i := 1) (oi := _) (v := ?_) rfl (by kernel_rfl) (by kernel_rfl) (by kernel_rfl) (fun _ _ _ h => h) (Or.inl ⟨by rfl, ?_⟩) hHeld ?_
              rotate_left
              · (intro w' hSw; (try dsimp only at hSw); go_simp <;> with_reducible rfl)
              try simp only [Act.put, List.getElem_toArray, List.getElem_cons_succ, List.getElem_cons_zero, List.setIfInBounds_toArray, List.set_cons_zero, List.set_cons_succ]
              refine wpAnyH_take (i := 2) (oi := _) (v := ?_) rfl (by kernel_rfl) (by kernel_rfl) (by kernel_rfl) (fun _ _ _ h => h) (Or.inl ⟨by rfl, ?_⟩) hHeld ?_
              rotate_left
              · (intro w' hSw; (try dsimp only at hSw); go_simp <;> with_reducible rfl)
              try simp only [Act.put, List.getElem_toArray, List.getElem_cons_succ, List.getElem_cons_zero, List.setIfInBounds_toArray, List.set_cons_zero, List.set_cons_succ]
              refine wpAnyH_take (i := 4) (oi := _) (v := ?_) rfl (by kernel_rfl) (by kernel_rfl) (by kernel_rfl) (fun _ _ _ h => h) (Or.inl ⟨by rfl, ?_⟩) hHeld ?_
              rotate_left
              · (intro w' hSw; (try dsimp only at hSw); go_simp <;> with_reducible rfl)
              try simp only [Act.put, List.getElem_toArray, List.getElem_cons_succ, List.getElem_cons_zero, List.setIfInBounds_toArray, List.set_cons_zero, List.set_cons_succ]
              refine wpAnyH_ready (rs := [3]) (by kernel_rfl) (by simp) (AllReadyH.cons (o := _) rfl (fun K hK => ?_) AllReadyH.nil)
              try simp only [Act.put, List.getElem_toArray, List.getElem_cons_succ, List.getElem_cons_zero, List.setIfInBounds_toArray, List.set_cons_zero, List.set_cons_succ]
              go_simp
              go_at_call 48
              refine (pick_any R _ 3 _ S.2.2.2.2.2.1 (by omega) (by omega) (by omega)).mono ?_
              rintro e W ⟨s, rfl, s0, s1, R6, T6⟩
              replace S := S.pick R6 T6
              replace xn := xn.but_ T6 (by have := S.2.2.2.2.1; have := S.2.2.1; omega)
              clear R6 T6
              refine hK.out _ _ ⟨S.2.1.reads.1, S.2.1.reads.2.1⟩ (fun hHeld => ?_)
              clear hK K
              try simp only [Act.put, List.getElem_toArray, List.getElem_cons_succ, List.getElem_cons_zero, List.setIfInBounds_toArray, List.set_cons_zero, List.set_cons_succ]
              refine wpAnyH_ready (rs := [5]) (by kernel_rfl) (by simp) (AllReadyH.cons (o := _) rfl (fun K hK => ?_) AllReadyH.nil)
              try simp only [Act.put, List.getElem_toArray, List.getElem_cons_succ, List.getElem_cons_zero, List.setIfInBounds_toArray, List.set_cons_zero, List.set_cons_succ]
              go_simp
              go_at_call 48
              refine (pick_any R _ 6 _ S.2.2.2.2.2.1 (by omega) (by omega) (by omega)).mono ?_
              rintro e W ⟨y, rfl, yy0, yy1, R6, T6⟩
              replace S := S.pick R6 T6
              replace xn := xn.but_ T6 (by have := S.2.2.2.2.1; have := S.2.2.1; omega)
              clear R6 T6
              refine hK.out _ _ ⟨S.2.1.reads.1, S.2.1.reads.2.1⟩ (fun hHeld => ?_)
              clear hK K
              try simp only [Act.put, List.getElem_toArray, List.getElem_cons_succ, List.getElem_cons_zero, List.setIfInBounds_toArray, List.set_cons_zero, List.set_cons_succ]
              refine wpAnyH_take (i := 6) (oi := _) (v := ?_) rfl (by kernel_rfl) (by kernel_rfl) (by kernel_rfl) (fun _ _ _ h => h) (Or.inl ⟨by rfl, ?_⟩) hHeld ?_
              rotate_left
              · (intro w' hSw; (try dsimp only at hSw); go_simp <;> with_reducible rfl)
              try simp only [Act.put, List.getElem_toArray, List.getElem_cons_succ, List.getElem_cons_zero, List.setIfInBounds_toArray, List.set_cons_zero, List.set_cons_succ]
              obtain ⟨by_, hby⟩ : ∃ b, decide (0 < y) = b := ⟨_, rfl⟩
              refine wpAnyH_ready (rs := [7]) (by kernel_rfl) (by simp) (AllReadyH.cons (o := _) rfl (fun K hK => ?_) AllReadyH.nil)
              try simp only [Act.put, List.getElem_toArray, List.getElem_cons_succ, List.getElem_cons_zero, List.setIfInBounds_toArray, List.set_cons_zero, List.set_cons_succ]
              go_simp
              try rw [hby]
              go_at_call 26
              obtain ⟨x, b2, hx⟩ := counted_ex c t s by_
              refine (specCoordinatorVote_is x b2 _ c t s by_ W S.2.2.2.1.crd HF.out.fit hx).mono ?_
              rintro e W ⟨v9, col9, rfl, o9', d9⟩
              have hxv := hx.valid
              have zz := S.size
              replace S := S.call d9
              replace xn := xn.later d9
              have o9 := o9'.base zz
              obtain ⟨A9, c9, B9, e9, rfl, -⟩ := o9.form
              unfold crV at o9 ⊢
              clear hx zz d9 o9'
              refine hK.out _ _ ⟨S.2.1.reads.1, S.2.1.reads.2.1⟩ (fun hHeld => ?_)
              clear hK K
              try simp only [Act.put, List.getElem_toArray, List.getElem_cons_succ, List.getElem_cons_zero, List.setIfInBounds_toArray, List.set_cons_zero, List.set_cons_succ]
              refine wpAnyH_take (i := 8) (oi := _) (v := ?_) rfl (by kernel_rfl) (by kernel_rfl) (by kernel_rfl) (fun _ _ _ h => h) (Or.inl ⟨by rfl, ?_⟩) hHeld ?_
              rotate_left
              · (intro w' hSw; (try dsimp only at hSw); go_simp <;> with_reducible rfl)
              try simp only [Act.put, List.getElem_toArray, List.getElem_cons_succ, List.getElem_cons_zero, List.setIfInBounds_toArray, List.set_cons_zero, List.set_cons_succ]
              refine wpAnyH_take (i := 9) (oi := _) (v := ?_) rfl (by kernel_rfl) (by kernel_rfl) (by kernel_rfl) (fun _ _ _ h => h) (Or.inl ⟨by rfl, ?_⟩) hHeld ?_
              rotate_left
              · (intro w' hSw; (try dsimp only at hSw); go_simp <;> with_reducible rfl)
              try simp only [Act.put, List.getElem_toArray, List.getElem_cons_succ, List.getElem_cons_zero, List.setIfInBounds_toArray, List.set_cons_zero, List.set_cons_succ]
              refine wpAnyH_take (i := 10) (oi := _) (v := ?_) rfl (by kernel_rfl) (by kernel_rfl) (by kernel_rfl) (fun _ _ _ h => h) (Or.inl ⟨by rfl, ?_⟩) hHeld ?_
              rotate_left
              · (intro w' hSw; (try dsimp only at hSw); go_simp <;> with_reducible rfl)
              try simp only [Act.put, List.getElem_toArray, List.getElem_cons_succ, List.getElem_cons_zero, List.setIfInBounds_toArray, List.set_cons_zero, List.set_cons_succ]
              obtain ⟨z0, z1, zff⟩ := id xn.reads
              have zf0 := zff 0
              have zf1 := zff 1
              have S9 := (S.stored xn hgn 0 (.slice A9 x.ts.length c9)).stored (xn.set0 (.slice A9 x.ts.length c9)) hgn 1 (.slice B9 x.os.length e9)
              have o8 := (o9.keptT (by decide) (by decide) (by decide) (by decide) (but_set W gn 0 (.slice A9 x.ts.length c9)) (blk_type xn)).keptT (by decide) (by decide) (by decide) (by decide) (but_set _ gn 1 (.slice B9 x.os.length e9)) (blk_type (xn.set0 (.slice A9 x.ts.length c9)))
              have x8 := (xn.set0 (.slice A9 x.ts.length c9)).set1 (.slice B9 x.os.length e9)
              clear zff
              refine wpAnyH_ready (rs := [11]) (by kernel_rfl) (by simp) (AllReadyH.cons (o := _) rfl (fun K hK => ?_) AllReadyH.nil)
              try simp only [Act.put, List.getElem_toArray, List.getElem_cons_succ, List.getElem_cons_zero, List.setIfInBounds_toArray, List.set_cons_zero, List.set_cons_succ]
              go_simp
              refine hK.out _ _ ⟨S9.2.1.reads.1, S9.2.1.reads.2.1⟩ (fun hHeld => ?_)
              clear hK K
              try simp only [Act.put, List.getElem_toArray, List.getElem_cons_succ, List.getElem_cons_zero, List.setIfInBounds_toArray, List.set_cons_zero, List.set_cons_succ]
              refine wpAnyH_done (by kernel_rfl) ?_ _
              clear S xn o9 z0 z1 zf0 zf1 hHeld
              obtain ⟨W, hWW⟩ : ∃ wz, (W.setCell ⟨gn, 0, none⟩ (.slice A9 x.ts.length c9)).setCell ⟨gn, 1, none⟩ (.slice B9 x.os.length e9) = wz := ⟨_, rfl⟩
              rw [hWW] at S9 o8 x8 ⊢
              have S := S9
              have o9 := o8
              have xn := x8
              clear S9 o8 x8 hWW
              have HVn := hid hxv
              have CW := hid (specCoordinatorValid_is true (.agg #[.slice A9 x.ts.length c9, .slice B9 x.os.length e9]) x W o9.crd (cv_few hxv).1.fit ⟨fun _ => hxv, fun _ => rfl⟩)
              obtain ⟨u0, u1, -⟩ := id xn.reads
              clear hxv
              go_wp2_with fail
              refine CW.out.mono ?_
              rintro e wg ⟨rfl, dg⟩
              replace S := S.call dg
              replace xn := xn.later dg
              replace o9 := o9.below dg
              clear CW dg u0 u1
              obtain ⟨u0, u1, -⟩ := id xn.reads
              obtain ⟨y0, y1, yf⟩ := id S.2.1.reads
              have yf0 := yf 0
              have yf1 := yf 1
              have S9 := S.next o9
              clear yf xn o9 S
              go_wp2
              go_roundw
              case rel => exact ⟨k + 1, x, _, _, _, _, _, by omega, by go_num, HVn, S9.more (by push_cast; omega)⟩
              case measure => simp [intOf]; omega
        · go_wp2_with fail
          refine (pick_any R _ 1 _ S.2.2.2.2.2.1 (by omega) (by omega) (by omega)).mono ?_
          rintro e w5 ⟨t, rfl, t0, t1, R5, T5⟩
          replace S := S.pick R5 T5
          replace xn := xn.but_ T5 (by have := S.2.2.2.2.1; have := S.2.2.1; omega)
          clear R5 T5 y0 y1
          obtain ⟨y0, y1, -⟩ := id S.2.1.reads
          clear hmx o9
          go_wp2_with fail
          refine (pick_any R _ 5 _ S.2.2.2.2.2.1 (by omega) (by omega) (by omega)).mono ?_
          rintro e w6 ⟨d5, rfl, d50, d51, R5, T5⟩
          replace S := S.pick R5 T5
          replace xn := xn.but_ T5 (by have := S.2.2.2.2.1; have := S.2.2.1; omega)
          clear R5 T5 y0 y1
          obtain ⟨y0, y1, -⟩ := id S.2.1.reads
          by_cases h0 : d5 = 0
          · have e5 : (d5 == 0) = true := by rw [h0]; rfl
            clear h0 d50 d51
            go_wp2_with fail
            refine wp_region_held_drew (S := fun x => x.cell? ⟨g, 0, none⟩ = some (.slice Aa c.ts.length ca) ∧ x.cell? ⟨g, 1, none⟩ = some (.slice Ab c.os.length cb)) (by kernel_rfl) ⟨(S.call (Below.refl _ _).drew).2.1.reads.1, (S.call (Below.refl _ _).drew).2.1.reads.2.1⟩ (fun hHeld => ?_)
            replace S := S.call (Below.refl _ _).drew
            replace xn := xn.later (Below.refl _ _).drew
            obtain ⟨W, hW⟩ : ∃ x, w6.drew = x := ⟨_, rfl⟩
            rw [hW] at S xn hHeld ⊢
            clear hW y0 y1 e5
            try simp only [Act.put, List.getElem_toArray, List.getElem_cons_succ, List.getElem_cons_zero, List.setIfInBounds_toArray, List.set_cons_zero, List.set_cons_succ]
            refine wpAnyH_take (i := 0) (oi := _) (v := ?_) rfl (by kernel_rfl) (by kernel_rfl) (by kernel_rfl) (fun _ _ _ h => h) (Or.inl ⟨by rfl, ?_⟩) hHeld ?_
            rotate_left
            · (intro w' hSw; (try dsimp only at hSw); go_simp <;> with_reducible rfl)
            try simp only [Act.put, List.getElem_toArray, List.getElem_cons_succ, List.getElem_cons_zero, List.setIfInBounds_toArray, List.set_cons_zero, List.set_cons_succ]
            refine wpAnyH_take (i := 1) (oi := _) (v := ?_) rfl (by kernel_rfl) (by kernel_rfl) (by kernel_rfl) (fun _ _ _ h => h) (Or.inl ⟨by rfl, ?_⟩) hHeld ?_
            rotate_left
            · (intro w' hSw; (try dsimp only at hSw); go_simp <;> with_reducible rfl)
            try simp only [Act.put, List.getElem_toArray, List.getElem_cons_succ, List.getElem_cons_zero, List.setIfInBounds_toArray, List.set_cons_zero, List.set_cons_succ]
            refine wpAnyH_ready (rs := [2]) (by kernel_rfl) (by simp) (AllReadyH.cons (o := _) rfl (fun K hK => ?_) AllReadyH.nil)
            try simp only [Act.put, List.getElem_toArray, List.getElem_cons_succ, List.getElem_cons_zero, List.setIfInBounds_toArray, List.set_cons_zero, List.set_cons_succ]
            go_simp
            go_at_call 69
            refine (l92Parts_any R _ W S.2.2.2.2.2.1 (by omega)).mono ?_
            rintro e W ⟨vp, ps, rfl, op, hpl, hsm, R6, T6⟩
            replace S := S.pick R6 T6
            replace xn := xn.but_ T6 (by have := S.2.2.2.2.1; have := S.2.2.1; omega)
            obtain ⟨Ap, cp, rfl, rp, -⟩ := op.form
            have HSM := hid hsm
            clear R6 T6 op hsm
            refine hK.out _ _ ⟨S.2.1.reads.1, S.2.1.reads.2.1⟩ (fun hHeld => ?_)
            clear hK K
            try simp only [Act.put, List.getElem_toArray, List.getElem_cons_succ, List.getElem_cons_zero, List.setIfInBounds_toArray, List.set_cons_zero, List.set_cons_succ]
            refine wpAnyH_ready (rs := [3]) (by kernel_rfl) (by simp) (AllReadyH.cons (o := _) rfl (fun K hK => ?_) AllReadyH.nil)
            try simp only [Act.put, List.getElem_toArray, List.getElem_cons_succ, List.getElem_cons_zero, List.setIfInBounds_toArray, List.set_cons_zero, List.set_cons_succ]
            go_simp
            go_at_call 30
            obtain ⟨x, b2, hx⟩ := begun_ex c ps
            refine (specCoordinatorBegin_is x b2 _ c Ap cp ps W S.2.2.2.1.crd HF.out.fit rp (by omega) (fun p hp => by have := HSM.out p hp; omega) hx).mono ?_
            rintro e W ⟨v9, col9, rfl, o9', d9⟩
            have hxv := hx.valid
            have zz := S.size
            replace S := S.call d9
            replace xn := xn.later d9
            have o9 := o9'.base zz
            obtain ⟨A9, c9, B9, e9, rfl, -⟩ := o9.form
            unfold crV at o9 ⊢
            clear hx zz d9 o9'
            refine hK.out _ _ ⟨S.2.1.reads.1, S.2.1.reads.2.1⟩ (fun hHeld => ?_)
            clear hK K
            try simp only [Act.put, List.getElem_toArray, List.getElem_cons_succ, List.getElem_cons_zero, List.setIfInBounds_toArray, List.set_cons_zero, List.set_cons_succ]
            refine wpAnyH_take (i := 4) (oi := _) (v := ?_) rfl (by kernel_rfl) (by kernel_rfl) (by kernel_rfl) (fun _ _ _ h => h) (Or.inl ⟨by rfl, ?_⟩) hHeld ?_
            rotate_left
            · (intro w' hSw; (try dsimp only at hSw); go_simp <;> with_reducible rfl)
            try simp only [Act.put, List.getElem_toArray, List.getElem_cons_succ, List.getElem_cons_zero, List.setIfInBounds_toArray, List.set_cons_zero, List.set_cons_succ]
            refine wpAnyH_take (i := 5) (oi := _) (v := ?_) rfl (by kernel_rfl) (by kernel_rfl) (by kernel_rfl) (fun _ _ _ h => h) (Or.inl ⟨by rfl, ?_⟩) hHeld ?_
            rotate_left
            · (intro w' hSw; (try dsimp only at hSw); go_simp <;> with_reducible rfl)
            try simp only [Act.put, List.getElem_toArray, List.getElem_cons_succ, List.getElem_cons_zero, List.setIfInBounds_toArray, List.set_cons_zero, List.set_cons_succ]
            refine wpAnyH_take (i := 6) (oi := _) (v := ?_) rfl (by kernel_rfl) (by kernel_rfl) (by kernel_rfl) (fun _ _ _ h => h) (Or.inl ⟨by rfl, ?_⟩) hHeld ?_
            rotate_left
            · (intro w' hSw; (try dsimp only at hSw); go_simp <;> with_reducible rfl)
            try simp only [Act.put, List.getElem_toArray, List.getElem_cons_succ, List.getElem_cons_zero, List.setIfInBounds_toArray, List.set_cons_zero, List.set_cons_succ]
            obtain ⟨z0, z1, zff⟩ := id xn.reads
            have zf0 := zff 0
            have zf1 := zff 1
            have S9 := (S.stored xn hgn 0 (.slice A9 x.ts.length c9)).stored (xn.set0 (.slice A9 x.ts.length c9)) hgn 1 (.slice B9 x.os.length e9)
            have o8 := (o9.keptT (by decide) (by decide) (by decide) (by decide) (but_set W gn 0 (.slice A9 x.ts.length c9)) (blk_type xn)).keptT (by decide) (by decide) (by decide) (by decide) (but_set _ gn 1 (.slice B9 x.os.length e9)) (blk_type (xn.set0 (.slice A9 x.ts.length c9)))
            have x8 := (xn.set0 (.slice A9 x.ts.length c9)).set1 (.slice B9 x.os.length e9)
            clear zff
            refine wpAnyH_ready (rs := [7]) (by kernel_rfl) (by simp) (AllReadyH.cons (o := _) rfl (fun K hK => ?_) AllReadyH.nil)
            try simp only [Act.put, List.getElem_toArray, List.getElem_cons_succ, List.getElem_cons_zero, List.setIfInBounds_toArray, List.set_cons_zero, List.set_cons_succ]
            go_simp
            refine hK.out _ _ ⟨S9.2.1.reads.1, S9.2.1.reads.2.1⟩ (fun hHeld => ?_)
            clear hK K
            try simp only [Act.put, List.getElem_toArray, List.getElem_cons_succ, List.getElem_cons_zero, List.setIfInBounds_toArray, List.set_cons_zero, List.set_cons_succ]
            refine wpAnyH_done (by kernel_rfl) ?_ _
            clear S xn o9 z0 z1 zf0 zf1 hHeld
            obtain ⟨W, hWW⟩ : ∃ wz, (W.setCell ⟨gn, 0, none⟩ (.slice A9 x.ts.length c9)).setCell ⟨gn, 1, none⟩ (.slice B9 x.os.length e9) = wz := ⟨_, rfl⟩
            rw [hWW] at S9 o8 x8 ⊢
            have S := S9
            have o9 := o8
            have xn := x8
            clear S9 o8 x8 hWW
            have HVn := hid hxv
            have CW := hid (specCoordinatorValid_is true (.agg #[.slice A9 x.ts.length c9, .slice B9 x.os.length e9]) x W o9.crd (cv_few hxv).1.fit ⟨fun _ => hxv, fun _ => rfl⟩)
            obtain ⟨u0, u1, -⟩ := id xn.reads
            clear hxv
            go_wp2_with fail
            refine CW.out.mono ?_
            rintro e wg ⟨rfl, dg⟩
            replace S := S.call dg
            replace xn := xn.later dg
            replace o9 := o9.below dg
            clear CW dg u0 u1
            obtain ⟨u0, u1, -⟩ := id xn.reads
            obtain ⟨y0, y1, yf⟩ := id S.2.1.reads
            have yf0 := yf 0
            have yf1 := yf 1
            have S9 := S.next o9
            clear yf xn o9 S
            go_wp2
            go_roundw
            case rel => exact ⟨k + 1, x, _, _, _, _, _, by omega, by go_num, HVn, S9.more (by push_cast; omega)⟩
            case measure => simp [intOf]; omega
          · have e5 : (d5 == 0) = false := by rw [beq_eq_false_iff_ne]; exact h0
            by_cases h1 : d5 = 1
            · have e6 : (d5 == 1) = true := by rw [h1]; rfl
              clear h0 h1 d50 d51
              go_wp2_with fail
              refine (pick_any R _ 3 _ S.2.2.2.2.2.1 (by omega) (by omega) (by omega)).mono ?_
              rintro e w7 ⟨d6, rfl, d60, d61, R5, T5⟩
              replace S := S.pick R5 T5
              replace xn := xn.but_ T5 (by have := S.2.2.2.2.1; have := S.2.2.1; omega)
              clear R5 T5 y0 y1
              obtain ⟨y0, y1, -⟩ := id S.2.1.reads
              by_cases h3 : d6 = 0
              · have e7 : (d6 == 0) = true := by rw [h3]; rfl
                clear h3 d60 d61
                obtain ⟨x, b2, hx⟩ := late_ex c t
                have CT := hid (specCoordinatorTimeout_is x b2 _ c t w7 S.2.2.2.1.crd HF.out.fit hx)
                go_wp2_with fail
                refine CT.out.mono ?_
                rintro e W ⟨v9, col9, rfl, o9', d9⟩
                have hxv := hx.valid
                have zz := S.size
                replace S := S.call d9
                replace xn := xn.later d9
                have o9 := o9'.base zz
                obtain ⟨A9, c9, B9, e9, rfl, -⟩ := o9.form
                unfold crV at o9 ⊢
                clear CT hx zz d9 o9' y0 y1 e5 e6 e7
                obtain ⟨z0, z1, zff⟩ := id xn.reads
                have zf0 := zff 0
                have zf1 := zff 1
                have S9 := (S.stored xn hgn 0 (.slice A9 x.ts.length c9)).stored (xn.set0 (.slice A9 x.ts.length c9)) hgn 1 (.slice B9 x.os.length e9)
                have o8 := (o9.keptT (by decide) (by decide) (by decide) (by decide) (but_set W gn 0 (.slice A9 x.ts.length c9)) (blk_type xn)).keptT (by decide) (by decide) (by decide) (by decide) (but_set _ gn 1 (.slice B9 x.os.length e9)) (blk_type (xn.set0 (.slice A9 x.ts.length c9)))
                have x8 := (xn.set0 (.slice A9 x.ts.length c9)).set1 (.slice B9 x.os.length e9)
                clear zff
                go_upto_region 17 with fail
                clear S xn o9 z0 z1 zf0 zf1
                obtain ⟨W, hWW⟩ : ∃ wz, (W.setCell ⟨gn, 0, none⟩ (.slice A9 x.ts.length c9)).setCell ⟨gn, 1, none⟩ (.slice B9 x.os.length e9) = wz := ⟨_, rfl⟩
                rw [hWW] at S9 o8 x8 ⊢
                have S := S9
                have o9 := o8
                have xn := x8
                clear S9 o8 x8 hWW
                have HVn := hid hxv
                have CW := hid (specCoordinatorValid_is true (.agg #[.slice A9 x.ts.length c9, .slice B9 x.os.length e9]) x W o9.crd (cv_few hxv).1.fit ⟨fun _ => hxv, fun _ => rfl⟩)
                obtain ⟨u0, u1, -⟩ := id xn.reads
                clear hxv
                go_wp2_with fail
                refine CW.out.mono ?_
                rintro e wg ⟨rfl, dg⟩
                replace S := S.call dg
                replace xn := xn.later dg
                replace o9 := o9.below dg
                clear CW dg u0 u1
                obtain ⟨u0, u1, -⟩ := id xn.reads
                obtain ⟨y0, y1, yf⟩ := id S.2.1.reads
                have yf0 := yf 0
                have yf1 := yf 1
                have S9 := S.next o9
                clear yf xn o9 S
                go_wp2
                go_roundw
                case rel => exact ⟨k + 1, x, _, _, _, _, _, by omega, by go_num, HVn, S9.more (by push_cast; omega)⟩
                case measure => simp [intOf]; omega
              · have e7 : (d6 == 0) = false := by rw [beq_eq_false_iff_ne]; exact h3
                clear h3 d60 d61
                go_upto_region 17 with fail
                obtain ⟨W, hWW⟩ : ∃ wz, w7 = wz := ⟨_, rfl⟩
                obtain ⟨x, hxc⟩ : ∃ x, c = x := ⟨_, rfl⟩
                rw [hWW] at S xn y0 y1 ⊢
                rw [hxc] at S xn y0 y1 HV HF ⊢
                have hxv := HV.out
                have o9 := S.2.2.2.1
                clear hWW hxc e5 e6 e7 y0 y1
                have HVn := hid hxv
                have CW := hid (specCoordinatorValid_is true (.agg #[.slice Aa x.ts.length ca, .slice Ab x.os.length cb]) x W o9.crd (cv_few hxv).1.fit ⟨fun _ => hxv, fun _ => rfl⟩)
                obtain ⟨u0, u1, -⟩ := id xn.reads
                clear hxv
                go_wp2_with fail
                refine CW.out.mono ?_
                rintro e wg ⟨rfl, dg⟩
                replace S := S.call dg
                replace xn := xn.later dg
                replace o9 := o9.below dg
                clear CW dg u0 u1
                obtain ⟨u0, u1, -⟩ := id xn.reads
                obtain ⟨y0, y1, yf⟩ := id S.2.1.reads
                have yf0 := yf 0
                have yf1 := yf 1
                have S9 := S.next o9
                clear yf xn o9 S
                go_wp2
                go_roundw
                case rel => exact ⟨k + 1, x, _, _, _, _, _, by omega, by go_num, HVn, S9.more (by push_cast; omega)⟩
                case measure => simp [intOf]; omega
            · have e6 : (d5 == 1) = false := by rw [beq_eq_false_iff_ne]; exact h1
              clear h0 h1 d50 d51
              go_wp2_with fail
              refine wp_region_held_drew (S := fun x => x.cell? ⟨g, 0, none⟩ = some (.slice Aa c.ts.length ca) ∧ x.cell? ⟨g, 1, none⟩ = some (.slice Ab c.os.length cb)) (by kernel_rfl) ⟨(S.call (Below.refl _ _).drew).2.1.reads.1, (S.call (Below.refl _ _).drew).2.1.reads.2.1⟩ (fun hHeld => ?_)
              replace S := S.call (Below.refl _ _).drew
              replace xn := xn.later (Below.refl _ _).drew
              obtain ⟨W, hW⟩ : ∃ x, w6.drew = x := ⟨_, rfl⟩
              rw [hW] at S xn hHeld ⊢
              clear hW y0 y1 e5 e6
              try simp only [Act.put, List.getElem_toArray, List.getElem_cons_succ, List.getElem_cons_zero, List.setIfInBounds_toArray, List.set_cons_zero, List.set_cons_succ]
              refine wpAnyH_take (i := 0) (oi := _) (v := ?_) rfl (by kernel_rfl) (by kernel_rfl) (by kernel_rfl) (fun _ _ _ h => h) (Or.inl ⟨by rfl, ?_⟩) hHeld ?_
              rotate_left
              · (intro w' hSw; (try dsimp only at hSw); go_simp <;> with_reducible rfl)
              try simp only [Act.put, List.getElem_toArray, List.getElem_cons_succ, List.getElem_cons_zero, List.setIfInBounds_toArray, List.set_cons_zero, List.set_cons_succ]
              refine wpAnyH_take (i := 1) (oi := _) (v := ?_) rfl (by kernel_rfl) (by kernel_rfl) (by kernel_rfl) (fun _ _ _ h => h) (Or.inl ⟨by rfl, ?_⟩) hHeld ?_
              rotate_left
              · (intro w' hSw; (try dsimp only at hSw); go_simp <;> with_reducible rfl)
              try simp only [Act.put, List.getElem_toArray, List.getElem_cons_succ, List.getElem_cons_zero, List.setIfInBounds_toArray, List.set_cons_zero, List.set_cons_succ]
              refine wpAnyH_take (i := 2) (oi := _) (v := ?_) rfl (by kernel_rfl) (by kernel_rfl) (by kernel_rfl) (fun _ _ _ h => h) (Or.inl ⟨by rfl, ?_⟩) hHeld ?_
              rotate_left
              · (intro w' hSw; (try dsimp only at hSw); go_simp <;> with_reducible rfl)
              try simp only [Act.put, List.getElem_toArray, List.getElem_cons_succ, List.getElem_cons_zero, List.setIfInBounds_toArray, List.set_cons_zero, List.set_cons_succ]
              refine wpAnyH_take (i := 4) (oi := _) (v := ?_) rfl (by kernel_rfl) (by kernel_rfl) (by kernel_rfl) (fun _ _ _ h => h) (Or.inl ⟨by rfl, ?_⟩) hHeld ?_
              rotate_left
              · (intro w' hSw; (try dsimp only at hSw); go_simp <;> with_reducible rfl)
              try simp only [Act.put, List.getElem_toArray, List.getElem_cons_succ, List.getElem_cons_zero, List.setIfInBounds_toArray, List.set_cons_zero, List.set_cons_succ]
              refine wpAnyH_ready (rs := [3]) (by kernel_rfl) (by simp) (AllReadyH.cons (o := _) rfl (fun K hK => ?_) AllReadyH.nil)
              try simp only [Act.put, List.getElem_toArray, List.getElem_cons_succ, List.getElem_cons_zero, List.setIfInBounds_toArray, List.set_cons_zero, List.set_cons_succ]
              go_simp
              go_at_call 48
              refine (pick_any R _ 3 _ S.2.2.2.2.2.1 (by omega) (by omega) (by omega)).mono ?_
              rintro e W ⟨s, rfl, s0, s1, R6, T6⟩
              replace S := S.pick R6 T6
              replace xn := xn.but_ T6 (by have := S.2.2.2.2.1; have := S.2.2.1; omega)
              clear R6 T6
              refine hK.out _ _ ⟨S.2.1.reads.1, S.2.1.reads.2.1⟩ (fun hHeld => ?_)
              clear hK K
              try simp only [Act.put, List.getElem_toArray, List.getElem_cons_succ, List.getElem_cons_zero, List.setIfInBounds_toArray, List.set_cons_zero, List.set_cons_succ]
              refine wpAnyH_ready (rs := [5]) (by kernel_rfl) (by simp) (AllReadyH.cons (o := _) rfl (fun K hK => ?_) AllReadyH.nil)
              try simp only [Act.put, List.getElem_toArray, List.getElem_cons_succ, List.getElem_cons_zero, List.setIfInBounds_toArray, List.set_cons_zero, List.set_cons_succ]
              go_simp
              go_at_call 48
              refine (pick_any R _ 6 _ S.2.2.2.2.2.1 (by omega) (by omega) (by omega)).mono ?_
              rintro e W ⟨y, rfl, yy0, yy1, R6, T6⟩
              replace S := S.pick R6 T6
              replace xn := xn.but_ T6 (by have := S.2.2.2.2.1; have := S.2.2.1; omega)
              clear R6 T6
              refine hK.out _ _ ⟨S.2.1.reads.1, S.2.1.reads.2.1⟩ (fun hHeld => ?_)
              clear hK K
              try simp only [Act.put, List.getElem_toArray, List.getElem_cons_succ, List.getElem_cons_zero, List.setIfInBounds_toArray, List.set_cons_zero, List.set_cons_succ]
              refine wpAnyH_take (i := 6) (oi := _) (v := ?_) rfl (by kernel_rfl) (by kernel_rfl) (by kernel_rfl) (fun _ _ _ h => h) (Or.inl ⟨by rfl, ?_⟩) hHeld ?_
              rotate_left
              · (intro w' hSw; (try dsimp only at hSw); go_simp <;> with_reducible rfl)
              try simp only [Act.put, List.getElem_toArray, List.getElem_cons_succ, List.getElem_cons_zero, List.setIfInBounds_toArray, List.set_cons_zero, List.set_cons_succ]
              obtain ⟨by_, hby⟩ : ∃ b, decide (0 < y) = b := ⟨_, rfl⟩
              refine wpAnyH_ready (rs := [7]) (by kernel_rfl) (by simp) (AllReadyH.cons (o := _) rfl (fun K hK => ?_) AllReadyH.nil)
              try simp only [Act.put, List.getElem_toArray, List.getElem_cons_succ, List.getElem_cons_zero, List.setIfInBounds_toArray, List.set_cons_zero, List.set_cons_succ]
              go_simp
              try rw [hby]
              go_at_call 26
              obtain ⟨x, b2, hx⟩ := counted_ex c t s by_
              refine (specCoordinatorVote_is x b2 _ c t s by_ W S.2.2.2.1.crd HF.out.fit hx).mono ?_
              rintro e W ⟨v9, col9, rfl, o9', d9⟩
              have hxv := hx.valid
              have zz := S.size
              replace S := S.call d9
              replace xn := xn.later d9
              have o9 := o9'.base zz
              obtain ⟨A9, c9, B9, e9, rfl, -⟩ := o9.form
              unfold crV at o9 ⊢
              clear hx zz d9 o9'
              refine hK.out _ _ ⟨S.2.1.reads.1, S.2.1.reads.2.1⟩ (fun hHeld => ?_)
              clear hK K
              try simp only [Act.put, List.getElem_toArray, List.getElem_cons_succ, List.getElem_cons_zero, List.setIfInBounds_toArray, List.set_cons_zero, List.set_cons_succ]
              refine wpAnyH_take (i := 8) (oi := _) (v := ?_) rfl (by kernel_rfl) (by kernel_rfl) (by kernel_rfl) (fun _ _ _ h => h) (Or.inl ⟨by rfl, ?_⟩) hHeld ?_
              rotate_left
              · (intro w' hSw; (try dsimp only at hSw); go_simp <;> with_reducible rfl)
              try simp only [Act.put, List.getElem_toArray, List.getElem_cons_succ, List.getElem_cons_zero, List.setIfInBounds_toArray, List.set_cons_zero, List.set_cons_succ]
              refine wpAnyH_take (i := 9) (oi := _) (v := ?_) rfl (by kernel_rfl) (by kernel_rfl) (by kernel_rfl) (fun _ _ _ h => h) (Or.inl ⟨by rfl, ?_⟩) hHeld ?_
              rotate_left
              · (intro w' hSw; (try dsimp only at hSw); go_simp <;> with_reducible rfl)
              try simp only [Act.put, List.getElem_toArray, List.getElem_cons_succ, List.getElem_cons_zero, List.setIfInBounds_toArray, List.set_cons_zero, List.set_cons_succ]
              refine wpAnyH_take (i := 10) (oi := _) (v := ?_) rfl (by kernel_rfl) (by kernel_rfl) (by kernel_rfl) (fun _ _ _ h => h) (Or.inl ⟨by rfl, ?_⟩) hHeld ?_
              rotate_left
              · (intro w' hSw; (try dsimp only at hSw); go_simp <;> with_reducible rfl)
              try simp only [Act.put, List.getElem_toArray, List.getElem_cons_succ, List.getElem_cons_zero, List.setIfInBounds_toArray, List.set_cons_zero, List.set_cons_succ]
              obtain ⟨z0, z1, zff⟩ := id xn.reads
              have zf0 := zff 0
              have zf1 := zff 1
              have S9 := (S.stored xn hgn 0 (.slice A9 x.ts.length c9)).stored (xn.set0 (.slice A9 x.ts.length c9)) hgn 1 (.slice B9 x.os.length e9)
              have o8 := (o9.keptT (by decide) (by decide) (by decide) (by decide) (but_set W gn 0 (.slice A9 x.ts.length c9)) (blk_type xn)).keptT (by decide) (by decide) (by decide) (by decide) (but_set _ gn 1 (.slice B9 x.os.length e9)) (blk_type (xn.set0 (.slice A9 x.ts.length c9)))
              have x8 := (xn.set0 (.slice A9 x.ts.length c9)).set1 (.slice B9 x.os.length e9)
              clear zff
              refine wpAnyH_ready (rs := [11]) (by kernel_rfl) (by simp) (AllReadyH.cons (o := _) rfl (fun K hK => ?_) AllReadyH.nil)
              try simp only [Act.put, List.getElem_toArray, List.getElem_cons_succ, List.getElem_cons_zero, List.setIfInBounds_toArray, List.set_cons_zero, List.set_cons_succ]
              go_simp
              refine hK.out _ _ ⟨S9.2.1.reads.1, S9.2.1.reads.2.1⟩ (fun hHeld => ?_)
              clear hK K
              try simp only [Act.put, List.getElem_toArray, List.getElem_cons_succ, List.getElem_cons_zero, List.setIfInBounds_toArray, List.set_cons_zero, List.set_cons_succ]
              refine wpAnyH_done (by kernel_rfl) ?_ _
              clear S xn o9 z0 z1 zf0 zf1 hHeld
              obtain ⟨W, hWW⟩ : ∃ wz, (W.setCell ⟨gn, 0, none⟩ (.slice A9 x.ts.length c9)).setCell ⟨gn, 1, none⟩ (.slice B9 x.os.length e9) = wz := ⟨_, rfl⟩
              rw [hWW] at S9 o8 x8 ⊢
              have S := S9
              have o9 := o8
              have xn := x8
              clear S9 o8 x8 hWW
              have HVn := hid hxv
              have CW := hid (specCoordinatorValid_is true (.agg #[.slice A9 x.ts.length c9, .slice B9 x.os.length e9]) x W o9.crd (cv_few hxv).1.fit ⟨fun _ => hxv, fun _ => rfl⟩)
              obtain ⟨u0, u1, -⟩ := id xn.reads
              clear hxv
              go_wp2_with fail
              refine CW.out.mono ?_
              rintro e wg ⟨rfl, dg⟩
              replace S := S.call dg
              replace xn := xn.later dg
              replace o9 := o9.below dg
              clear CW dg u0 u1
              obtain ⟨u0, u1, -⟩ := id xn.reads
              obtain ⟨y0, y1, yf⟩ := id S.2.1.reads
              have yf0 := yf 0
              have yf1 := yf 1
              have S9 := S.next o9
              clear yf xn o9 S
              go_wp2
              go_roundw
              case rel => exact ⟨k + 1, x, _, _, _, _, _, by omega, by go_num, HVn, S9.more (by push_cast; omega)⟩
              case measure => simp [intOf]; omega
      · have e1 : decide ((k : Int) < n0) = false := decide_eq_false hlt
        clear hlt
        by_cases hc0 : c.ts.length = 0
        · have e2 : ((c.ts.length : Int) == 0) = true := by rw [beq_iff_eq]; omega
          have HSM := HF
          clear hc0 y0 y1
          obtain ⟨W, hW⟩ : ∃ x, wr = x := ⟨_, rfl⟩
          rw [hW] at S ⊢
          clear hW hf
          obtain ⟨y0, y1, -⟩ := id S.2.1.reads
          clear y0 y1
          obtain ⟨t0, t1, tf⟩ := id S.1.reads
          have tf0 := tf 0
          have tf1 := tf 1
          obtain ⟨u0, u1, -⟩ := id S.2.1.reads
          have o10 := (S.2.2.2.1.keptT (by decide) (by decide) (by decide) (by decide) (but_set W w.heap.size 0 (.slice Aa c.ts.length ca)) (blk_type S.1)).keptT (by decide) (by decide) (by decide) (by decide) (but_set _ w.heap.size 1 (.slice Ab c.os.length cb)) (blk_type (S.1.set0 (.slice Aa c.ts.length ca)))
          have R10 := (S.2.2.2.2.2.1.far S.2.2.2.2.1 0 (.slice Aa c.ts.length ca)).far S.2.2.2.2.1 1 (.slice Ab c.os.length cb)
          have T10 := (S.2.2.2.2.2.2.set_new (Nat.le_refl w.heap.size) 0 (.slice Aa c.ts.length ca)).set_new (Nat.le_refl w.heap.size) 1 (.slice Ab c.os.length cb)
          obtain ⟨p0, p1, -⟩ := ((S.1.set0 (.slice Aa c.ts.length ca)).set1 (.slice Ab c.os.length cb)).reads
          clear tf S
          go_wp2
          exact bodyPost_ret (v := .agg #[.slice Aa c.ts.length ca, .slice Ab c.os.length cb]) (by simp [results, Try.results47, go_sem, p0, p1]) rfl ⟨_, c, _, rfl, o10, HSM.out, R10.more (by push_cast; omega), T10⟩
        · have e2 : ((c.ts.length : Int) == 0) = false := by rw [beq_eq_false_iff_ne]; omega
          clear hf
          go_wp2_with fail
          refine (pick_any R _ (c.ts.length : Int) _ S.2.2.2.2.2.1 (by omega) (by omega) (by omega)).mono ?_
          rintro e w5 ⟨t, rfl, t0, t1, R5, T5⟩
          replace S := S.pick R5 T5
          clear R5 T5 y0 y1 e1 e2
          obtain ⟨y0, y1, -⟩ := id S.2.1.reads
          obtain ⟨n, rfl⟩ := Int.eq_ofNat_of_zero_le t0
          have hn : n < c.ts.length := by omega
          clear hc0
          go_wp2_with fail
          refine (pick_any R _ 20 _ S.2.2.2.2.2.1 (by omega) (by omega) (by omega)).mono ?_
          rintro e w6 ⟨d5, rfl, d50, d51, R5, T5⟩
          replace S := S.pick R5 T5
          clear R5 T5 y0 y1
          obtain ⟨y0, y1, yf⟩ := id S.2.1.reads
          have hps := HF.out.ps _ (List.getElem_mem hn)
          have hus := HF.out.us _ (List.getElem_mem hn)
          obtain ⟨gT, rfl, -⟩ := cr_head S.2.2.2.1 hn
          by_cases h0 : d5 = 0
          · have e5 : (d5 == 0) = true := by rw [h0]; rfl
            clear h0 d50 d51 yf
            go_wp2_with fail
            refine wp_region_held_drew (S := fun x => x.cell? ⟨g, 0, none⟩ = some (.slice (some ⟨gT, 0, none⟩) c.ts.length ca) ∧ x.cell? ⟨g, 1, none⟩ = some (.slice Ab c.os.length cb)) (by kernel_rfl) ⟨(S.call (Below.refl _ _).drew).2.1.reads.1, (S.call (Below.refl _ _).drew).2.1.reads.2.1⟩ (fun hHeld => ?_)
            replace S := S.call (Below.refl _ _).drew
            obtain ⟨W, hW⟩ : ∃ x, w6.drew = x := ⟨_, rfl⟩
            rw [hW] at S hHeld ⊢
            clear hW y0 y1 e5
            try simp only [Act.put, List.getElem_toArray, List.getElem_cons_succ, List.getElem_cons_zero, List.setIfInBounds_toArray, List.set_cons_zero, List.set_cons_succ]
            refine wpAnyH_take (i := 0) (oi := _) (v := ?_) rfl (by kernel_rfl) (by kernel_rfl) (by kernel_rfl) (fun _ _ _ h => h) (Or.inl ⟨by rfl, ?_⟩) hHeld ?_
            rotate_left
            · (intro w' hSw; (try dsimp only at hSw); go_simp <;> with_reducible rfl)
            try simp only [Act.put, List.getElem_toArray, List.getElem_cons_succ, List.getElem_cons_zero, List.setIfInBounds_toArray, List.set_cons_zero, List.set_cons_succ]
            refine wpAnyH_take (i := 1) (oi := _) (v := ?_) rfl (by kernel_rfl) (by kernel_rfl) (by kernel_rfl) (fun _ _ _ h => h) (Or.inl ⟨by rfl, ?_⟩) hHeld ?_
            rotate_left
            · (intro w' hSw; (try dsimp only at hSw); go_simp <;> with_reducible rfl)
            try simp only [Act.put, List.getElem_toArray, List.getElem_cons_succ, List.getElem_cons_zero, List.setIfInBounds_toArray, List.set_cons_zero, List.set_cons_succ]
            refine wpAnyH_take (i := 2) (oi := _) (v := ?_) rfl (by kernel_rfl) (by kernel_rfl) (by kernel_rfl) (fun _ _ _ h => h) (Or.inl ⟨by rfl, ?_⟩) hHeld ?_
            rotate_left
            · (intro w' hSw; (try dsimp only at hSw); go_simp <;> with_reducible rfl)
            try simp only [Act.put, List.getElem_toArray, List.getElem_cons_succ, List.getElem_cons_zero, List.setIfInBounds_toArray, List.set_cons_zero, List.set_cons_succ]
            refine wpAnyH_take (i := 3) (oi := _) (v := ?_) rfl (by kernel_rfl) (by kernel_rfl) (by kernel_rfl) (fun _ _ _ h => h) (Or.inl ⟨by rfl, ?_⟩) hHeld ?_
            rotate_left
            · (intro w' hSw; (try dsimp only at hSw); go_simp <;> with_reducible rfl)
            try simp only [Act.put, List.getElem_toArray, List.getElem_cons_succ, List.getElem_cons_zero, List.setIfInBounds_toArray, List.set_cons_zero, List.set_cons_succ]
            refine wpAnyH_ready (rs := [4]) (by kernel_rfl) (by simp) (AllReadyH.cons (o := _) rfl (fun K hK => ?_) AllReadyH.nil)
            try simp only [Act.put, List.getElem_toArray, List.getElem_cons_succ, List.getElem_cons_zero, List.setIfInBounds_toArray, List.set_cons_zero, List.set_cons_succ]
            go_simp
            go_at_call 48
            refine (pick_any R _ 5 _ S.2.2.2.2.2.1 (by omega) (by omega) (by omega)).mono ?_
            rintro e W ⟨s, rfl, s0, s1, R6, T6⟩
            replace S := S.pick R6 T6
            clear R6 T6
            refine hK.out _ _ ⟨S.2.1.reads.1, S.2.1.reads.2.1⟩ (fun hHeld => ?_)
            clear hK K
            try simp only [Act.put, List.getElem_toArray, List.getElem_cons_succ, List.getElem_cons_zero, List.setIfInBounds_toArray, List.set_cons_zero, List.set_cons_succ]
            have k1 : (n : Int) < (c.ts.length : Int) := by omega
            refine wpAnyH_take (i := 5) (oi := _) (v := ?_) rfl (by kernel_rfl) (by kernel_rfl) (by kernel_rfl) (fun _ _ _ h => h) (Or.inl ⟨by rfl, ?_⟩) hHeld ?_
            rotate_left
            · (intro w' hSw; (try dsimp only at hSw); go_simp <;> with_reducible rfl)
            try simp only [Act.put, List.getElem_toArray, List.getElem_cons_succ, List.getElem_cons_zero, List.setIfInBounds_toArray, List.set_cons_zero, List.set_cons_succ]
            refine wpAnyH_take (i := 6) (oi := _) (v := ?_) rfl (by kernel_rfl) (by kernel_rfl) (by kernel_rfl) (fun _ _ _ h => h) (Or.inl ⟨by rfl, ?_⟩) hHeld ?_
            rotate_left
            · (intro w' hSw; (try dsimp only at hSw); go_simp <;> with_reducible rfl)
            try simp only [Act.put, List.getElem_toArray, List.getElem_cons_succ, List.getElem_cons_zero, List.setIfInBounds_toArray, List.set_cons_zero, List.set_cons_succ]
            obtain ⟨q4, q5, q6, o4⟩ := cr_dec S.2.2.2.1 rfl hn s
            obtain ⟨cs, fr, hty⟩ := S.2.2.2.1.head rfl hn
            have n1 := ty_ne S.1 hty (by decide)
            have n6 := ty_ne S.2.1 hty (by decide)
            have x1 := S.1.far (p := ⟨gT, n * 3 + 2, none⟩) n1 (.int .i64 s)
            have x6 := S.2.1.far (p := ⟨gT, n * 3 + 2, none⟩) n6 (.int .i64 s)
            have hRw := S.2.2.2.2.1
            have R7 := S.2.2.2.2.2.1.far (g := gT) (by omega) (n * 3 + 2) (.int .i64 s)
            have T7 := S.2.2.2.2.2.2.set_new (g := gT) q6 (n * 3 + 2) (.int .i64 s)
            have hgw := S.2.2.1
            clear S hty
            refine wpAnyH_ready (rs := [7]) (by kernel_rfl) (by simp) (AllReadyH.cons (o := _) rfl (fun K hK => ?_) AllReadyH.nil)
            try simp only [Act.put, List.getElem_toArray, List.getElem_cons_succ, List.getElem_cons_zero, List.setIfInBounds_toArray, List.set_cons_zero, List.set_cons_succ]
            go_simp
            refine hK.out _ _ ⟨x6.reads.1, x6.reads.2.1⟩ (fun hHeld => ?_)
            clear hK K
            try simp only [Act.put, List.getElem_toArray, List.getElem_cons_succ, List.getElem_cons_zero, List.setIfInBounds_toArray, List.set_cons_zero, List.set_cons_succ]
            refine wpAnyH_done (by kernel_rfl) ?_ _
            clear hHeld q4 q5
            obtain ⟨W, hW⟩ : ∃ x, W.setCell ⟨gT, n * 3 + 2, none⟩ (.int .i64 s) = x := ⟨_, rfl⟩
            rw [hW] at x1 x6 R7 T7 o4 ⊢
            have HSM : Hid (SmC ⟨c.ts.set n ⟨c.ts[n].ps, c.ts[n].vs, s⟩, c.os⟩) := HF.out.set hps hus
            have S : DrC w R g _ (.slice (some ⟨gT, 0, none⟩) c.ts.length ca) (.slice Ab c.os.length cb) col ⟨c.ts.set n ⟨c.ts[n].ps, c.ts[n].vs, s⟩, c.os⟩ W := ⟨x1, x6, hgw, o4, hRw, R7, T7⟩
            clear hW x1 x6 R7 T7 o4 hgw hRw
            obtain ⟨k9, hk9⟩ : ∃ k9 : Crd, k9 = ⟨c.ts.set n ⟨c.ts[n].ps, c.ts[n].vs, s⟩, c.os⟩ := ⟨_, rfl⟩
            rw [← hk9] at S HSM
            clear hk9
            obtain ⟨t0, t1, tf⟩ := id S.1.reads
            have tf0 := tf 0
            have tf1 := tf 1
            obtain ⟨u0, u1, -⟩ := id S.2.1.reads
            have o10 := (S.2.2.2.1.keptT (by decide) (by decide) (by decide) (by decide) (but_set W w.heap.size 0 (.slice (some ⟨gT, 0, none⟩) c.ts.length ca)) (blk_type S.1)).keptT (by decide) (by decide) (by decide) (by decide) (but_set _ w.heap.size 1 (.slice Ab c.os.length cb)) (blk_type (S.1.set0 (.slice (some ⟨gT, 0, none⟩) c.ts.length ca)))
            have R10 := (S.2.2.2.2.2.1.far S.2.2.2.2.1 0 (.slice (some ⟨gT, 0, none⟩) c.ts.length ca)).far S.2.2.2.2.1 1 (.slice Ab c.os.length cb)
            have T10 := (S.2.2.2.2.2.2.set_new (Nat.le_refl w.heap.size) 0 (.slice (some ⟨gT, 0, none⟩) c.ts.length ca)).set_new (Nat.le_refl w.heap.size) 1 (.slice Ab c.os.length cb)
            obtain ⟨p0, p1, -⟩ := ((S.1.set0 (.slice (some ⟨gT, 0, none⟩) c.ts.length ca)).set1 (.slice Ab c.os.length cb)).reads
            clear tf S
            go_wp2
            exact bodyPost_ret (v := .agg #[.slice (some ⟨gT, 0, none⟩) c.ts.length ca, .slice Ab c.os.length cb]) (by simp [results, Try.results47, go_sem, p0, p1]) rfl ⟨_, k9, _, rfl, o10, HSM.out, R10.more (by push_cast; omega), T10⟩
          · have e5 : (d5 == 0) = false := by rw [beq_eq_false_iff_ne]; exact h0
            by_cases h1 : d5 = 1
            · have e6 : (d5 == 1) = true := by rw [h1]; rfl
              clear h0 h1 d50 d51
              have y1f := yf 1
              clear yf
              have oI := S.2.2.2.1.parts.2.1
              have rI := World.ownsRow.alloc oI (.cells #[.int .i64 n] 3)
              have zI := S.size
              have hRw := S.2.2.2.2.1
              have hgw := S.2.2.1
              have R7 := S.2.2.2.2.2.1
              have T7 := S.2.2.2.2.2.2
              have HP := hid (cr_order_ (n := (n : Int)) S.2.2.2.1 S.1 S.2.1 (by omega) (by omega) zI)
              clear S oI
              go_upto_region 30 with (at_builtin; go_must (refine wpList_append_own_at _ rfl _ _ 24 rfl w.heap.size 3 i1 (.int .i64 0) 1 8 Try.underlying24 hj hy0 hy1 hy2 rfl (by decide) (.slice Ab c.os.length cb) c.os.length _ rfl rI ⟨w6.heap.size, 0, none⟩ 1 1 [.int .i64 n] rfl rfl (cell_one_new _ _ _) (one_int _) (by unfold maxLen; omega) (by omega) (by simp; omega) ?_); intro v7 w7 hown hg _ hat; obtain ⟨A7, c7, col7, rfl, ⟨v4, t4⟩, f4, x1, x6, b1, o9⟩ := HP.out _ _ hown hg hat)
              obtain ⟨W, hW⟩ : ∃ x, w7.setCell ⟨g, 1, none⟩ (.slice A7 (c.os.length + 1) c7) = x := ⟨_, rfl⟩
              rw [hW] at x1 x6 b1 o9 ⊢
              replace R7 := R7.below b1 hRw
              replace T7 : But R w W := ⟨b1.os.trans T7.os, b1.tape.trans T7.tape, b1.output.trans T7.output, Nat.le_trans T7.size b1.size, fun j hj hne => (b1.block j hj).trans (T7.block j hj hne)⟩
              have HSM : Hid (SmC ⟨c.ts, c.os ++ [(n : Int)]⟩) := ⟨HF.out.ts, by show (c.os ++ [(n : Int)]).length ≤ 13; simp; omega, HF.out.ps, HF.out.us⟩
              have S : DrC w R g _ (.slice (some ⟨gT, 0, none⟩) c.ts.length ca) (.slice A7 (c.os.length + 1) c7) col7 ⟨c.ts, c.os ++ [(n : Int)]⟩ W := ⟨x1, x6, hgw, o9, hRw, R7, T7⟩
              clear hW x1 x6 b1 R7 T7 o9 hgw hRw t4 f4 HP rI hown hg hat y0 y1 y1f e5 e6
              obtain ⟨k9, hk9⟩ : ∃ k9 : Crd, k9 = ⟨c.ts, c.os ++ [(n : Int)]⟩ := ⟨_, rfl⟩
              rw [← hk9] at S HSM
              clear hk9
              obtain ⟨t0, t1, tf⟩ := id S.1.reads
              have tf0 := tf 0
              have tf1 := tf 1
              obtain ⟨u0, u1, -⟩ := id S.2.1.reads
              have o10 := (S.2.2.2.1.keptT (by decide) (by decide) (by decide) (by decide) (but_set W w.heap.size 0 (.slice (some ⟨gT, 0, none⟩) c.ts.length ca)) (blk_type S.1)).keptT (by decide) (by decide) (by decide) (by decide) (but_set _ w.heap.size 1 (.slice A7 (c.os.length + 1) c7)) (blk_type (S.1.set0 (.slice (some ⟨gT, 0, none⟩) c.ts.length ca)))
              have R10 := (S.2.2.2.2.2.1.far S.2.2.2.2.1 0 (.slice (some ⟨gT, 0, none⟩) c.ts.length ca)).far S.2.2.2.2.1 1 (.slice A7 (c.os.length + 1) c7)
              have T10 := (S.2.2.2.2.2.2.set_new (Nat.le_refl w.heap.size) 0 (.slice (some ⟨gT, 0, none⟩) c.ts.length ca)).set_new (Nat.le_refl w.heap.size) 1 (.slice A7 (c.os.length + 1) c7)
              obtain ⟨p0, p1, -⟩ := ((S.1.set0 (.slice (some ⟨gT, 0, none⟩) c.ts.length ca)).set1 (.slice A7 (c.os.length + 1) c7)).reads
              clear tf S
              go_wp2
              exact bodyPost_ret (v := .agg #[.slice (some ⟨gT, 0, none⟩) c.ts.length ca, .slice A7 (c.os.length + 1) c7]) (by simp [results, Try.results47, go_sem, p0, p1]) rfl ⟨_, k9, _, rfl, o10, HSM.out, R10.more (by push_cast; omega), T10⟩
            · have e6 : (d5 == 1) = false := by rw [beq_eq_false_iff_ne]; exact h1
              by_cases h2 : d5 = 2
              · have e7 : (d5 == 2) = true := by rw [h2]; rfl
                clear h0 h1 h2 d50 d51 yf
                have hvl : 0 < c.ts[n].vs.length := by
                  have hv := HV.out.txs _ (List.getElem_mem hn)
                  rw [hv.len]
                  exact List.length_pos_iff.2 hv.parts.1
                obtain ⟨g2, c9, r0, r1, r2, r3, ⟨cs2, fr2, hty2⟩, HVo⟩ := cr_vote (k := 0) S.2.2.2.1 rfl hn hvl
                have hgT : gT < w6.heap.size := by
                  obtain ⟨cs, fr, hty⟩ := S.2.2.2.1.head rfl hn
                  exact blk_lt hty
                have hg2l : g2 < w6.heap.size := blk_lt hty2
                have hgTB : w.heap.size ≤ gT := (cr_dec S.2.2.2.1 rfl hn 0).2.2.1
                clear r1 r2 HVo hty2
                have hvl2 := hps.2
                obtain ⟨vl, hvle⟩ : ∃ vl, c.ts[n].vs.length = vl := ⟨_, rfl⟩
                have HVL := hid hvle
                rw [hvle] at r0 hvl hvl2
                have k0 : (0 : Int) ≤ (n : Int) := by omega
                have k1 : (n : Int) < (c.ts.length : Int) := by omega
                have k2 : decide ((0 : Int) < (vl : Int)) = true := decide_eq_true (by omega)
                have k3 : (0 : Int) < (vl : Int) := by omega
                clear hvle
                go_wp2_with fail
                refine wp_region_held_drew (S := fun x => (x.cell? ⟨g, 0, none⟩ = some (.slice (some ⟨gT, 0, none⟩) c.ts.length ca) ∧ x.cell? ⟨g, 1, none⟩ = some (.slice Ab c.os.length cb)) ∧ x.cell? ⟨gT, n * 3 + 1, none⟩ = some (.slice (some ⟨g2, 0, none⟩) vl c9)) (by kernel_rfl) ⟨⟨(S.call (Below.refl _ _).drew).2.1.reads.1, (S.call (Below.refl _ _).drew).2.1.reads.2.1⟩, r0⟩ (fun hHeld => ?_)
                have Bd := (Below.refl w6.heap.size w6).drew
                replace S := S.call Bd
                have hRw := S.2.2.2.2.1
                replace hgT := Nat.lt_of_lt_of_le hgT Bd.size
                replace hg2l := Nat.lt_of_lt_of_le hg2l Bd.size
                clear Bd
                obtain ⟨W, hW⟩ : ∃ x, w6.drew = x := ⟨_, rfl⟩
                have r0W : W.cell? ⟨gT, n * 3 + 1, none⟩ = some (.slice (some ⟨g2, 0, none⟩) vl c9) := by rw [← hW]; exact r0
                rw [hW] at S hHeld hgT hg2l ⊢
                clear hW y0 y1 e5 e6 e7 r0
                try simp only [Act.put, List.getElem_toArray, List.getElem_cons_succ, List.getElem_cons_zero, List.setIfInBounds_toArray, List.set_cons_zero, List.set_cons_succ]
                refine wpAnyH_take (i := 0) (oi := _) (v := ?_) rfl (by kernel_rfl) (by kernel_rfl) (by kernel_rfl) (fun _ _ _ h => h) (Or.inl ⟨by rfl, ?_⟩) hHeld ?_
                rotate_left
                · (intro w' hSw; (try dsimp only at hSw); go_simp <;> with_reducible rfl)
                try simp only [Act.put, List.getElem_toArray, List.getElem_cons_succ, List.getElem_cons_zero, List.setIfInBounds_toArray, List.set_cons_zero, List.set_cons_succ]
                refine wpAnyH_take (i := 1) (oi := _) (v := ?_) rfl (by kernel_rfl) (by kernel_rfl) (by kernel_rfl) (fun _ _ _ h => h) (Or.inl ⟨by rfl, ?_⟩) hHeld ?_
                rotate_left
                · (intro w' hSw; (try dsimp only at hSw); go_simp <;> with_reducible rfl)
                try simp only [Act.put, List.getElem_toArray, List.getElem_cons_succ, List.getElem_cons_zero, List.setIfInBounds_toArray, List.set_cons_zero, List.set_cons_succ]
                refine wpAnyH_take (i := 2) (oi := _) (v := ?_) rfl (by kernel_rfl) (by kernel_rfl) (by kernel_rfl) (fun _ _ _ h => h) (Or.inl ⟨by rfl, ?_⟩) hHeld ?_
                rotate_left
                · (intro w' hSw; (try dsimp only at hSw); go_simp <;> with_reducible rfl)
                try simp only [Act.put, List.getElem_toArray, List.getElem_cons_succ, List.getElem_cons_zero, List.setIfInBounds_toArray, List.set_cons_zero, List.set_cons_succ]
                refine wpAnyH_take (i := 3) (oi := _) (v := ?_) rfl (by kernel_rfl) (by kernel_rfl) (by kernel_rfl) (fun _ _ _ h => h) (Or.inl ⟨by rfl, ?_⟩) hHeld ?_
                rotate_left
                · (intro w' hSw; (try dsimp only at hSw); go_simp <;> with_reducible rfl)
                try simp only [Act.put, List.getElem_toArray, List.getElem_cons_succ, List.getElem_cons_zero, List.setIfInBounds_toArray, List.set_cons_zero, List.set_cons_succ]
                refine wpAnyH_take (i := 4) (oi := _) (v := ?_) rfl (by kernel_rfl) (by kernel_rfl) (by kernel_rfl) (fun _ _ _ h => h) (Or.inl ⟨by rfl, ?_⟩) hHeld ?_
                rotate_left
                · (intro w' hSw; (try dsimp only at hSw); go_simp <;> with_reducible rfl)
                try simp only [Act.put, List.getElem_toArray, List.getElem_cons_succ, List.getElem_cons_zero, List.setIfInBounds_toArray, List.set_cons_zero, List.set_cons_succ]
                refine wpAnyH_take (i := 5) (oi := _) (v := ?_) rfl (by kernel_rfl) (by kernel_rfl) (by kernel_rfl) (fun _ _ _ h => h) (Or.inl ⟨by rfl, ?_⟩) hHeld ?_
                rotate_left
                · (intro w' hSw; (try dsimp only at hSw); go_simp <;> with_reducible rfl)
                try simp only [Act.put, List.getElem_toArray, List.getElem_cons_succ, List.getElem_cons_zero, List.setIfInBounds_toArray, List.set_cons_zero, List.set_cons_succ]
                refine wpAnyH_take (i := 6) (oi := _) (v := ?_) rfl (by kernel_rfl) (by kernel_rfl) (by kernel_rfl) (fun _ _ _ h => h) (Or.inl ⟨by rfl, ?_⟩) hHeld ?_
                rotate_left
                · (intro w' hSw; (try dsimp only at hSw); go_simp <;> with_reducible rfl)
                try simp only [Act.put, List.getElem_toArray, List.getElem_cons_succ, List.getElem_cons_zero, List.setIfInBounds_toArray, List.set_cons_zero, List.set_cons_succ]
                refine wpAnyH_ready (rs := [7]) (by kernel_rfl) (by simp) (AllReadyH.cons (o := _) rfl (fun K hK => ?_) AllReadyH.nil)
                try simp only [Act.put, List.getElem_toArray, List.getElem_cons_succ, List.getElem_cons_zero, List.setIfInBounds_toArray, List.set_cons_zero, List.set_cons_succ]
                go_simp
                go_at_call 48
                refine (pick_any R _ 4 _ S.2.2.2.2.2.1 (by omega) (by omega) (by omega)).mono ?_
                rintro e W ⟨s, rfl, s0, s1, R6, T6⟩
                replace S := S.pick R6 T6
                replace r0W := (T6.cell (n * 3 + 1) hgT (by omega)).trans r0W
                clear R6 T6
                refine hK.out _ _ ⟨⟨S.2.1.reads.1, S.2.1.reads.2.1⟩, r0W⟩ (fun hHeld => ?_)
                clear hK K
                try simp only [Act.put, List.getElem_toArray, List.getElem_cons_succ, List.getElem_cons_zero, List.setIfInBounds_toArray, List.set_cons_zero, List.set_cons_succ]
                have e9 : IntKind.i64.wrap (s - 2) = s - 2 := IntWalk.i64_in _ (by omega)
                refine wpAnyH_take (i := 8) (oi := _) (v := ?_) rfl (by kernel_rfl) (by kernel_rfl) (by kernel_rfl) (fun _ _ _ h => h) (Or.inl ⟨by rfl, ?_⟩) hHeld ?_
                rotate_left
                · (intro w' hSw; (try dsimp only at hSw); go_simp <;> with_reducible rfl)
                try simp only [Act.put, List.getElem_toArray, List.getElem_cons_succ, List.getElem_cons_zero, List.setIfInBounds_toArray, List.set_cons_zero, List.set_cons_succ]
                refine wpAnyH_take (i := 9) (oi := _) (v := ?_) rfl (by kernel_rfl) (by kernel_rfl) (by kernel_rfl) (fun _ _ _ h => h) (Or.inl ⟨by rfl, ?_⟩) hHeld ?_
                rotate_left
                · (intro w' hSw; (try dsimp only at hSw); go_simp <;> with_reducible rfl)
                try simp only [Act.put, List.getElem_toArray, List.getElem_cons_succ, List.getElem_cons_zero, List.setIfInBounds_toArray, List.set_cons_zero, List.set_cons_succ]
                obtain ⟨g2', c9', r0, r1, r2, r3, ⟨cs2, fr2, hty2⟩, HVo⟩ := cr_vote (k := 0) S.2.2.2.1 rfl hn (by rw [HVL.out]; exact hvl)
                rw [r0W] at r0
                injection r0 with r0
                injection r0 with r0 r00 r000
                injection r0 with r0
                injection r0 with r0
                subst r0
                clear r00 r000
                have o4 := HVo (s - 2)
                obtain ⟨cs3, fr3, hty3⟩ := S.2.2.2.1.head rfl hn
                have n1 := ty_ne S.1 hty2 (by decide)
                have n6 := ty_ne S.2.1 hty2 (by decide)
                have n7 := ty_ne hty3 hty2 (by decide)
                have x1 := S.1.far (p := ⟨g2, 0, none⟩) n1 (.int .i64 (s - 2))
                have x6 := S.2.1.far (p := ⟨g2, 0, none⟩) n6 (.int .i64 (s - 2))
                have R7 := S.2.2.2.2.2.1.far (g := g2) (by omega) 0 (.int .i64 (s - 2))
                have T7 := S.2.2.2.2.2.2.set_new (g := g2) r3 0 (.int .i64 (s - 2))
                have hgw := S.2.2.1
                have r0X : (W.setCell ⟨g2, 0, none⟩ (.int .i64 (s - 2))).cell? ⟨gT, n * 3 + 1, none⟩ = some (.slice (some ⟨g2, 0, none⟩) vl c9) := (World.cell?_setCell_far W ⟨g2, 0, none⟩ ⟨gT, n * 3 + 1, none⟩ _ (fun e => n7 e.symm)).trans r0W
                clear S hty2 hty3 HVo r0W
                refine wpAnyH_ready (rs := [10]) (by kernel_rfl) (by simp) (AllReadyH.cons (o := _) rfl (fun K hK => ?_) AllReadyH.nil)
                try simp only [Act.put, List.getElem_toArray, List.getElem_cons_succ, List.getElem_cons_zero, List.setIfInBounds_toArray, List.set_cons_zero, List.set_cons_succ]
                go_simp
                refine hK.out _ _ ⟨⟨x6.reads.1, x6.reads.2.1⟩, r0X⟩ (fun hHeld => ?_)
                clear hK K
                try simp only [Act.put, List.getElem_toArray, List.getElem_cons_succ, List.getElem_cons_zero, List.setIfInBounds_toArray, List.set_cons_zero, List.set_cons_succ]
                refine wpAnyH_done (by kernel_rfl) ?_ _
                clear hHeld r0X r1 r2
                obtain ⟨W, hW⟩ : ∃ x, W.setCell ⟨g2, 0, none⟩ (.int .i64 (s - 2)) = x := ⟨_, rfl⟩
                rw [hW] at x1 x6 R7 T7 o4 ⊢
                have HSM : Hid (SmC ⟨c.ts.set n ⟨c.ts[n].ps, c.ts[n].vs.set 0 (s - 2), c.ts[n].d⟩, c.os⟩) := HF.out.set ⟨hps.1, by rw [List.length_set]; exact hps.2⟩ hus
                have S : DrC w R g _ (.slice (some ⟨gT, 0, none⟩) c.ts.length ca) (.slice Ab c.os.length cb) col ⟨c.ts.set n ⟨c.ts[n].ps, c.ts[n].vs.set 0 (s - 2), c.ts[n].d⟩, c.os⟩ W := ⟨x1, x6, hgw, o4, hRw, R7, T7⟩
                clear hW x1 x6 R7 T7 o4 hgw
                obtain ⟨k9, hk9⟩ : ∃ k9 : Crd, k9 = ⟨c.ts.set n ⟨c.ts[n].ps, c.ts[n].vs.set 0 (s - 2), c.ts[n].d⟩, c.os⟩ := ⟨_, rfl⟩
                rw [← hk9] at S HSM
                clear hk9
                obtain ⟨t0, t1, tf⟩ := id S.1.reads
                have tf0 := tf 0
                have tf1 := tf 1
                obtain ⟨u0, u1, -⟩ := id S.2.1.reads
                have o10 := (S.2.2.2.1.keptT (by decide) (by decide) (by decide) (by decide) (but_set W w.heap.size 0 (.slice (some ⟨gT, 0, none⟩) c.ts.length ca)) (blk_type S.1)).keptT (by decide) (by decide) (by decide) (by decide) (but_set _ w.heap.size 1 (.slice Ab c.os.length cb)) (blk_type (S.1.set0 (.slice (some ⟨gT, 0, none⟩) c.ts.length ca)))
                have R10 := (S.2.2.2.2.2.1.far S.2.2.2.2.1 0 (.slice (some ⟨gT, 0, none⟩) c.ts.length ca)).far S.2.2.2.2.1 1 (.slice Ab c.os.length cb)
                have T10 := (S.2.2.2.2.2.2.set_new (Nat.le_refl w.heap.size) 0 (.slice (some ⟨gT, 0, none⟩) c.ts.length ca)).set_new (Nat.le_refl w.heap.size) 1 (.slice Ab c.os.length cb)
                obtain ⟨p0, p1, -⟩ := ((S.1.set0 (.slice (some ⟨gT, 0, none⟩) c.ts.length ca)).set1 (.slice Ab c.os.length cb)).reads
                clear tf S
                go_wp2
                exact bodyPost_ret (v := .agg #[.slice (some ⟨gT, 0, none⟩) c.ts.length ca, .slice Ab c.os.length cb]) (by simp [results, Try.results47, go_sem, p0, p1]) rfl ⟨_, k9, _, rfl, o10, HSM.out, R10.more (by push_cast; omega), T10⟩
              · have e7 : (d5 == 2) = false := by rw [beq_eq_false_iff_ne]; exact h2
                clear h0 h1 h2 d50 d51 yf
                have HSM := HF
                go_upto_region 30 with fail
                obtain ⟨W, hW⟩ : ∃ x, w6 = x := ⟨_, rfl⟩
                rw [hW] at S ⊢
                clear hW y0 y1 e5 e6 e7
                obtain ⟨t0, t1, tf⟩ := id S.1.reads
                have tf0 := tf 0
                have tf1 := tf 1
                obtain ⟨u0, u1, -⟩ := id S.2.1.reads
                have o10 := (S.2.2.2.1.keptT (by decide) (by decide) (by decide) (by decide) (but_set W w.heap.size 0 (.slice (some ⟨gT, 0, none⟩) c.ts.length ca)) (blk_type S.1)).keptT (by decide) (by decide) (by decide) (by decide) (but_set _ w.heap.size 1 (.slice Ab c.os.length cb)) (blk_type (S.1.set0 (.slice (some ⟨gT, 0, none⟩) c.ts.length ca)))
                have R10 := (S.2.2.2.2.2.1.far S.2.2.2.2.1 0 (.slice (some ⟨gT, 0, none⟩) c.ts.length ca)).far S.2.2.2.2.1 1 (.slice Ab c.os.length cb)
                have T10 := (S.2.2.2.2.2.2.set_new (Nat.le_refl w.heap.size) 0 (.slice (some ⟨gT, 0, none⟩) c.ts.length ca)).set_new (Nat.le_refl w.heap.size) 1 (.slice Ab c.os.length cb)
                obtain ⟨p0, p1, -⟩ := ((S.1.set0 (.slice (some ⟨gT, 0, none⟩) c.ts.length ca)).set1 (.slice Ab c.os.length cb)).reads
                clear tf S
                go_wp2
                exact bodyPost_ret (v := .agg #[.slice (some ⟨gT, 0, none⟩) c.ts.length ca, .slice Ab c.os.length cb]) (by simp [results, Try.results47, go_sem, p0, p1]) rfl ⟨_, c, _, rfl, o10, HSM.out, R10.more (by push_cast; omega), T10⟩
end Go.Proofs.Ytelmeknpmlbplaa
/- Laws on coordinators: a coordinator is boxed. -/
/-
  Walk: the shards that a transaction waits for, by the model.
-/
namespace Go.Proofs.Ytelmeknpmlbplaa
open Go.RowKit Wo Pu Rf Co

set_option linter.unusedVariables false in
/-- The shards that are waited for among the first k parts. -/
def waitsTo (t : Tx) (k : Nat) : List Int := (((t.ps.zip t.vs).take k).filter fun x => x.2 == 0).map fun x => x.1.s
set_option linter.unusedVariables false in
set_option linter.unusedSimpArgs false in
theorem waitsTo_zero (t : Tx) : waitsTo t 0 = [] := by simp [waitsTo]
set_option linter.unusedVariables false in
set_option linter.unusedSimpArgs false in
theorem waitsTo_all {t : Tx} (h : t.vs.length = t.ps.length) : waitsTo t t.ps.length = waitsT t := by
  unfold waitsTo waitsT
  rw [List.take_of_length_le (by rw [List.length_zip]; omega)]
set_option linter.unusedVariables false in
set_option linter.unusedSimpArgs false in
theorem waitsTo_next {t : Tx} {k : Nat} (hk : k < t.ps.length) (hv : k < t.vs.length) : waitsTo t (k + 1) = if t.vs[k] = 0 then waitsTo t k ++ [t.ps[k].s] else waitsTo t k := by
  unfold waitsTo
  rw [List.take_succ_eq_append_getElem (by rw [List.length_zip]; omega), List.filter_append, List.map_append, List.getElem_zip]
  by_cases e : t.vs[k] = 0
  · rw [if_pos e]; simp [e]
  · rw [if_neg e]; simp [e]
set_option linter.unusedVariables false in
set_option linter.unusedSimpArgs false in
theorem waitsTo_len (t : Tx) (k : Nat) : (waitsTo t k).length ≤ t.ps.length := by
  unfold waitsTo
  rw [List.length_map]
  refine Nat.le_trans (List.length_filter_le _ _) ?_
  rw [List.length_take, List.length_zip]
  omega
set_option linter.unusedVariables false in
set_option linter.unusedSimpArgs false in
theorem Co.Waits.no_ {q : Crd} {t : Int} {zs : List Int} (h : Waits q t zs) (hn : ¬ (CV q ∧ ∃ n, ∃ h : n < q.ts.length, t = (n : Int) ∧ q.ts[n].d = 0)) : zs = [] := by
  rcases h with ⟨n, h1, h2, h3, h4, -⟩ | ⟨-, h⟩
  · exact absurd ⟨h2, n, h1, h3, h4⟩ hn
  · exact h
set_option linter.unusedVariables false in
set_option linter.unusedSimpArgs false in
theorem Co.Waits.yes_ {q : Crd} {zs : List Int} {n : Nat} (h : Waits q (n : Int) zs) (h1 : CV q) (hn : n < q.ts.length) (hd : q.ts[n].d = 0) : zs = waitsT q.ts[n] := by
  rcases h with ⟨m, h1, h2, h3, h4, h5⟩ | ⟨h, -⟩
  · have e : m = n := by omega
    subst e
    exact h5
  · exact absurd ⟨h1, n, hn, rfl, hd⟩ h
/- Nobody is waited for. -/
set_option linter.unusedSimpArgs false in
set_option linter.unusedVariables false in
set_option maxRecDepth 100000 in
set_option maxHeartbeats 16000000 in
theorem specCoordinatorWaits_is (zs : List Int) (v : Value) (q : Crd) (t : Int) (w : World) (h : Crdd w w.heap.size v q) (hf : FitC q) (hz : Waits q t zs) :
    Calls Try.prog 21 #[v, .int .i64 t] w (IntsOf zs w) := by
  obtain ⟨i1, hj, hy0, hy1, hy2⟩ := info_of info_int
  obtain ⟨bv, hbv⟩ := bool_ofP' (CV q)
  obtain ⟨bi, hbi⟩ := bool_of (0 ≤ t ∧ t ≤ (q.ts.length : Int) - 1)
  have HZ := hid hz
  have HBV := hid hbv
  have HBI := hid hbi
  have HF := hid hf
  have CVal : Hid (∀ y, Below w.heap.size w y → Calls Try.prog 22 #[v] y (Ret (.bool bv) y)) := fun y hy => specCoordinatorValid_is bv v q y (h.on hy hy.size) hf hbv
  have CI : Hid (∀ y, Calls Try.prog 53 #[.int .i64 t, .int .i64 0, .int .i64 ((q.ts.length : Int) - 1)] y (Same (.bool bi) y)) := fun y => l6In_is bi _ _ _ y hbi
  have hf1 := hf.ts
  have qw : IntKind.i64.wrap ((q.ts.length : Int) - 1) = (q.ts.length : Int) - 1 := IntWalk.i64_in _ (by omega)
  clear hz hbv hbi
  obtain ⟨A, c, A2, c2, rfl, hT, hc, -, hc2⟩ := h
  clear hf
  unfold crV at *
  have b1 := ((Below.refl w.heap.size w).alloc (Nat.le_refl _) (.cells #[.slice A q.ts.length c, .slice A2 q.os.length c2] 26)).alloc (by simp) (.cells #[] 3)
  have x0 := (Blk2s.new_ w 26 (.slice A q.ts.length c) (.slice A2 q.os.length c2)).alloc (.cells #[] 3)
  have o1 := OwnI.nil_new (w := w.alloc (.cells #[.slice A q.ts.length c, .slice A2 q.os.length c2] 26)) (B := w.heap.size) (by simp)
  rw [World.size_alloc] at o1
  go_enter Try.func21, Try.ntmps21
  go_upto_region 2 with fail
  obtain ⟨w1, hw1⟩ : ∃ x, (w.alloc (.cells #[.slice A q.ts.length c, .slice A2 q.os.length c2] 26)).alloc (.cells #[] 3) = x := ⟨_, rfl⟩
  rw [hw1] at b1 x0 o1 ⊢
  clear hw1
  obtain ⟨y0, y1, -⟩ := id x0.reads
  go_wp2_with fail
  refine (CVal.out _ b1).mono ?_
  rintro e w2 ⟨rfl, d⟩
  replace b1 := b1.trans (d.mono b1.size)
  replace x0 := x0.later d
  replace o1 := o1.below d (Nat.le_refl _)
  clear y0 y1 d CVal
  obtain ⟨y0, y1, -⟩ := id x0.reads
  cases bv with
  | false =>
    have HNo : Hid (¬ (CV q ∧ ∃ n, ∃ h : n < q.ts.length, t = (n : Int) ∧ q.ts[n].d = 0)) := fun e => by have := HBV.out.2 e.1; cases this
    clear CI HBV HBI
    have ez : zs = [] := HZ.out.no_ HNo.out
    subst ez
    go_wp2
    go_ret
    exact .mk_ o1 b1
  | true =>
    have HVq := hid (HBV.out.1 rfl)
    go_wp2_with fail
    refine (CI.out _).mono ?_
    rintro e w3 ⟨rfl, rfl⟩
    cases bi with
    | false =>
      have HNo : Hid (¬ (CV q ∧ ∃ n, ∃ h : n < q.ts.length, t = (n : Int) ∧ q.ts[n].d = 0)) := fun ⟨_, n, h1, h2, _⟩ => by have := HBI.out.2 ⟨by omega, by omega⟩; cases this
      clear CI HBV HBI
      have ez : zs = [] := HZ.out.no_ HNo.out
      subst ez
      go_wp2
      go_ret
      exact .mk_ o1 b1
    | true =>
      have hti := HBI.out.1 rfl
      obtain ⟨n, rfl⟩ := Int.eq_ofNat_of_zero_le hti.1
      have hn : n < q.ts.length := by omega
      have k0 : (0 : Int) ≤ (n : Int) := by omega
      have k1 : (n : Int) < (q.ts.length : Int) := by omega
      clear hti HBI CI HBV
      obtain ⟨t, ad, A', c', A9, c9, ho, rfl, had, g0, g1, g2, -, -, g5, g6⟩ := hT.tx hn
      replace g0 := (b1.cell had).trans g0
      replace g1 := (b1.cell (p := ⟨(ad.add (n * 3)).block, (ad.add (n * 3)).off + 1, none⟩) had).trans g1
      replace g2 := (b1.cell (p := ⟨(ad.add (n * 3)).block, (ad.add (n * 3)).off + 2, none⟩) had).trans g2
      by_cases hd : t.d = 0
      · have e0 : (t.d != 0) = false := by rw [bne_eq_false_iff_eq]; exact hd
        have ez : zs = waitsT t := by rw [HZ.out.yes_ HVq.out hn (by rw [ho]; exact hd), ho]
        have htv := HVq.out.txs t (by rw [← ho]; exact List.getElem_mem hn)
        have hps := (HF.out.ps t (by rw [← ho]; exact List.getElem_mem hn)).1
        have HVL := hid htv.len
        subst ez
        have x9 := Blk3s.new_ w2 33 (.slice A' t.ps.length c') (.slice A9 t.vs.length c9) (.int .i64 t.d)
        have al := (Below.refl w2.heap.size w2).alloc (Nat.le_refl _) (.cells #[.slice A' t.ps.length c', .slice A9 t.vs.length c9, .int .i64 t.d] 33)
        clear HZ HVq hd htv ho
        go_upto_region 5 with fail
        obtain ⟨w3, hw3⟩ : ∃ x, w2.alloc (.cells #[.slice A' t.ps.length c', .slice A9 t.vs.length c9, .int .i64 t.d] 33) = x := ⟨_, rfl⟩
        obtain ⟨g, hg⟩ : ∃ x, w2.heap.size = x := ⟨_, rfl⟩
        rw [hw3] at al x9 ⊢
        rw [hg] at x9 ⊢
        have b3 := b1.trans (al.mono b1.size)
        have o3 := o1.below al (Nat.le_refl _)
        have z2 := b1.size
        clear hw3 x0 y0 y1 g0 g1 g2 o1 b1 al
        have HL : Hid (waitsT t = waitsTo t t.ps.length) := (waitsTo_all HVL.out).symm
        go_wp2_with fail
        go_loopw [5, 7] (fun o i wr => ∃ (k : Nat) (ys : List Int) (Ao : Option Addr) (co : Nat), k ≤ t.ps.length ∧ i = .int .i64 k ∧ o = .slice Ao ys.length co ∧ Hid (ys = waitsTo t k) ∧ OwnI wr w.heap.size (.slice Ao ys.length co) ys ∧ Blk3s wr g 33 (.slice A' t.ps.length c') (.slice A9 t.vs.length c9) (.int .i64 t.d) ∧ Below w.heap.size w wr) (fun _ i _ => t.ps.length - (intOf i).toNat)
        case atStart => exact ⟨0, [], _, _, Nat.zero_le _, rfl, rfl, (waitsTo_zero t).symm, o3, x9, b3⟩
        case round =>
          obtain ⟨k, ys, Ao, co, hk, rfl, rfl, HY, oy, x9, hb⟩ := hrel
          clear o3 b3
          have hz := hb.size
          obtain ⟨y0, y1, y2, -⟩ := id x9.reads
          by_cases hlt : k < t.ps.length
          · have hkv : k < t.vs.length := by rw [HVL.out]; exact hlt
            obtain ⟨ad9, rfl, hbl9, hcv⟩ := (g6.below hb (Nat.le_refl _)).int_ hkv
            obtain ⟨p, ad8, A5, c5, hop, rfl, hbp, p0, -, -, -⟩ := (g5.below hb (Nat.le_refl _)).part hlt
            have k2 : (0 : Int) ≤ (k : Int) := by omega
            have k3 : (k : Int) < (t.ps.length : Int) := by omega
            have k4 : (k : Int) < (t.vs.length : Int) := by omega
            have hyl : ys.length ≤ t.ps.length := by rw [HY.out]; exact waitsTo_len t k
            by_cases hv : t.vs[k] = 0
            · have e1 : (t.vs[k] == 0) = true := by rw [beq_iff_eq]; exact hv
              have HN : Hid (ys ++ [p.s] = waitsTo t (k + 1)) := by show _ = _; rw [waitsTo_next hlt hkv, if_pos hv, HY.out, hop]
              have oA := World.ownsRow.alloc oy (.cells #[.int .i64 p.s] 3)
              have al := (Below.refl wr.heap.size wr).alloc (Nat.le_refl _) (.cells #[.int .i64 p.s] 3)
              have x10 := x9.later al
              have hb10 := hb.trans (al.mono hz)
              clear hv HY oy x9
              go_wp2_with (at_builtin; go_must (refine wpList_append_row _ rfl _ _ 24 rfl w.heap.size 3 i1 (.int .i64 0) 1 8 Try.underlying24 hj hy0 hy1 hy2 rfl (by decide) _ ys.length _ rfl oA (wr.heap.size + 1) (some ⟨wr.heap.size, 0, none⟩) 1 1 [.int .i64 p.s] rfl (.inr ⟨_, rfl, Nat.lt_succ_self _, cell_one_new _ _ _⟩) rfl (one_int _) (by unfold maxLen; omega) (by omega) hb10.size ?_); intro v7 w7 hown hg; have o7 : OwnI w7 w.heap.size v7 (ys ++ [p.s]) := OwnI.app hown; obtain ⟨A7, c7, rfl, -, -⟩ := o7.form; have x7 := x10.grown hg (blk_ne_row x10 oA (by decide)); have b7 := hb10.grown hg hb10.size (fun j hj => (World.ownsRow.lt oA j hj).1))
              go_roundw
              case rel => exact ⟨k + 1, ys ++ [p.s], A7, c7, by omega, by go_num, by rw [List.length_append]; rfl, HN, o7, x7, b7⟩
              case measure => simp [intOf]; omega
            · have e1 : (t.vs[k] == 0) = false := by rw [beq_eq_false_iff_ne]; exact hv
              have HN : Hid (ys = waitsTo t (k + 1)) := by show _ = _; rw [waitsTo_next hlt hkv, if_neg hv, HY.out]
              clear hv HY
              go_wp2
              go_roundw
              case rel => exact ⟨k + 1, ys, Ao, co, by omega, by go_num, rfl, HN, oy, x9, hb⟩
              case measure => simp [intOf]; omega
          · have hk' : k = t.ps.length := by omega
            subst hk'
            have e := HY.out.trans HL.out.symm
            clear HL HY
            subst e
            go_wp2
            go_ret
            exact .mk_ oy hb
      · have e0 : (t.d != 0) = true := by rw [bne_iff_ne]; exact hd
        have HNo : Hid (¬ (CV q ∧ ∃ m, ∃ h : m < q.ts.length, (n : Int) = (m : Int) ∧ q.ts[m].d = 0)) := fun ⟨_, m, h1, h2, h3⟩ => by
          have e2 : m = n := by omega
          subst e2
          rw [ho] at h3
          exact hd h3
        clear hd ho
        have ez : zs = [] := HZ.out.no_ HNo.out
        subst ez
        go_wp2
        go_ret
        exact .mk_ o1 b1
end Go.Proofs.Ytelmeknpmlbplaa
