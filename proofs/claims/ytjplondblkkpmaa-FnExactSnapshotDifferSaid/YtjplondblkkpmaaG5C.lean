/-
  The coordinator with the slices $SA and $SB is stored as the answer, with the word $BB.
  The coordinator with the slices $SA and $SB is stored as the answer, with the word $BB.
  The coordinator with the slices $SA and $SB is stored as the answer, with the word $BB.
  Plain facts on a shard's refs behind some transactions.
-/
import Derived.Test.YtjplondblkkpmaaCooC
import Derived.Test.YtjplondblkkpmaaG2C
/- Laws on coordinators: a coordinator is boxed. -/
/- On to the world behind D. -/
/- An exact law begins: the argument's box, its size, a copy for the model. -/
/- The program's own copy of the argument is boxed. -/
/- The program's copy is as the argument; the region draws. -/
/- Laws on functions that answer numbers. -/
/- What the boxes hold is read again. -/
/- The coordinator with the slices P4 and P5 is boxed as P6, in block P7, behind it the world P3; ahead of region P1. -/
/- The draw, the program's answer, the model's, and that they are the same: behind it w5, all facts on it by way of dx. -/
/-
  Walks: a transaction times out, the part of a shard, a vote counted, by the model.
-/
namespace Go.Proofs.Ytjplondblkkpmaa
open Go.RowKit Wo Pu Rf Co

set_option linter.unusedVariables false in
set_option linter.unusedSimpArgs false in
theorem Co.Late.bad_ {q x : Crd} {t : Int} {b : Bool} (h : Late q t x b) (hn : ¬ CV q) : x = none_ ∧ b = false := by
  cases h with
  | bad _ => exact ⟨rfl, rfl⟩
  | no h1 _ => exact absurd h1 hn
  | yes _ _ _ _ h1 => exact absurd h1 hn
set_option linter.unusedVariables false in
set_option linter.unusedSimpArgs false in
theorem Co.Late.no_ {q x : Crd} {t : Int} {b : Bool} (h : Late q t x b) (h1 : CV q) (h2 : ∀ n (h : n < q.ts.length), t = (n : Int) → q.ts[n].d ≠ 0) : x = q ∧ b = false := by
  cases h with
  | bad hn => exact absurd h1 hn
  | no _ _ => exact ⟨rfl, rfl⟩
  | yes n h3 h4 h5 _ => exact absurd h5 (h2 n h3 h4)
set_option linter.unusedVariables false in
set_option linter.unusedSimpArgs false in
theorem Co.Late.yes_ {q x : Crd} {b : Bool} {n : Nat} (h : Late q (n : Int) x b) (h1 : CV q) (hn : n < q.ts.length) (hd : q.ts[n].d = 0) : x = lateC q n hn ∧ b = true := by
  cases h with
  | bad h2 => exact absurd h1 h2
  | no _ h2 => exact absurd hd (h2 n hn rfl)
  | yes m h3 h4 h5 _ =>
    have e : m = n := by omega
    subst e
    exact ⟨rfl, rfl⟩
set_option linter.unusedVariables false in
set_option linter.unusedSimpArgs false in
theorem ty_ne {w : World} {g g2 : Nat} {T T' : TypeId} {cs cs' : Array Value} {fr fr' : Nat × Nat} (h : w.heap[g]? = some (.cells cs T fr)) (h' : w.heap[g2]? = some (.cells cs' T' fr')) (hT : T ≠ T') : g ≠ g2 := fun e => by
  subst e
  rw [h] at h'
  injection h' with h3
  injection h3 with _ h3
  exact hT h3
section
variable {col : Nat → Nat} {w : World} {B g c n k N : Nat} {b : Value} {q : Crd}
set_option linter.unusedVariables false in
set_option linter.unusedSimpArgs false in
theorem OwnCr.parts (h : OwnCr col w B (.agg #[.slice (some ⟨g, 0, none⟩) N c, b]) q) : OwnTxs col w B (.slice (some ⟨g, 0, none⟩) N c) q.ts ∧ OwnI w B b q.os ∧ ColV col 0 b := by
  obtain ⟨a0, b0, e, h1, h2, h3⟩ := h
  injection e with e
  obtain ⟨rfl, rfl⟩ : (.slice (some ⟨g, 0, none⟩) N c) = a0 ∧ b = b0 := by
    have := congrArg Array.toList e
    simpa using this
  exact ⟨h1, h2, h3⟩
set_option linter.unusedVariables false in
set_option linter.unusedSimpArgs false in
theorem OwnCr.head (h : OwnCr col w B (.agg #[.slice (some ⟨g, 0, none⟩) N c, b]) q) (hN : N = q.ts.length) (hn : n < q.ts.length) : ∃ cs fr, w.heap[g]? = some (.cells cs 33 fr) := by
  subst hN
  obtain ⟨xs, h1, -⟩ := h.parts.1
  exact row_typed h1 g rfl
set_option linter.unusedVariables false in
set_option linter.unusedSimpArgs false in
/-- The decision of transaction n is stored. -/
theorem cr_dec (h : OwnCr col w B (.agg #[.slice (some ⟨g, 0, none⟩) N c, b]) q) (hN : N = q.ts.length) (hn : n < q.ts.length) (x : Int) :
    w.cell? ⟨g, n * 3 + 2, none⟩ = some (.int .i64 q.ts[n].d) ∧ w.frozen? ⟨g, n * 3 + 2, none⟩ = false ∧ B ≤ g ∧ OwnCr col (w.setCell ⟨g, n * 3 + 2, none⟩ (.int .i64 x)) B (.agg #[.slice (some ⟨g, 0, none⟩) N c, b]) ⟨q.ts.set n ⟨q.ts[n].ps, q.ts[n].vs, x⟩, q.os⟩ := by
  subst hN
  obtain ⟨h1, h2, h3⟩ := h.parts
  have hty := h.head rfl hn
  obtain ⟨q0, q1, q2⟩ := h1.dec hn x
  obtain ⟨xs, r1, -⟩ := h1
  refine ⟨q0, q1, (World.ownsRow.lt r1 g rfl).1, _, _, rfl, q2, row_far_type h2 (by decide) (but_set w g _ _) (row_typed r1), h3⟩
set_option linter.unusedVariables false in
set_option linter.unusedSimpArgs false in
/-- A vote of transaction n is stored. -/
theorem cr_vote (h : OwnCr col w B (.agg #[.slice (some ⟨g, 0, none⟩) N c, b]) q) (hN : N = q.ts.length) (hn : n < q.ts.length) (hk : k < q.ts[n].vs.length) :
    ∃ g2 c2, w.cell? ⟨g, n * 3 + 1, none⟩ = some (.slice (some ⟨g2, 0, none⟩) q.ts[n].vs.length c2) ∧ w.cell? ⟨g2, k, none⟩ = some (.int .i64 q.ts[n].vs[k]) ∧ w.frozen? ⟨g2, k, none⟩ = false ∧ B ≤ g2 ∧ (∃ cs fr, w.heap[g2]? = some (.cells cs 3 fr)) ∧
      ∀ x : Int, OwnCr col (w.setCell ⟨g2, k, none⟩ (.int .i64 x)) B (.agg #[.slice (some ⟨g, 0, none⟩) N c, b]) ⟨q.ts.set n ⟨q.ts[n].ps, q.ts[n].vs.set k x, q.ts[n].d⟩, q.os⟩ := by
  subst hN
  obtain ⟨h1, h2, h3⟩ := h.parts
  have h1' := h1
  obtain ⟨g2, c2, q0, q1, q2, q3, q4, q5, q6, q7⟩ := h1.vote hn hk
  have hty : ∃ cs fr, w.heap[g2]? = some (.cells cs 3 fr) := by
    obtain ⟨xs, r1, r2, -⟩ := h1'
    obtain ⟨a', b', t0, t1, t2, -, t4, -⟩ := r2 n hn
    have e := (World.ownsRow.cellAt r1 (n * 3 + 1) (by have := r1.1; omega)).trans t1
    rw [q0] at e
    injection e with e
    subst e
    exact row_typed t4 g2 rfl
  refine ⟨g2, c2, q0, q1, q2, q3, hty, fun x => ⟨_, _, rfl, q7 x, ?_, h3⟩⟩
  exact row_same h2 fun j hj => Below.heap_setCell w _ _ j (fun e => by have e1 : j = g2 := e; have := h3 j hj; rw [e1, q5] at this; omega)
set_option linter.unusedVariables false in
set_option linter.unusedSimpArgs false in
/-- The votes of transaction n, read. -/
theorem cr_votes (h : OwnCr col w B (.agg #[.slice (some ⟨g, 0, none⟩) N c, b]) q) (hN : N = q.ts.length) (hn : n < q.ts.length) : ∃ A2 c2, w.cell? ⟨g, n * 3 + 1, none⟩ = some (.slice A2 q.ts[n].vs.length c2) ∧ Row w w.heap.size A2 (ints q.ts[n].vs) := by
  subst hN
  obtain ⟨xs, r1, r2, -⟩ := h.parts.1
  obtain ⟨a', b', t0, t1, t2, t3⟩ := r2 n hn
  obtain ⟨A, c1, A2, c2, rfl, rfl, -, -, -, s6⟩ := t3.form
  exact ⟨A2, c2, (World.ownsRow.cellAt r1 (n * 3 + 1) (by have := r1.1; omega)).trans t1, s6⟩
set_option linter.unusedVariables false in
set_option linter.unusedSimpArgs false in
theorem cr_head {col : Nat → Nat} {w : World} {B N m : Nat} {Ao Ab : Option Addr} {co cb : Nat} {q : Crd} (h : OwnCr col w B (.agg #[.slice Ao N co, .slice Ab m cb]) q) {n : Nat} (hn : n < q.ts.length) : ∃ g, Ao = some ⟨g, 0, none⟩ ∧ N = q.ts.length := by
  obtain ⟨a0, b0, e, h1, h2, h3⟩ := h
  injection e with e
  obtain ⟨rfl, rfl⟩ : (.slice Ao N co) = a0 ∧ (.slice Ab m cb) = b0 := by
    have := congrArg Array.toList e
    simpa using this
  obtain ⟨g, c, e, -, -⟩ := h1.at hn
  injection e with e1 e2
  exact ⟨g, e1, e2⟩
end
set_option linter.unusedVariables false in
/-- It is at place z, or -1. -/
def Ix (ps : List Part) (s z : Int) : Prop := (∃ (k : Nat) (h : k < ps.length), z = (k : Int) ∧ ps[k].s = s ∧ ∀ j (hj : j < ps.length), j < k → ps[j].s ≠ s) ∨ (z = -1 ∧ ∀ j (h : j < ps.length), ps[j].s ≠ s)
set_option linter.unusedVariables false in
set_option linter.unusedSimpArgs false in
theorem ix_ex (ps : List Part) (s : Int) : ∃ z, Ix ps s z := by
  by_cases h : ∃ k, ∃ h : k < ps.length, ps[k].s = s
  · have : ∀ m, (∀ j (hj : j < ps.length), j < m → ps[j].s ≠ s) ∨ ∃ (k : Nat) (h : k < ps.length), ps[k].s = s ∧ ∀ j (hj : j < ps.length), j < k → ps[j].s ≠ s := by
      intro m
      induction m with
      | zero => exact .inl fun j _ hj => absurd hj (Nat.not_lt_zero _)
      | succ m ih =>
        rcases ih with ih | ih
        · by_cases hm : ∃ h : m < ps.length, ps[m].s = s
          · obtain ⟨h1, h2⟩ := hm
            exact .inr ⟨m, h1, h2, ih⟩
          · refine .inl fun j hj hjm e => ?_
            by_cases e2 : j = m
            · subst e2; exact hm ⟨hj, e⟩
            · exact ih j hj (by omega) e
        · exact .inr ih
    rcases this ps.length with h1 | ⟨k, h1, h2, h3⟩
    · obtain ⟨k, hk, e⟩ := h
      exact absurd e (h1 k hk hk)
    · exact ⟨_, .inl ⟨k, h1, rfl, h2, h3⟩⟩
  · exact ⟨-1, .inr ⟨rfl, fun j hj e => h ⟨j, hj, e⟩⟩⟩
set_option linter.unusedVariables false in
def NoS (ps : List Part) (s : Int) (k : Nat) : Prop := ∀ j (h : j < ps.length), j < k → ps[j].s ≠ s
set_option linter.unusedVariables false in
set_option linter.unusedSimpArgs false in
theorem NoS.zero (ps : List Part) (s : Int) : NoS ps s 0 := fun _ _ h => absurd h (Nat.not_lt_zero _)
set_option linter.unusedVariables false in
set_option linter.unusedSimpArgs false in
theorem NoS.next {ps : List Part} {s : Int} {k : Nat} (h : NoS ps s k) (hk : k < ps.length) (hv : ¬ ps[k].s = s) : NoS ps s (k + 1) := fun j hj hl => by
  by_cases e : j = k
  · subst e; exact hv
  · exact h j hj (by omega)
set_option linter.unusedVariables false in
set_option linter.unusedSimpArgs false in
theorem NoS.at {ps : List Part} {s z : Int} {k : Nat} (h : NoS ps s k) (hk : k < ps.length) (hv : ps[k].s = s) (hz : Ix ps s z) : z = (k : Int) := by
  rcases hz with ⟨m, h1, h2, h3, h4⟩ | ⟨-, h1⟩
  · rcases Nat.lt_trichotomy m k with e | e | e
    · exact absurd h3 (h m h1 e)
    · rw [h2, e]
    · exact absurd hv (h4 k hk e)
  · exact absurd hv (h1 k hk)
set_option linter.unusedVariables false in
set_option linter.unusedSimpArgs false in
theorem NoS.all {ps : List Part} {s z : Int} (h : NoS ps s ps.length) (hz : Ix ps s z) : z = -1 := by
  rcases hz with ⟨m, h1, h2, h3, h4⟩ | ⟨h1, -⟩
  · exact absurd h3 (h m h1 h1)
  · exact h1
set_option linter.unusedVariables false in
set_option linter.unusedSimpArgs false in
set_option maxHeartbeats 4000000 in
theorem l22Shard_is (z : Int) (A : Option Addr) (c : Nat) (ps : List Part) (s : Int) (w : World) (B : Nat) (h : Parts w B A ps) (hm : ps.length ≤ 1048600) (hz : Ix ps s z) :
    Calls Try.prog 66 #[.slice A ps.length c, .int .i64 s] w (Same (.int .i64 z) w) := by
  have HZ := hid hz
  clear hz
  go_enter Try.func66, Try.ntmps66
  go_wp2_with fail
  go_loop [5] (fun i => ∃ k : Nat, k ≤ ps.length ∧ i = .int .i64 k ∧ Hid (NoS ps s k)) (fun i => ps.length - (intOf i).toNat)
  case atStart => exact ⟨0, Nat.zero_le _, rfl, .zero ps s⟩
  case round =>
    obtain ⟨k, hk, rfl, H⟩ := hrel
    by_cases hlt : k < ps.length
    · obtain ⟨p, ad, A', c', ho, rfl, ha, g0, -, -, -⟩ := h.part hlt
      have q0 : (0 : Int) ≤ (k : Int) := by omega
      have q1 : (k : Int) < (ps.length : Int) := by omega
      by_cases hv : ps[k].s = s
      · have e0 : (p.s == s) = true := by rw [beq_iff_eq, ← ho]; exact hv
        have F := hid (H.out.at hlt hv HZ.out)
        clear H hv ho
        go_wp2
        go_ret
        rw [F.out]
        exact ⟨rfl, rfl⟩
      · have e0 : (p.s == s) = false := by rw [beq_eq_false_iff_ne, ← ho]; exact hv
        have HN := hid (H.out.next hlt hv)
        clear H hv ho
        go_wp2
        go_round
        case rel => exact ⟨k + 1, by omega, by go_num, HN⟩
        case measure => simp [intOf]; omega
    · have hk' : k = ps.length := by omega
      subst hk'
      have F := hid (H.out.all HZ.out)
      clear H
      go_wp2
      go_ret
      rw [F.out]
      exact ⟨rfl, rfl⟩
set_option linter.unusedSimpArgs false in
set_option linter.unusedVariables false in
set_option maxRecDepth 100000 in
set_option maxHeartbeats 16000000 in
theorem specCoordinatorTimeout_is (x : Crd) (b : Bool) (v : Value) (q : Crd) (t : Int) (w : World) (h : Crdd w w.heap.size v q) (hf : FitC q) (hx : Late q t x b) :
    Calls Try.prog 58 #[v, .int .i64 t] w (NewCrB x b w) := by
  obtain ⟨bv, hbv⟩ := bool_ofP' (CV q)
  obtain ⟨bi, hbi⟩ := bool_of (0 ≤ t ∧ t ≤ (q.ts.length : Int) - 1)
  have HX := hid hx
  have HBV := hid hbv
  have HBI := hid hbi
  have CVal : Hid (∀ y, Below w.heap.size w y → Calls Try.prog 19 #[v] y (Ret (.bool bv) y)) := fun y hy => specCoordinatorValid_is bv v q y (h.on hy hy.size) hf hbv
  have CCop : Hid (∀ y, Below w.heap.size w y → Calls Try.prog 76 #[v] y (NewCr q y)) := fun y hy => l22Copy_any v q y (h.on hy hy.size) hf
  have CI : Hid (∀ y, Calls Try.prog 40 #[.int .i64 t, .int .i64 0, .int .i64 ((q.ts.length : Int) - 1)] y (Ret (.bool bi) y)) := fun y => (l6In_is bi _ _ _ y hbi).mono fun _ _ h => h.ret
  have hf1 := hf.ts
  have qw : IntKind.i64.wrap ((q.ts.length : Int) - 1) = (q.ts.length : Int) - 1 := IntWalk.i64_in _ (by omega)
  clear hx hbv hbi
  obtain ⟨A, c, A2, c2, rfl, hT, hc, -, hc2⟩ := h
  clear hf
  unfold crV at *
  have b1 := ((Below.refl w.heap.size w).alloc (Nat.le_refl _) (.cells #[.slice A q.ts.length c, .slice A2 q.os.length c2] 26)).alloc (by simp) (.cells #[.slice none 0 0, .slice none 0 0] 26)
  have x0 := (Blk2s.new_ w 26 (.slice A q.ts.length c) (.slice A2 q.os.length c2)).alloc (.cells #[.slice none 0 0, .slice none 0 0] 26)
  have x1 := Blk2s.new_ (w.alloc (.cells #[.slice A q.ts.length c, .slice A2 q.os.length c2] 26)) 26 (.slice none 0 0) (.slice none 0 0)
  rw [World.size_alloc] at x1
  go_enter Try.func58, Try.ntmps58
  go_upto_region 1 with fail
  obtain ⟨w1, hw1⟩ : ∃ w1, (w.alloc (.cells #[.slice A q.ts.length c, .slice A2 q.os.length c2] 26)).alloc (.cells #[.slice none 0 0, .slice none 0 0] 26) = w1 := ⟨_, rfl⟩
  rw [hw1] at b1 x0 x1 ⊢
  clear hw1
  obtain ⟨y0, y1, -⟩ := id x0.reads
  go_wp2_with fail
  refine (CVal.out _ b1).mono ?_
  rintro e w2 ⟨rfl, d⟩
  replace x0 := x0.later d
  replace x1 := x1.later d
  replace b1 := b1.trans (d.mono b1.size)
  clear y0 y1
  obtain ⟨y0, y1, -⟩ := id x0.reads
  cases bv with
  | false =>
    obtain ⟨rfl, rfl⟩ := HX.out.bad_ fun e => by have := HBV.out.2 e; cases this
    clear HX CVal CCop CI
    obtain ⟨t0, t1, tf⟩ := id x1.reads
    have tf0 := tf 0
    have tf1 := tf 1
    clear tf
    obtain ⟨p0, p1, -⟩ := ((x1.set0 (.slice none 0 0)).set1 (.slice none 0 0)).reads
    have b7 := (b1.setCell (p := ⟨w.heap.size + 1, 0, none⟩) (Nat.le_succ _) (.slice none 0 0)).setCell (p := ⟨w.heap.size + 1, 1, none⟩) (Nat.le_succ _) (.slice none 0 0)
    go_wp2
    exact bodyPost_ret (v := .tuple #[.agg #[.slice none 0 0, .slice none 0 0], .bool false]) (by simp [results, Try.results58, go_sem, p0, p1]) rfl ⟨_, _, rfl, OwnCr.none_ _ _, b7⟩
  | true =>
    have HVq := hid (HBV.out.1 rfl)
    have zc := b1.size
    go_wp2_with fail
    refine (CCop.out _ b1).mono ?_
    rintro e w2 ⟨v2, col, rfl, o2, d⟩
    replace x0 := x0.later d
    replace x1 := x1.later d
    replace b1 := b1.trans (d.mono b1.size)
    clear y0 y1
    obtain ⟨y0, y1, -⟩ := id x0.reads
    obtain ⟨Ao, co, Ab, cb, rfl, -, -, -, -, -, -, -⟩ := o2.form
    unfold crV at o2 ⊢
    have HB2 : Hid (w.heap.size + 1 < w2.heap.size) := x1.lt
    replace o2 := o2.base (B' := w.heap.size) zc
    have d := (Below.refl w2.heap.size w2).alloc (Nat.le_refl _) (.cells #[.slice Ao q.ts.length co, .slice Ab q.os.length cb] 26)
    have x6 := Blk2s.new_ w2 26 (.slice Ao q.ts.length co) (.slice Ab q.os.length cb)
    replace o2 := o2.below d
    replace x0 := x0.later d
    replace x1 := x1.later d
    replace b1 := b1.trans (d.mono b1.size)
    clear y0 y1
    obtain ⟨y0, y1, -⟩ := id x0.reads
    go_upto_region 4 with fail
    obtain ⟨w3, hw3⟩ : ∃ x, w2.alloc (.cells #[.slice Ao q.ts.length co, .slice Ab q.os.length cb] 26) = x := ⟨_, rfl⟩
    obtain ⟨g, hg⟩ : ∃ x, w2.heap.size = x := ⟨_, rfl⟩
    rw [hw3] at x0 x1 b1 y0 y1 x6 o2 ⊢
    rw [hg] at x6 HB2 ⊢
    clear hw3 hg d CVal CCop
    go_wp2_with fail
    refine (CI.out _).mono ?_
    rintro e w4 ⟨rfl, d⟩
    replace x0 := x0.later d
    replace x1 := x1.later d
    replace b1 := b1.trans (d.mono b1.size)
    clear y0 y1
    obtain ⟨y0, y1, -⟩ := id x0.reads
    replace o2 := o2.below d
    replace x6 := x6.later d
    clear d CI
    cases bi with
    | false =>
      obtain ⟨rfl, rfl⟩ := HX.out.no_ HVq.out fun n hn e => absurd (HBI.out.2 ⟨by omega, by omega⟩) (by decide)
      clear HX HVq HBV HBI HB2
      obtain ⟨u0, u1, -⟩ := id x6.reads
      have o9 := o2
      clear o2
      obtain ⟨t0, t1, tf⟩ := id x1.reads
      have tf0 := tf 0
      have tf1 := tf 1
      clear tf
      have o10 := (o9.keptT (by decide) (by decide) (by decide) (by decide) (but_set _ (w.heap.size + 1) 0 (.slice Ao x.ts.length co)) (blk_type x1)).keptT (by decide) (by decide) (by decide) (by decide) (but_set _ (w.heap.size + 1) 1 (.slice Ab x.os.length cb)) (blk_type (x1.set0 _))
      have b9 := (b1.setCell (p := ⟨w.heap.size + 1, 0, none⟩) (Nat.le_succ _) (.slice Ao x.ts.length co)).setCell (p := ⟨w.heap.size + 1, 1, none⟩) (Nat.le_succ _) (.slice Ab x.os.length cb)
      obtain ⟨p0, p1, -⟩ := ((x1.set0 (.slice Ao x.ts.length co)).set1 (.slice Ab x.os.length cb)).reads
      clear x0 x1 o9 b1
      go_wp2
      exact bodyPost_ret (v := .tuple #[.agg #[.slice Ao x.ts.length co, .slice Ab x.os.length cb], .bool false]) (by simp [results, Try.results58, go_sem, p0, p1]) rfl ⟨_, _, rfl, o10, b9⟩
    | true =>
      have hti := HBI.out.1 rfl
      obtain ⟨n, rfl⟩ := Int.eq_ofNat_of_zero_le hti.1
      have hn : n < q.ts.length := by omega
      have k0 : (0 : Int) ≤ (n : Int) := by omega
      have k1 : (n : Int) < (q.ts.length : Int) := by omega
      obtain ⟨t, ad, A', c', A9, c9, ho, rfl, had, g0, g1, g2, -⟩ := (hT.below b1 (Nat.le_refl _)).tx hn
      by_cases hd : t.d = 0
      · obtain ⟨rfl, rfl⟩ := HX.out.yes_ HVq.out hn (by rw [ho]; exact hd)
        have e0 : (t.d != 0) = false := by rw [bne_eq_false_iff_eq]; exact hd
        obtain ⟨gT, rfl, -⟩ := cr_head o2 hn
        obtain ⟨hx1, hx2, hgB, hx3⟩ := cr_dec o2 rfl hn 3
        obtain ⟨cs, fr, hty⟩ := o2.head rfl hn
        have n1 := ty_ne x1 hty (by decide)
        have n6 := ty_ne x6 hty (by decide)
        obtain ⟨u0, u1, -⟩ := id x6.reads
        clear HX HVq HBV HBI HB2 hd o2 hti
        go_upto_region 7 with fail
        have x1' := x1.far (p := ⟨gT, n * 3 + 2, none⟩) n1 (.int .i64 3)
        have x6' := x6.far (p := ⟨gT, n * 3 + 2, none⟩) n6 (.int .i64 3)
        have b1' := b1.setCell (p := ⟨gT, n * 3 + 2, none⟩) hgB (.int .i64 3)
        have ho' : q.ts[n] = t := ho
        clear x1 x6 b1 u0 u1 y0 y1 x0 g0 g1 g2 hx1 hx2
        obtain ⟨W, hW⟩ : ∃ x, w4.setCell ⟨gT, n * 3 + 2, none⟩ (.int .i64 3) = x := ⟨_, rfl⟩
        rw [hW] at x1' x6' b1' hx3 ⊢
        clear hW
        have x1 := x1'
        have b1 := b1'
        obtain ⟨u0, u1, -⟩ := id x6'.reads
        have o9 : OwnCr col W w.heap.size (.agg #[.slice (some ⟨gT, 0, none⟩) q.ts.length co, .slice Ab q.os.length cb]) (lateC q n hn) := hx3
        have x0 := trivial
        clear hx3 x1' b1' x6'
        obtain ⟨t0, t1, tf⟩ := id x1.reads
        have tf0 := tf 0
        have tf1 := tf 1
        clear tf
        have o10 := (o9.keptT (by decide) (by decide) (by decide) (by decide) (but_set _ (w.heap.size + 1) 0 (.slice (some ⟨gT, 0, none⟩) q.ts.length co)) (blk_type x1)).keptT (by decide) (by decide) (by decide) (by decide) (but_set _ (w.heap.size + 1) 1 (.slice Ab q.os.length cb)) (blk_type (x1.set0 _))
        have b9 := (b1.setCell (p := ⟨w.heap.size + 1, 0, none⟩) (Nat.le_succ _) (.slice (some ⟨gT, 0, none⟩) q.ts.length co)).setCell (p := ⟨w.heap.size + 1, 1, none⟩) (Nat.le_succ _) (.slice Ab q.os.length cb)
        obtain ⟨p0, p1, -⟩ := ((x1.set0 (.slice (some ⟨gT, 0, none⟩) q.ts.length co)).set1 (.slice Ab q.os.length cb)).reads
        clear x0 x1 o9 b1
        go_wp2
        exact bodyPost_ret (v := .tuple #[.agg #[.slice (some ⟨gT, 0, none⟩) q.ts.length co, .slice Ab q.os.length cb], .bool true]) (by simp [results, Try.results58, go_sem, p0, p1]) rfl ⟨_, _, rfl, o10, b9⟩
      · obtain ⟨rfl, rfl⟩ := HX.out.no_ HVq.out fun m hm e => by
          have e2 : n = m := by omega
          subst e2
          rw [ho]
          exact hd
        have e0 : (t.d != 0) = true := by rw [bne_iff_ne]; exact hd
        clear HX HVq HBV HBI HB2 hd hti
        obtain ⟨u0, u1, -⟩ := id x6.reads
        have o9 := o2
        clear o2
        obtain ⟨t0, t1, tf⟩ := id x1.reads
        have tf0 := tf 0
        have tf1 := tf 1
        clear tf
        have o10 := (o9.keptT (by decide) (by decide) (by decide) (by decide) (but_set _ (w.heap.size + 1) 0 (.slice Ao x.ts.length co)) (blk_type x1)).keptT (by decide) (by decide) (by decide) (by decide) (but_set _ (w.heap.size + 1) 1 (.slice Ab x.os.length cb)) (blk_type (x1.set0 _))
        have b9 := (b1.setCell (p := ⟨w.heap.size + 1, 0, none⟩) (Nat.le_succ _) (.slice Ao x.ts.length co)).setCell (p := ⟨w.heap.size + 1, 1, none⟩) (Nat.le_succ _) (.slice Ab x.os.length cb)
        obtain ⟨p0, p1, -⟩ := ((x1.set0 (.slice Ao x.ts.length co)).set1 (.slice Ab x.os.length cb)).reads
        clear x0 x1 o9 b1
        go_wp2
        exact bodyPost_ret (v := .tuple #[.agg #[.slice Ao x.ts.length co, .slice Ab x.os.length cb], .bool false]) (by simp [results, Try.results58, go_sem, p0, p1]) rfl ⟨_, _, rfl, o10, b9⟩
end Go.Proofs.Ytjplondblkkpmaa
/- Laws on coordinators: a coordinator is boxed. -/
/- On to the world behind D. -/
/- An exact law begins: the argument's box, its size, a copy for the model. -/
/- The program's own copy of the argument is boxed. -/
/- The program's copy is as the argument; the region draws. -/
/- Laws on functions that answer numbers. -/
/- What the boxes hold is read again. -/
/- The coordinator with the slices P4 and P5 is boxed as P6, in block P7, behind it the world P3; ahead of region P1. -/
/- The draw, the program's answer, the model's, and that they are the same: behind it w5, all facts on it by way of dx. -/
/-
  Walks: the refs after some committed transactions, by the model.
-/
namespace Go.Proofs.Ytjplondblkkpmaa
open Go.RowKit Wo Pu Rf Co

set_option linter.unusedVariables false in
/-- Behind it: numbers that can be read. -/
def ReadI (zs : List Int) (w : World) (e : Ending) (w' : World) : Prop := ∃ A c, e = .returned (.slice A zs.length c) ∧ Row w' w'.heap.size A (ints zs) ∧ zs.length ≤ c ∧ Below w.heap.size w w'
set_option linter.unusedVariables false in
set_option linter.unusedSimpArgs false in
theorem usAt_at {ps : List Part} {s : Int} {k : Nat} (hk : k < ps.length) (h1 : ps[k].s = s) (h2 : ∀ j (hj : j < ps.length), j < k → ps[j].s ≠ s) : usAt ps s = ps[k].us := by
  unfold usAt
  have : ps.find? (fun p => p.s == s) = some ps[k] := List.find?_eq_some_iff_getElem.2 ⟨by simpa using h1, k, hk, rfl, fun j hj => by simpa using h2 j (by omega) hj⟩
  rw [this]
set_option linter.unusedVariables false in
set_option linter.unusedSimpArgs false in
theorem usAt_no {ps : List Part} {s : Int} (h : ∀ j (hj : j < ps.length), ps[j].s ≠ s) : usAt ps s = [] := by
  unfold usAt
  rw [List.find?_eq_none.2 fun p hp => by obtain ⟨j, hj, rfl⟩ := List.getElem_of_mem hp; simpa using h j hj]
set_option linter.unusedVariables false in
set_option linter.unusedSimpArgs false in
theorem usAt_valid {ps : List Part} {s : Int} (h : PartsV ps) : Refs4 (usAt ps s) := by
  unfold usAt
  rcases hf : ps.find? (fun p => p.s == s) with _ | p
  · exact fun u hu => by rw [hf] at hu; cases hu
  · rw [hf]
    exact refs4_of ((h.2.1 p (List.mem_of_find?_eq_some hf)).2.2)
set_option linter.unusedVariables false in
set_option linter.unusedSimpArgs false in
theorem foldC_len (c : Crd) (s : Int) : ∀ (l : List Int) (z : List Int), (l.foldl (fun z o => match c.ts[o.toNat]? with
  | some t => setR z (usAt t.ps s)
  | none => z) z).length = z.length := by
  intro l
  induction l with
  | nil => intro z; rfl
  | cons o l ih =>
    intro z
    rw [List.foldl_cons, ih]
    rcases c.ts[o.toNat]? with _ | t
    · rfl
    · exact setR_length _ _
set_option linter.unusedVariables false in
set_option linter.unusedSimpArgs false in
theorem refsC_len (c : Crd) (s : Int) (m : Nat) : (refsC c s m).length = 4 := by
  unfold refsC
  exact foldC_len c s (c.os.take m) Sh.start
set_option linter.unusedVariables false in
set_option linter.unusedSimpArgs false in
theorem refsC_zero (c : Crd) (s : Int) : refsC c s 0 = [-1, -1, -1, -1] := rfl
set_option linter.unusedVariables false in
set_option linter.unusedSimpArgs false in
theorem field_refs (A : Option Addr) (n c : Nat) (A2 : Option Addr) (n2 c2 : Nat) (W : World) : (Instr.field 88 (.agg #[.slice A n c, .slice A2 n2 c2]) 0).run Try.prog W = .ok (.slice A n c) W := by kernel_rfl
set_option linter.unusedSimpArgs false in
set_option linter.unusedVariables false in
set_option maxRecDepth 100000 in
set_option maxHeartbeats 16000000 in
theorem l22Refs_any (v : Value) (q : Crd) (s : Int) (m : Nat) (w : World) (h : Crdd w w.heap.size v q) (hf : FitC q) (hv : CV q) (hm : m ≤ q.os.length) :
    Calls Try.prog 41 #[v, .int .i64 s, .int .i64 m] w (ReadI (refsC q s m) w) := by
  have HV := hid hv
  have HF := hid hf
  have hf2 := hf.os
  have hf1 := hf.ts
  obtain ⟨A, c, A2, c2, rfl, hT, hc, hO, hc2⟩ := h
  clear hv hf
  unfold crV at *
  have b1 := (Below.refl w.heap.size w).alloc (Nat.le_refl _) (.cells #[.slice A q.ts.length c, .slice A2 q.os.length c2] 26)
  have x0 := Blk2s.new_ w 26 (.slice A q.ts.length c) (.slice A2 q.os.length c2)
  go_enter Try.func41, Try.ntmps41
  go_upto_region 1 with fail
  obtain ⟨w1, hw1⟩ : ∃ x, w.alloc (.cells #[.slice A q.ts.length c, .slice A2 q.os.length c2] 26) = x := ⟨_, rfl⟩
  rw [hw1] at b1 x0 ⊢
  clear hw1
  go_wp2_with fail
  refine (l21Begin_any w1).mono ?_
  rintro e w2 ⟨v2, rfl, ⟨A3, c3, A4, c4, rfl, r3, hc3, -, -⟩, d⟩
  unfold stV
  have hfr := field_refs A3 4 c3 A4 4 c4
  have hb2 := b1.trans (d.mono b1.size)
  have y0 := x0.later d
  clear b1 x0 d
  go_wp2_with fail
  go_loopw [7, 8] (fun o i wr => ∃ (k : Nat) (Ar : Option Addr) (cr : Nat) (zs : List Int), k ≤ m ∧ i = .int .i64 k ∧ o = .slice Ar 4 cr ∧ 4 ≤ cr ∧ zs.length = 4 ∧ Hid (zs = refsC q s k) ∧ Row wr wr.heap.size Ar (ints zs) ∧ Blk2s wr w.heap.size 26 (.slice A q.ts.length c) (.slice A2 q.os.length c2) ∧ Below w.heap.size w wr) (fun _ i _ => m - (intOf i).toNat)
  case atStart => exact ⟨0, _, _, _, Nat.zero_le _, rfl, rfl, hc3, rfl, rfl, r3, y0, hb2⟩
  case round =>
    obtain ⟨k, Ar, cr, zs, hk, rfl, rfl, hcr, hzl, HZ, rr, x0, hb⟩ := hrel
    clear r3 y0 hb2 hc3 hfr
    have hz := hb.size
    by_cases hlt : k < m
    · have hko : k < q.os.length := by omega
      obtain ⟨n, hn, eo, -⟩ := HV.out.order.2 _ (List.getElem_mem hko)
      obtain ⟨ad2, rfl, hbl2, hc9⟩ := hO.int_ hko
      rw [eo] at hc9
      obtain ⟨t, ad, A', c', A9, c9, ho, rfl, had, g0, g1, g2, -, -, g5, -⟩ := hT.tx hn
      have htv := HV.out.txs t (by rw [← ho]; exact List.getElem_mem hn)
      have hps := (HF.out.ps t (by rw [← ho]; exact List.getElem_mem hn)).1
      have hus := HF.out.us t (by rw [← ho]; exact List.getElem_mem hn)
      have q0 : (0 : Int) ≤ (k : Int) := by omega
      have q1 : (k : Int) < (q.os.length : Int) := by omega
      have q2 : (0 : Int) ≤ (n : Int) := by omega
      have q3 : (n : Int) < (q.ts.length : Int) := by omega
      have q4 : decide ((k : Int) < (m : Int)) = true := decide_eq_true (by omega)
      have q5 : decide (k < m) = true := decide_eq_true hlt
      have HR : Hid (refsC q s (k + 1) = setR zs (usAt t.ps s)) := by
        show _ = _
        rw [refsC_succ hko hn eo, HZ.out, ho]
      obtain ⟨z, hzx⟩ := ix_ex t.ps s
      have HS : Hid (∀ x, Blk2s x w.heap.size 26 (.slice (some ad) q.ts.length c) (.slice (some ad2) q.os.length c2) → Below w.heap.size w x → x.cell? ⟨w.heap.size, 0, none⟩ = some (.slice (some ad) q.ts.length c) ∧ x.cell? ⟨w.heap.size, 1, none⟩ = some (.slice (some ad2) q.os.length c2) ∧ x.cell? (ad2.add k) = some (.int .i64 n) ∧
          x.cell? (ad.add (n * 3)) = some (.slice A' t.ps.length c') ∧ x.cell? ⟨(ad.add (n * 3)).block, (ad.add (n * 3)).off + 1, none⟩ = some (.slice A9 t.vs.length c9) ∧ x.cell? ⟨(ad.add (n * 3)).block, (ad.add (n * 3)).off + 2, none⟩ = some (.int .i64 t.d)) := fun x h1 hx =>
        ⟨h1.reads.1, h1.reads.2.1, (hx.cell (by rw [add_block]; exact hbl2)).trans hc9, (hx.cell had).trans g0, (hx.cell (p := ⟨(ad.add (n * 3)).block, (ad.add (n * 3)).off + 1, none⟩) had).trans g1, (hx.cell (p := ⟨(ad.add (n * 3)).block, (ad.add (n * 3)).off + 2, none⟩) had).trans g2⟩
      have CS : Hid (∀ x, Below w.heap.size w x → Calls Try.prog 66 #[.slice A' t.ps.length c', .int .i64 s] x (Same (.int .i64 z) x)) := fun x hx => l22Shard_is z A' c' t.ps s x w.heap.size (g5.below hx (Nat.le_refl _)) (by omega) hzx
      have HT := hid htv
      have HX := hid hzx
      clear hc9 g0 g1 g2 hps eo ho htv hzx
      go_upto_region 5 with fail
      have D : Below wr.heap.size wr wr.drew := (Below.refl _ _).drew
      refine wp_region_held_drew (S := fun x => x.cell? ⟨w.heap.size, 0, none⟩ = some (.slice (some ad) q.ts.length c) ∧ x.cell? ⟨w.heap.size, 1, none⟩ = some (.slice (some ad2) q.os.length c2) ∧ x.cell? (ad2.add k) = some (.int .i64 n) ∧
          x.cell? (ad.add (n * 3)) = some (.slice A' t.ps.length c') ∧ x.cell? ⟨(ad.add (n * 3)).block, (ad.add (n * 3)).off + 1, none⟩ = some (.slice A9 t.vs.length c9) ∧ x.cell? ⟨(ad.add (n * 3)).block, (ad.add (n * 3)).off + 2, none⟩ = some (.int .i64 t.d)) (by kernel_rfl) (HS.out _ (x0.later D) (hb.trans (D.mono hz))) (fun hHeld => ?_)
      obtain ⟨W, hW⟩ : ∃ x, wr.drew = x := ⟨_, rfl⟩
      rw [hW] at D hHeld ⊢
      clear hW
      replace rr := (rr.below D (Nat.le_refl _)).more D.size
      replace x0 := x0.later D
      replace hb := hb.trans (D.mono hz)
      clear D hz
      have hz := hb.size
      try simp only [Act.put, List.getElem_toArray, List.getElem_cons_succ, List.getElem_cons_zero, List.setIfInBounds_toArray, List.set_cons_zero, List.set_cons_succ]
      refine wpAnyH_take (i := 0) (oi := _) (v := ?_) rfl (by kernel_rfl) (by kernel_rfl) (by kernel_rfl) (fun _ _ _ h => h) (Or.inl ⟨by rfl, ?_⟩) hHeld ?_
      rotate_left
      · (intro w' hSw; (try dsimp only at hSw); go_simp <;> with_reducible rfl)
      try simp only [Act.put, List.getElem_toArray, List.getElem_cons_succ, List.getElem_cons_zero, List.setIfInBounds_toArray, List.set_cons_zero, List.set_cons_succ]
      refine wpAnyH_take (i := 1) (oi := _) (v := ?_) rfl (by kernel_rfl) (by kernel_rfl) (by kernel_rfl) (fun _ _ _ h => h) (Or.inl ⟨by rfl, ?_⟩) hHeld ?_
      rotate_left
      · (intro w' hSw; (try dsimp only at hSw); go_simp <;> with_reducible rfl)
      try simp only [Act.put, List.getElem_toArray, List.getElem_cons_succ, List.getElem_cons_zero, List.setIfInBounds_toArray, List.set_cons_zero, List.set_cons_succ]
      refine wpAnyH_take (i := 2) (oi := _) (v := ?_) rfl (by kernel_rfl) (by kernel_rfl) (by kernel_rfl) (fun _ _ _ h => h) (Or.inl ⟨by rfl, ?_⟩) hHeld ?_
      rotate_left
      · (intro w' hSw; (try dsimp only at hSw); go_simp <;> with_reducible rfl)
      try simp only [Act.put, List.getElem_toArray, List.getElem_cons_succ, List.getElem_cons_zero, List.setIfInBounds_toArray, List.set_cons_zero, List.set_cons_succ]
      refine wpAnyH_take (i := 3) (oi := _) (v := ?_) rfl (by kernel_rfl) (by kernel_rfl) (by kernel_rfl) (fun _ _ _ h => h) (Or.inl ⟨by rfl, ?_⟩) hHeld ?_
      rotate_left
      · (intro w' hSw; (try dsimp only at hSw); go_simp <;> with_reducible rfl)
      try simp only [Act.put, List.getElem_toArray, List.getElem_cons_succ, List.getElem_cons_zero, List.setIfInBounds_toArray, List.set_cons_zero, List.set_cons_succ]
      refine wpAnyH_take (i := 4) (oi := _) (v := ?_) rfl (by kernel_rfl) (by kernel_rfl) (by kernel_rfl) (fun _ _ _ h => h) (Or.inl ⟨by rfl, ?_⟩) hHeld ?_
      rotate_left
      · (intro w' hSw; (try dsimp only at hSw); go_simp <;> with_reducible rfl)
      try simp only [Act.put, List.getElem_toArray, List.getElem_cons_succ, List.getElem_cons_zero, List.setIfInBounds_toArray, List.set_cons_zero, List.set_cons_succ]
      refine wpAnyH_take (i := 5) (oi := _) (v := ?_) rfl (by kernel_rfl) (by kernel_rfl) (by kernel_rfl) (fun _ _ _ h => h) (Or.inl ⟨by rfl, ?_⟩) hHeld ?_
      rotate_left
      · (intro w' hSw; (try dsimp only at hSw); go_simp <;> with_reducible rfl)
      try simp only [Act.put, List.getElem_toArray, List.getElem_cons_succ, List.getElem_cons_zero, List.setIfInBounds_toArray, List.set_cons_zero, List.set_cons_succ]
      refine wpAnyH_take (i := 6) (oi := _) (v := ?_) rfl (by kernel_rfl) (by kernel_rfl) (by kernel_rfl) (fun _ _ _ h => h) (Or.inl ⟨by rfl, ?_⟩) hHeld ?_
      rotate_left
      · (intro w' hSw; (try dsimp only at hSw); go_simp <;> with_reducible rfl)
      try simp only [Act.put, List.getElem_toArray, List.getElem_cons_succ, List.getElem_cons_zero, List.setIfInBounds_toArray, List.set_cons_zero, List.set_cons_succ]
      refine wpAnyH_take (i := 7) (oi := _) (v := ?_) rfl (by kernel_rfl) (by kernel_rfl) (by kernel_rfl) (fun _ _ _ h => h) (Or.inl ⟨by rfl, ?_⟩) hHeld ?_
      rotate_left
      · (intro w' hSw; (try dsimp only at hSw); go_simp <;> with_reducible rfl)
      try simp only [Act.put, List.getElem_toArray, List.getElem_cons_succ, List.getElem_cons_zero, List.setIfInBounds_toArray, List.set_cons_zero, List.set_cons_succ]
      refine wpAnyH_take (i := 8) (oi := _) (v := ?_) rfl (by kernel_rfl) (by kernel_rfl) (by kernel_rfl) (fun _ _ _ h => h) (Or.inl ⟨by rfl, ?_⟩) hHeld ?_
      rotate_left
      · (intro w' hSw; (try dsimp only at hSw); go_simp <;> with_reducible rfl)
      try simp only [Act.put, List.getElem_toArray, List.getElem_cons_succ, List.getElem_cons_zero, List.setIfInBounds_toArray, List.set_cons_zero, List.set_cons_succ]
      refine wpAnyH_ready (rs := [9]) (by kernel_rfl) (by simp) (AllReadyH.cons (o := _) rfl (fun K hK => ?_) AllReadyH.nil)
      try simp only [Act.put, List.getElem_toArray, List.getElem_cons_succ, List.getElem_cons_zero, List.setIfInBounds_toArray, List.set_cons_zero, List.set_cons_succ]
      have hx0 : w.heap.size < W.heap.size := x0.lt
      obtain ⟨gB, hgB⟩ : ∃ x, W.heap.size = x := ⟨_, rfl⟩
      have D : Below gB W (W.alloc (.cells #[.slice none 0 0, .slice none 0 0, .int .i64 0] 33)) := (Below.refl gB W).alloc (by omega) _
      have x9 := Blk3s.new_ W 33 (.slice none 0 0) (.slice none 0 0) (.int .i64 0)
      rw [hgB] at x9 hx0 hz rr
      go_simp
      try rw [hgB]
      obtain ⟨W2, hW⟩ : ∃ x, W.alloc (.cells #[.slice none 0 0, .slice none 0 0, .int .i64 0] 33) = x := ⟨_, rfl⟩
      rw [hW] at D x9 ⊢
      clear hW hgB
      have x02 := x0.below D hx0
      refine hK.out _ _ (HS.out _ x02 (hb.trans (D.mono hz))) (fun hHeld => ?_)
      clear hK K
      try simp only [Act.put, List.getElem_toArray, List.getElem_cons_succ, List.getElem_cons_zero, List.setIfInBounds_toArray, List.set_cons_zero, List.set_cons_succ]
      obtain ⟨t0, t1, t2, tf⟩ := id x9.reads
      have tf0 := tf 0
      have tf1 := tf 1
      have tf2 := tf 2
      clear tf
      replace D := ((D.setCell (p := ⟨gB, 0, none⟩) (Nat.le_refl _) (.slice A' t.ps.length c')).setCell (p := ⟨gB, 1, none⟩) (Nat.le_refl _) (.slice A9 t.vs.length c9)).setCell (p := ⟨gB, 2, none⟩) (Nat.le_refl _) (.int .i64 t.d)
      replace x9 := ((x9.set0 (.slice A' t.ps.length c')).set1 (.slice A9 t.vs.length c9)).set2 (.int .i64 t.d)
      refine wpAnyH_ready (rs := [10]) (by kernel_rfl) (by simp) (AllReadyH.cons (o := _) rfl (fun K hK => ?_) AllReadyH.nil)
      try simp only [Act.put, List.getElem_toArray, List.getElem_cons_succ, List.getElem_cons_zero, List.setIfInBounds_toArray, List.set_cons_zero, List.set_cons_succ]
      go_simp
      clear t0 t1 t2 tf0 tf1 tf2 x02
      obtain ⟨W3, hW⟩ : ∃ x, ((W2.setCell ⟨gB, 0, none⟩ (.slice A' t.ps.length c')).setCell ⟨gB, 1, none⟩ (.slice A9 t.vs.length c9)).setCell ⟨gB, 2, none⟩ (.int .i64 t.d) = x := ⟨_, rfl⟩
      rw [hW] at D x9 ⊢
      clear hW
      replace x0 := x0.below D hx0
      replace hb := hb.trans (D.mono hz)
      have zB : gB ≤ W3.heap.size := by have := x9.lt; omega
      replace rr := (rr.below D (Nat.le_refl _)).more zB
      refine hK.out _ _ (HS.out _ x0 hb) (fun hHeld => ?_)
      clear hK K
      try simp only [Act.put, List.getElem_toArray, List.getElem_cons_succ, List.getElem_cons_zero, List.setIfInBounds_toArray, List.set_cons_zero, List.set_cons_succ]
      refine wpAnyH_done (by kernel_rfl) ?_ _
      clear hHeld D HS
      obtain ⟨y9, -⟩ := id x9.reads
      go_wp2_with fail
      refine (CS.out _ hb).mono ?_
      rintro e W4 ⟨rfl, rfl⟩
      clear CS
      rcases HX.out with ⟨j, hj, rfl, hjs, hjn⟩ | ⟨rfl, hjn⟩
      · obtain ⟨p, ad3, A5, c5, hop, rfl, hbp, k0, k1, k2, k3⟩ := (g5.below hb (Nat.le_refl _)).part hj
        have hul := hus p (by rw [← hop]; exact List.getElem_mem hj)
        have hue : usAt t.ps s = p.us := by rw [usAt_at hj hjs hjn, hop]
        have h4r : Refs4 p.us := by rw [← hue]; exact usAt_valid HT.out.parts
        have zW := hb.size
        have CL := hid (l11Set_any Ar A5 cr c5 zs p.us W3 rr hzl (k3.more zW) h4r (by omega))
        rw [hzl] at CL
        have j0 : (0 : Int) ≤ (j : Int) := by omega
        have j1 : (j : Int) < (t.ps.length : Int) := by omega
        have HU := hid hue
        clear hjs hjn hue h4r k3 hop hus
        go_wp2_with fail
        refine CL.out.mono ?_
        rintro e W4 ⟨A6, c6, rfl, o6, d6⟩
        have hl6 : (setR zs p.us).length = 4 := by rw [setR_length]; exact hzl
        obtain ⟨A7, c7, e7, r6, hc6⟩ := o6.form
        injection e7 with e7 e8 e9
        subst e7
        subst e9
        rw [hl6] at hc6 ⊢
        have hb6 := hb.trans (d6.mono zW)
        have x6 := x0.later d6
        clear CL o6 d6
        go_wp2
        go_roundw
        case rel => exact ⟨k + 1, A6, c6, setR zs p.us, by omega, by go_num, rfl, hc6, hl6, by show _ = _; rw [HR.out, HU.out], r6, x6, hb6⟩
        case measure => simp [intOf]; omega
      · have HU : Hid (usAt t.ps s = []) := usAt_no hjn
        clear hjn hus
        go_wp2
        go_roundw
        case rel => exact ⟨k + 1, Ar, cr, zs, by omega, by go_num, rfl, hcr, hzl, by show _ = _; rw [HR.out, HU.out]; rfl, rr, x0, hb⟩
        case measure => simp [intOf]; omega
    · have hk' : k = m := by omega
      subst hk'
      have q4 : decide ((k : Int) < (k : Int)) = false := decide_eq_false (by omega)
      go_wp2
      go_ret
      have e := HZ.out
      subst e
      exact ⟨Ar, cr, by rw [hzl]; rfl, rr, by omega, hb⟩
set_option linter.unusedVariables false in
/-- The refs that CoordinatorRefs answers. -/
def RefsC (q : Crd) (s m : Int) (zs : List Int) : Prop := (∃ k : Nat, m = (k : Int) ∧ CV q ∧ (0 ≤ s ∧ s ≤ 2) ∧ k ≤ q.os.length ∧ zs = refsC q s k) ∨ (¬ (CV q ∧ (0 ≤ s ∧ s ≤ 2) ∧ (0 ≤ m ∧ m ≤ (q.os.length : Int))) ∧ zs = [])
set_option linter.unusedVariables false in
set_option linter.unusedSimpArgs false in
theorem refsC_ex (q : Crd) (s m : Int) : ∃ zs, RefsC q s m zs := by
  by_cases h : CV q ∧ (0 ≤ s ∧ s ≤ 2) ∧ (0 ≤ m ∧ m ≤ (q.os.length : Int))
  · obtain ⟨h1, h2, h3, h4⟩ := h
    obtain ⟨k, rfl⟩ := Int.eq_ofNat_of_zero_le h3
    exact ⟨_, .inl ⟨k, rfl, h1, h2, by omega, rfl⟩⟩
  · exact ⟨_, .inr ⟨h, rfl⟩⟩
set_option linter.unusedVariables false in
set_option linter.unusedSimpArgs false in
theorem RefsC.no_ {q : Crd} {s m : Int} {zs : List Int} (h : RefsC q s m zs) (hn : ¬ (CV q ∧ (0 ≤ s ∧ s ≤ 2) ∧ (0 ≤ m ∧ m ≤ (q.os.length : Int)))) : zs = [] := by
  rcases h with ⟨k, rfl, h1, h2, h3, -⟩ | ⟨-, h⟩
  · exact absurd ⟨h1, h2, by omega, by omega⟩ hn
  · exact h
/- Nothing is answered. -/
set_option linter.unusedSimpArgs false in
set_option linter.unusedVariables false in
set_option maxRecDepth 100000 in
set_option maxHeartbeats 16000000 in
theorem specCoordinatorRefs_is (zs : List Int) (v : Value) (q : Crd) (s m : Int) (w : World) (h : Crdd w w.heap.size v q) (hf : FitC q) (hz : RefsC q s m zs) :
    Calls Try.prog 13 #[v, .int .i64 s, .int .i64 m] w (ReadI zs w) := by
  obtain ⟨bv, hbv⟩ := bool_ofP' (CV q)
  obtain ⟨bs, hbs⟩ := bool_of (0 ≤ s ∧ s ≤ 2)
  obtain ⟨bm, hbm⟩ := bool_of (0 ≤ m ∧ m ≤ (q.os.length : Int))
  have HZ := hid hz
  have HBV := hid hbv
  have HBS := hid hbs
  have HBM := hid hbm
  have CVal : Hid (∀ y, Below w.heap.size w y → Calls Try.prog 19 #[v] y (Ret (.bool bv) y)) := fun y hy => specCoordinatorValid_is bv v q y (h.on hy hy.size) hf hbv
  have C1 : Hid (∀ y, Calls Try.prog 40 #[.int .i64 s, .int .i64 0, .int .i64 2] y (Same (.bool bs) y)) := fun y => l6In_is bs _ _ _ y hbs
  have C2 : Hid (∀ y, Calls Try.prog 40 #[.int .i64 m, .int .i64 0, .int .i64 (q.os.length : Int)] y (Same (.bool bm) y)) := fun y => l6In_is bm _ _ _ y hbm
  have CR : Hid (∀ y (k : Nat), Below w.heap.size w y → CV q → k ≤ q.os.length → Calls Try.prog 41 #[v, .int .i64 s, .int .i64 k] y (ReadI (refsC q s k) y)) := fun y k hy hv hk => l22Refs_any v q s k y (h.on hy hy.size) hf hv hk
  have hf1 := hf.ts
  clear hz hbv hbs hbm
  obtain ⟨A, c, A2, c2, rfl, -, hc, -, hc2⟩ := h
  clear hf
  unfold crV at *
  have b1 := (Below.refl w.heap.size w).alloc (Nat.le_refl _) (.cells #[.slice A q.ts.length c, .slice A2 q.os.length c2] 26)
  have x0 := Blk2s.new_ w 26 (.slice A q.ts.length c) (.slice A2 q.os.length c2)
  go_enter Try.func13, Try.ntmps13
  go_upto_region 1 with fail
  obtain ⟨w1, hw1⟩ : ∃ x, w.alloc (.cells #[.slice A q.ts.length c, .slice A2 q.os.length c2] 26) = x := ⟨_, rfl⟩
  rw [hw1] at b1 x0 ⊢
  clear hw1
  obtain ⟨y0, y1, -⟩ := id x0.reads
  go_wp2_with fail
  refine (CVal.out _ b1).mono ?_
  rintro e w2 ⟨rfl, d⟩
  replace b1 := b1.trans (d.mono b1.size)
  replace x0 := x0.later d
  clear y0 y1 d CVal
  obtain ⟨y0, y1, -⟩ := id x0.reads
  cases bv with
  | false =>
    have HNo : Hid (¬ (CV q ∧ (0 ≤ s ∧ s ≤ 2) ∧ (0 ≤ m ∧ m ≤ (q.os.length : Int)))) := fun e => by have := HBV.out.2 e.1; cases this
    clear C1 C2 CR HBV HBS HBM
    have ez : zs = [] := HZ.out.no_ HNo.out
    subst ez
    have al := (Below.refl w2.heap.size w2).alloc (Nat.le_refl _) (.cells #[] 3)
    have b9 := b1.trans (al.mono b1.size)
    go_wp2
    go_ret
    exact ⟨_, 0, rfl, .inl rfl, Nat.le_refl _, b9⟩
  | true =>
    have HVq := hid (HBV.out.1 rfl)
    go_wp2_with fail
    refine (C1.out _).mono ?_
    rintro e w3 ⟨rfl, rfl⟩
    cases bs with
    | false =>
      have HNo : Hid (¬ (CV q ∧ (0 ≤ s ∧ s ≤ 2) ∧ (0 ≤ m ∧ m ≤ (q.os.length : Int)))) := fun e => by have := HBS.out.2 e.2.1; cases this
      clear C1 C2 CR HBV HBS HBM
      have ez : zs = [] := HZ.out.no_ HNo.out
      subst ez
      have al := (Below.refl w2.heap.size w2).alloc (Nat.le_refl _) (.cells #[] 3)
      have b9 := b1.trans (al.mono b1.size)
      go_wp2
      go_ret
      exact ⟨_, 0, rfl, .inl rfl, Nat.le_refl _, b9⟩
    | true =>
      have HBs := hid (HBS.out.1 rfl)
      go_wp2_with fail
      refine (C2.out _).mono ?_
      rintro e w3 ⟨rfl, rfl⟩
      cases bm with
      | false =>
        have HNo : Hid (¬ (CV q ∧ (0 ≤ s ∧ s ≤ 2) ∧ (0 ≤ m ∧ m ≤ (q.os.length : Int)))) := fun e => by have := HBM.out.2 e.2.2; cases this
        clear C1 C2 CR HBV HBS HBM
        have ez : zs = [] := HZ.out.no_ HNo.out
        subst ez
        have al := (Below.refl w2.heap.size w2).alloc (Nat.le_refl _) (.cells #[] 3)
        have b9 := b1.trans (al.mono b1.size)
        go_wp2
        go_ret
        exact ⟨_, 0, rfl, .inl rfl, Nat.le_refl _, b9⟩
      | true =>
        have hm := HBM.out.1 rfl
        have hs := HBs.out
        obtain ⟨k, rfl⟩ := Int.eq_ofNat_of_zero_le hm.1
        have hk : k ≤ q.os.length := by omega
        have ez : zs = refsC q s k := by
          rcases HZ.out with ⟨k', e, -, -, -, e2⟩ | ⟨hn, -⟩
          · have e3 : k' = k := by omega
            rw [e2, e3]
          · exact absurd ⟨HVq.out, hs, hm⟩ hn
        subst ez
        have CRR := hid (CR.out w2 k b1 HVq.out hk)
        clear C1 C2 CR HBV HBS HBM hm hs HZ
        go_wp2_with fail
        refine CRR.out.mono ?_
        rintro e w3 ⟨A5, c5, rfl, r5, hc5, d⟩
        have b9 := b1.trans (d.mono b1.size)
        clear CRR
        go_wp2
        go_ret
        exact ⟨A5, c5, rfl, r5, hc5, b9⟩
end Go.Proofs.Ytjplondblkkpmaa
/- Laws on coordinators: a coordinator is boxed. -/
/- On to the world behind D. -/
/- An exact law begins: the argument's box, its size, a copy for the model. -/
/- The program's own copy of the argument is boxed. -/
/- The program's copy is as the argument; the region draws. -/
/- Laws on functions that answer numbers. -/
/- What the boxes hold is read again. -/
/- The coordinator with the slices P4 and P5 is boxed as P6, in block P7, behind it the world P3; ahead of region P1. -/
/- The draw, the program's answer, the model's, and that they are the same: behind it w5, all facts on it by way of dx. -/
/-
  Walks: a vote, by the model.
-/
namespace Go.Proofs.Ytjplondblkkpmaa
open Go.RowKit Wo Pu Rf Co

set_option linter.unusedVariables false in
set_option linter.unusedSimpArgs false in
theorem Co.Counted.bad_ {q x : Crd} {t s : Int} {y b : Bool} (h : Counted q t s y x b) (hn : ¬ CV q) : x = none_ ∧ b = false := by
  cases h with
  | bad _ => exact ⟨rfl, rfl⟩
  | no h1 _ => exact absurd h1 hn
  | yes _ _ _ h1 => exact absurd h1 hn
set_option linter.unusedVariables false in
set_option linter.unusedSimpArgs false in
theorem Co.Counted.no_ {q x : Crd} {t s : Int} {y b : Bool} (h : Counted q t s y x b) (h1 : CV q) (h2 : ∀ n k, ¬ Awaits q t s n k) : x = q ∧ b = false := by
  cases h with
  | bad hn => exact absurd h1 hn
  | no _ _ => exact ⟨rfl, rfl⟩
  | yes n k h3 _ => exact absurd h3 (h2 n k)
set_option linter.unusedVariables false in
set_option linter.unusedSimpArgs false in
theorem Co.Counted.yes_ {q x : Crd} {t s : Int} {y b : Bool} {n k : Nat} (h : Counted q t s y x b) (h1 : CV q) (a : Awaits q t s n k) : x = (if y then yesC q n k a.hi else noC q n k a.hi) ∧ b = true := by
  cases h with
  | bad h2 => exact absurd h1 h2
  | no _ h2 => exact absurd a (h2 n k)
  | yes n' k' a' _ =>
    obtain ⟨e1, e2⟩ := a'.one h1 a
    subst e1
    subst e2
    exact ⟨rfl, rfl⟩
set_option linter.unusedVariables false in
/-- The first j of the votes are for it. -/
def OneTo (vs : List Int) (j : Nat) : Prop := ∀ i (h : i < vs.length), i < j → vs[i] = 1
set_option linter.unusedVariables false in
set_option linter.unusedSimpArgs false in
theorem OneTo.zero (vs : List Int) : OneTo vs 0 := fun _ _ h => absurd h (Nat.not_lt_zero _)
set_option linter.unusedVariables false in
set_option linter.unusedSimpArgs false in
theorem OneTo.next {vs : List Int} {j : Nat} (h : OneTo vs j) (hj : j < vs.length) (hv : vs[j] = 1) : OneTo vs (j + 1) := fun i hi hl => by
  by_cases e : i = j
  · subst e; exact hv
  · exact h i hi (by omega)
set_option linter.unusedVariables false in
set_option linter.unusedSimpArgs false in
theorem OneTo.all {vs : List Int} (h : OneTo vs vs.length) : vs.all (· == 1) = true := List.all_eq_true.2 fun v hv => by
  obtain ⟨i, hi, rfl⟩ := List.getElem_of_mem hv
  rw [beq_iff_eq]
  exact h i hi hi
set_option linter.unusedVariables false in
set_option linter.unusedSimpArgs false in
theorem not_all {vs : List Int} {j : Nat} (hj : j < vs.length) (hv : ¬ vs[j] = 1) : vs.all (· == 1) = false := by
  rw [← Bool.not_eq_true]
  exact fun e => hv (by simpa using List.all_eq_true.1 e _ (List.getElem_mem hj))
/- The coordinator in its box is stored as the answer. -/
set_option linter.unusedVariables false in
set_option linter.unusedSimpArgs false in
/-- One transaction more in the order. -/
theorem cr_order_ {col : Nat → Nat} {W2 : World} {B h1 g gT N co m cb : Nat} {n : Int} {Ab : Option Addr} {q : Crd} (h : OwnCr col W2 B (.agg #[.slice (some ⟨gT, 0, none⟩) N co, .slice Ab m cb]) q) (x1 : Blk2s W2 h1 26 (.slice none 0 0) (.slice none 0 0)) (x6 : Blk2s W2 g 26 (.slice (some ⟨gT, 0, none⟩) N co) (.slice Ab m cb)) (hg1 : h1 ≠ g) (hg2 : B ≤ g) (z : B ≤ W2.heap.size) :
    ∀ v7 w7, w7.ownsRow B 3 1 v7 (q.os.length + 1) (ints q.os ++ [.int .i64 n]) → (W2.alloc (.cells #[.int .i64 n] 3)).grownBy w7 (Value.slice Ab m cb).ownBlock → (v7.ownBlock = (Value.slice Ab m cb).ownBlock ∨ v7.ownBlock = some (W2.alloc (.cells #[.int .i64 n] 3)).heap.size) →
      ∃ A7 c7 col7, v7 = .slice A7 (q.os.length + 1) c7 ∧ (∃ v, w7.cell? ⟨g, 1, none⟩ = some v) ∧ w7.frozen? ⟨g, 1, none⟩ = false ∧
        Blk2s (w7.setCell ⟨g, 1, none⟩ (.slice A7 (q.os.length + 1) c7)) h1 26 (.slice none 0 0) (.slice none 0 0) ∧ Blk2s (w7.setCell ⟨g, 1, none⟩ (.slice A7 (q.os.length + 1) c7)) g 26 (.slice (some ⟨gT, 0, none⟩) N co) (.slice A7 (q.os.length + 1) c7) ∧
        Below B W2 (w7.setCell ⟨g, 1, none⟩ (.slice A7 (q.os.length + 1) c7)) ∧ OwnCr col7 (w7.setCell ⟨g, 1, none⟩ (.slice A7 (q.os.length + 1) c7)) B (.agg #[.slice (some ⟨gT, 0, none⟩) N co, .slice A7 (q.os.length + 1) c7]) ⟨q.ts, q.os ++ [n]⟩ := by
  intro v7 w7 hown hg hat
  obtain ⟨e1, h2, h3⟩ := h.parts
  have al := (Below.refl W2.heap.size W2).alloc (Nat.le_refl _) (.cells #[.int .i64 n] 3)
  have h2' := World.ownsRow.alloc h2 (.cells #[.int .i64 n] 3)
  have k1 := (x1.later al).grown hg (blk_ne_row (x1.later al) h2' (by decide))
  have k6 := (x6.later al).grown hg (blk_ne_row (x6.later al) h2' (by decide))
  have b7 := ((Below.refl B W2).trans (al.mono z)).grown hg (Nat.le_trans z al.size) (fun j hj => (World.ownsRow.lt h2' j hj).1)
  have o7 : OwnI w7 B v7 (q.os ++ [n]) := OwnI.app hown
  obtain ⟨A7, c7, e, -, -⟩ := o7.form
  rw [List.length_append, List.length_singleton] at e
  subst e
  have hor : ∀ k, k < W2.heap.size → col k ≠ 0 → w7.heap[k]? = W2.heap[k]? := fun k hk hc => (hg.block k (Nat.lt_of_lt_of_le hk al.size) (fun e => hc (h3 k e.symm))).trans (al.block k hk)
  have t7 : OwnTxs (tint W2 col 0) w7 B (.slice (some ⟨gT, 0, none⟩) N co) q.ts := by
    obtain ⟨xs, r1, r2, r3⟩ := e1
    refine ⟨xs, row_same r1 fun j hj => hor j (World.ownsRow.lt r1 j hj).2 (by rw [r3 j hj]; decide), fun j hj => ?_, tint_old r1 r3⟩
    obtain ⟨a, b, s0, s1, s2, s3⟩ := r2 j hj
    exact ⟨a, b, s0, s1, s2, s3.map fun e sz n u ys he hr hc => ⟨row_same hr fun i hi => hor i (World.ownsRow.lt hr i hi).2 (by rw [hc i hi]; omega), tint_old hr hc⟩⟩
  have c0 : ColV (tint W2 col 0) 0 (.slice A7 (q.os.length + 1) c7) := fun k hk => by
    rw [hk] at hat
    rcases hat with e | e
    · exact tint_old h2 h3 k e.symm
    · injection e with e
      unfold tint
      rw [if_neg (by rw [e]; simp)]
  refine ⟨A7, c7, tint W2 col 0, rfl, ⟨_, k6.reads.2.1⟩, k6.reads.2.2 1, k1.far (by show h1 ≠ g; exact hg1) _, k6.set1 _, b7.setCell (by show B ≤ g; exact hg2) _, _, _, rfl, t7.keptT (by decide) (by decide) (by decide) (by decide) (but_set w7 g 1 _) (blk_type k6), row_far_type o7 (by decide) (but_set w7 g 1 _) (blk_type k6), c0⟩
set_option linter.unusedVariables false in
set_option linter.unusedSimpArgs false in
theorem cr_order {col : Nat → Nat} {w W2 : World} {g gT N co m cb : Nat} {n : Int} {Ab : Option Addr} {q : Crd} (h : OwnCr col W2 w.heap.size (.agg #[.slice (some ⟨gT, 0, none⟩) N co, .slice Ab m cb]) q) (x1 : Blk2s W2 (w.heap.size + 1) 26 (.slice none 0 0) (.slice none 0 0)) (x6 : Blk2s W2 g 26 (.slice (some ⟨gT, 0, none⟩) N co) (.slice Ab m cb)) (hg2 : w.heap.size + 1 < g) (b1 : Below w.heap.size w W2) :
    ∀ v7 w7, w7.ownsRow w.heap.size 3 1 v7 (q.os.length + 1) (ints q.os ++ [.int .i64 n]) → (W2.alloc (.cells #[.int .i64 n] 3)).grownBy w7 (Value.slice Ab m cb).ownBlock → (v7.ownBlock = (Value.slice Ab m cb).ownBlock ∨ v7.ownBlock = some (W2.alloc (.cells #[.int .i64 n] 3)).heap.size) →
      ∃ A7 c7 col7, v7 = .slice A7 (q.os.length + 1) c7 ∧ (∃ v, w7.cell? ⟨g, 1, none⟩ = some v) ∧ w7.frozen? ⟨g, 1, none⟩ = false ∧
        Blk2s (w7.setCell ⟨g, 1, none⟩ (.slice A7 (q.os.length + 1) c7)) (w.heap.size + 1) 26 (.slice none 0 0) (.slice none 0 0) ∧ Blk2s (w7.setCell ⟨g, 1, none⟩ (.slice A7 (q.os.length + 1) c7)) g 26 (.slice (some ⟨gT, 0, none⟩) N co) (.slice A7 (q.os.length + 1) c7) ∧
        Below w.heap.size w (w7.setCell ⟨g, 1, none⟩ (.slice A7 (q.os.length + 1) c7)) ∧ OwnCr col7 (w7.setCell ⟨g, 1, none⟩ (.slice A7 (q.os.length + 1) c7)) w.heap.size (.agg #[.slice (some ⟨gT, 0, none⟩) N co, .slice A7 (q.os.length + 1) c7]) ⟨q.ts, q.os ++ [n]⟩ := by
  intro v7 w7 hown hg hat
  obtain ⟨A7, c7, col7, e, q1, q2, q3, q4, q5, q6⟩ := cr_order_ h x1 x6 (by omega) (by omega) b1.size v7 w7 hown hg hat
  exact ⟨A7, c7, col7, e, q1, q2, q3, q4, b1.trans q5, q6⟩
/- A vote X is stored: W is the world behind it. -/
set_option linter.unusedSimpArgs false in
set_option linter.unusedVariables false in
set_option maxRecDepth 100000 in
set_option maxHeartbeats 16000000 in
theorem l22Vote_any (x : Crd) (v : Value) (q : Crd) (n k : Nat) (y : Bool) (w : World) (h : Crdd w w.heap.size v q) (hf : FitC q) (hn : n < q.ts.length) (hk : k < q.ts[n].vs.length) (hd : q.ts[n].d = 0) (hx : x = if y then yesC q n k hn else noC q n k hn) :
    Calls Try.prog 79 #[v, .int .i64 n, .int .i64 k, .bool y] w (NewCr x w) := by
  have HX := hid hx
  clear hx
  obtain ⟨i1, hj, hy0, hy1, hy2⟩ := info_of info_int
  have CCop : Hid (∀ y, Below w.heap.size w y → Calls Try.prog 76 #[v] y (NewCr q y)) := fun y hy => l22Copy_any v q y (h.on hy hy.size) hf
  have hf1 := hf.ts
  have hf2 := hf.os
  have hfv := (hf.ps _ (List.getElem_mem hn)).2
  obtain ⟨A, c, A2, c2, rfl, -, hc, -, hc2⟩ := h
  clear hf
  unfold crV at *
  have b1 := ((Below.refl w.heap.size w).alloc (Nat.le_refl _) (.cells #[.slice A q.ts.length c, .slice A2 q.os.length c2] 26)).alloc (by simp) (.cells #[.slice none 0 0, .slice none 0 0] 26)
  have x0 := (Blk2s.new_ w 26 (.slice A q.ts.length c) (.slice A2 q.os.length c2)).alloc (.cells #[.slice none 0 0, .slice none 0 0] 26)
  have x1 := Blk2s.new_ (w.alloc (.cells #[.slice A q.ts.length c, .slice A2 q.os.length c2] 26)) 26 (.slice none 0 0) (.slice none 0 0)
  rw [World.size_alloc] at x1
  go_enter Try.func79, Try.ntmps79
  go_upto_region 1 with fail
  obtain ⟨w1, hw1⟩ : ∃ w1, (w.alloc (.cells #[.slice A q.ts.length c, .slice A2 q.os.length c2] 26)).alloc (.cells #[.slice none 0 0, .slice none 0 0] 26) = w1 := ⟨_, rfl⟩
  rw [hw1] at b1 x0 x1 ⊢
  clear hw1
  obtain ⟨y0, y1, -⟩ := id x0.reads
  have zc := b1.size
  go_wp2_with fail
  refine (CCop.out _ b1).mono ?_
  rintro e w2 ⟨v2, col, rfl, o2, d⟩
  replace x0 := x0.later d
  replace x1 := x1.later d
  replace b1 := b1.trans (d.mono b1.size)
  clear y0 y1
  obtain ⟨y0, y1, -⟩ := id x0.reads
  obtain ⟨Ao, co, Ab, cb, rfl, -, -, -, -, -, -, -⟩ := o2.form
  unfold crV at o2 ⊢
  have HB2 : Hid (w.heap.size + 1 < w2.heap.size) := x1.lt
  replace o2 := o2.base (B' := w.heap.size) zc
  have d := (Below.refl w2.heap.size w2).alloc (Nat.le_refl _) (.cells #[.slice Ao q.ts.length co, .slice Ab q.os.length cb] 26)
  have x6 := Blk2s.new_ w2 26 (.slice Ao q.ts.length co) (.slice Ab q.os.length cb)
  replace o2 := o2.below d
  replace x0 := x0.later d
  replace x1 := x1.later d
  replace b1 := b1.trans (d.mono b1.size)
  clear y0 y1
  obtain ⟨y0, y1, -⟩ := id x0.reads
  go_upto_region 2 with fail
  obtain ⟨w3, hw3⟩ : ∃ x, w2.alloc (.cells #[.slice Ao q.ts.length co, .slice Ab q.os.length cb] 26) = x := ⟨_, rfl⟩
  obtain ⟨g, hg⟩ : ∃ x, w2.heap.size = x := ⟨_, rfl⟩
  rw [hw3] at x0 x1 b1 y0 y1 x6 o2 ⊢
  rw [hg] at x6 HB2 ⊢
  clear hw3 hg d CCop y0 y1
  cases y with
  | false =>
    obtain rfl : x = noC q n k hn := by rw [HX.out]; rfl
    obtain ⟨gT, rfl, hNN⟩ := cr_head o2 hn
    clear hNN
    obtain ⟨g2, c9, q0, q1, q2, q3, ⟨cs2, fr2, hty2⟩, HV⟩ := cr_vote o2 rfl hn hk
    have o3 := HV (-1)
    have n1 := ty_ne x1 hty2 (by decide)
    have n6 := ty_ne x6 hty2 (by decide)
    obtain ⟨u0, u1, -⟩ := id x6.reads
    have k0 : (0 : Int) ≤ (n : Int) := by omega
    have k1 : (n : Int) < (q.ts.length : Int) := by omega
    have k2 : (0 : Int) ≤ (k : Int) := by omega
    have k3 : (k : Int) < (q.ts[n].vs.length : Int) := by omega
    have x1' := x1.far (p := ⟨g2, k, none⟩) n1 (.int .i64 (-1))
    have x6' := x6.far (p := ⟨g2, k, none⟩) n6 (.int .i64 (-1))
    have b1' := b1.setCell (p := ⟨g2, k, none⟩) q3 (.int .i64 (-1))
    clear HV hty2 n1 n6
    go_upto_region 4 with fail
    clear x1 x6 b1 u0 u1 q0 q1 q2 q3 o2
    obtain ⟨W, hW⟩ : ∃ x, w3.setCell ⟨g2, k, none⟩ (.int .i64 (-1)) = x := ⟨_, rfl⟩
    rw [hW] at x1' x6' b1' o3 ⊢
    clear hW
    obtain ⟨u0, u1, -⟩ := id x6'.reads
    obtain ⟨q4, q5, q6, o4⟩ := cr_dec o3 (by simp) (n := n) (by simpa using hn) 3
    obtain ⟨cs, fr, hty⟩ := o3.head (by simp) (n := n) (by simpa using hn)
    have n1 := ty_ne x1' hty (by decide)
    have n6 := ty_ne x6' hty (by decide)
    have x1 := x1'.far (p := ⟨gT, n * 3 + 2, none⟩) n1 (.int .i64 3)
    have x6 := x6'.far (p := ⟨gT, n * 3 + 2, none⟩) n6 (.int .i64 3)
    have b1 := b1'.setCell (p := ⟨gT, n * 3 + 2, none⟩) q6 (.int .i64 3)
    have e9 : (⟨(q.ts.set n ⟨q.ts[n].ps, q.ts[n].vs.set k (-1), q.ts[n].d⟩).set n ⟨((q.ts.set n ⟨q.ts[n].ps, q.ts[n].vs.set k (-1), q.ts[n].d⟩)[n]'(by simpa using hn)).ps, ((q.ts.set n ⟨q.ts[n].ps, q.ts[n].vs.set k (-1), q.ts[n].d⟩)[n]'(by simpa using hn)).vs, 3⟩, q.os⟩ : Crd) = noC q n k hn := by
      unfold noC noTx
      simp
    have o9 := o4
    simp only at o9
    rw [e9] at o9
    clear o4 e9 o3 x1' x6' b1' hty n1 n6
    simp only at q4 q5
    go_upto_region 5 with fail
    clear u0 u1 q4 q5
    obtain ⟨W2, hW⟩ : ∃ x, W.setCell ⟨gT, n * 3 + 2, none⟩ (.int .i64 3) = x := ⟨_, rfl⟩
    rw [hW] at x1 x6 b1 o9 ⊢
    clear hW
    obtain ⟨u0, u1, -⟩ := id x6.reads
    obtain ⟨t0, t1, tf⟩ := id x1.reads
    have tf0 := tf 0
    have tf1 := tf 1
    clear tf
    have o10 := (o9.keptT (by decide) (by decide) (by decide) (by decide) (but_set _ (w.heap.size + 1) 0 (.slice (some ⟨gT, 0, none⟩) q.ts.length co)) (blk_type x1)).keptT (by decide) (by decide) (by decide) (by decide) (but_set _ (w.heap.size + 1) 1 (.slice Ab q.os.length cb)) (blk_type (x1.set0 _))
    have b9 := (b1.setCell (p := ⟨w.heap.size + 1, 0, none⟩) (Nat.le_succ _) (.slice (some ⟨gT, 0, none⟩) q.ts.length co)).setCell (p := ⟨w.heap.size + 1, 1, none⟩) (Nat.le_succ _) (.slice Ab q.os.length cb)
    obtain ⟨p0, p1, -⟩ := ((x1.set0 (.slice (some ⟨gT, 0, none⟩) q.ts.length co)).set1 (.slice Ab q.os.length cb)).reads
    clear x0 x1 o9 b1
    go_wp2
    exact bodyPost_ret (v := .agg #[.slice (some ⟨gT, 0, none⟩) q.ts.length co, .slice Ab q.os.length cb]) (by simp [results, Try.results79, go_sem, p0, p1]) rfl ⟨_, _, rfl, o10, b9⟩
  | true =>
    replace HX : Hid (x = yesC q n k hn) := HX.out.trans (if_pos rfl)
    obtain ⟨gT, rfl, hNN⟩ := cr_head o2 hn
    clear hNN
    obtain ⟨g2, c9, q0, q1, q2, q3, ⟨cs2, fr2, hty2⟩, HV⟩ := cr_vote o2 rfl hn hk
    have o3 := HV (1)
    have n1 := ty_ne x1 hty2 (by decide)
    have n6 := ty_ne x6 hty2 (by decide)
    obtain ⟨u0, u1, -⟩ := id x6.reads
    have k0 : (0 : Int) ≤ (n : Int) := by omega
    have k1 : (n : Int) < (q.ts.length : Int) := by omega
    have k2 : (0 : Int) ≤ (k : Int) := by omega
    have k3 : (k : Int) < (q.ts[n].vs.length : Int) := by omega
    have x1' := x1.far (p := ⟨g2, k, none⟩) n1 (.int .i64 (1))
    have x6' := x6.far (p := ⟨g2, k, none⟩) n6 (.int .i64 (1))
    have b1' := b1.setCell (p := ⟨g2, k, none⟩) q3 (.int .i64 (1))
    clear HV hty2 n1 n6
    go_upto_region 7 with fail
    clear x1 x6 b1 u0 u1 q0 q1 q2 q3 o2
    obtain ⟨W, hW⟩ : ∃ x, w3.setCell ⟨g2, k, none⟩ (.int .i64 (1)) = x := ⟨_, rfl⟩
    rw [hW] at x1' x6' b1' o3 ⊢
    clear hW
    obtain ⟨u0, u1, -⟩ := id x6'.reads
    obtain ⟨AV, cV, q0, q1⟩ := cr_votes o3 (by simp) (n := n) (by simpa using hn)
    have HX1 := hid x1'
    have HX6 := hid x6'
    have HB1 := hid b1'
    have HO3 := hid o3
    simp only [List.getElem_set_self, List.length_set] at q0 q1
    obtain ⟨vs, hvs⟩ : ∃ vs, q.ts[n].vs.set k 1 = vs := ⟨_, rfl⟩
    have hvl : vs.length = q.ts[n].vs.length := by rw [← hvs, List.length_set]
    rw [hvs] at q1
    rw [← hvl] at q0 hfv
    have HVS := hid hvs
    have HD := hid hd
    clear x1' x6' b1' o3 hvs hvl k2 k3 hk hd
    go_wp2_with fail
    go_loop [10] (fun i => ∃ j : Nat, j ≤ vs.length ∧ i = .int .i64 j ∧ Hid (OneTo vs j)) (fun i => vs.length - (intOf i).toNat)
    case atStart => exact ⟨0, Nat.zero_le _, rfl, .zero vs⟩
    case round =>
      obtain ⟨j, hj9, rfl, H⟩ := hrel
      by_cases hlt : j < vs.length
      · obtain ⟨ad, rfl, hbl, hc9⟩ := q1.int_ hlt
        have j0 : (0 : Int) ≤ (j : Int) := by omega
        have j1 : (j : Int) < (vs.length : Int) := by omega
        by_cases hv : vs[j] = 1
        · have e0 : (vs[j] != 1) = false := by rw [bne_eq_false_iff_eq]; exact hv
          have HN := hid (H.out.next hlt hv)
          clear H hv
          go_wp2
          go_round
          case rel => exact ⟨j + 1, by omega, by go_num, HN⟩
          case measure => simp [intOf]; omega
        · have e0 : (vs[j] != 1) = true := by rw [bne_iff_ne]; exact hv
          have hna := not_all hlt hv
          have hxx : x = ⟨q.ts.set n ⟨q.ts[n].ps, q.ts[n].vs.set k 1, q.ts[n].d⟩, q.os⟩ := by
            rw [HX.out]
            unfold yesC yesTx
            rw [HVS.out, if_neg (by rw [hna]; decide), if_neg (by rw [hna]; decide), HD.out]
          have o9 := HO3.out
          rw [← hxx] at o9
          have x1 := HX1.out
          have b1 := HB1.out
          clear H hv hna hxx HX1 HX6 HB1 HO3
          obtain ⟨t0, t1, tf⟩ := id x1.reads
          have tf0 := tf 0
          have tf1 := tf 1
          clear tf
          have o10 := (o9.keptT (by decide) (by decide) (by decide) (by decide) (but_set _ (w.heap.size + 1) 0 (.slice (some ⟨gT, 0, none⟩) q.ts.length co)) (blk_type x1)).keptT (by decide) (by decide) (by decide) (by decide) (but_set _ (w.heap.size + 1) 1 (.slice Ab q.os.length cb)) (blk_type (x1.set0 _))
          have b9 := (b1.setCell (p := ⟨w.heap.size + 1, 0, none⟩) (Nat.le_succ _) (.slice (some ⟨gT, 0, none⟩) q.ts.length co)).setCell (p := ⟨w.heap.size + 1, 1, none⟩) (Nat.le_succ _) (.slice Ab q.os.length cb)
          obtain ⟨p0, p1, -⟩ := ((x1.set0 (.slice (some ⟨gT, 0, none⟩) q.ts.length co)).set1 (.slice Ab q.os.length cb)).reads
          clear x0 x1 o9 b1
          go_wp2
          exact bodyPost_ret (v := .agg #[.slice (some ⟨gT, 0, none⟩) q.ts.length co, .slice Ab q.os.length cb]) (by simp [results, Try.results79, go_sem, p0, p1]) rfl ⟨_, _, rfl, o10, b9⟩
      · have hk' : j = vs.length := by omega
        subst hk'
        have hall := H.out.all
        have hxx : x = ⟨(q.ts.set n ⟨q.ts[n].ps, q.ts[n].vs.set k 1, q.ts[n].d⟩).set n ⟨q.ts[n].ps, q.ts[n].vs.set k 1, 2⟩, q.os ++ [(n : Int)]⟩ := by
          rw [HX.out]
          unfold yesC yesTx
          rw [HVS.out, if_pos hall, if_pos hall, List.set_set]
        obtain ⟨q4, q5, q6, o4⟩ := cr_dec HO3.out (by simp) (n := n) (by simpa using hn) 2
        obtain ⟨cs, fr, hty⟩ := HO3.out.head (by simp) (n := n) (by simpa using hn)
        have n1 := ty_ne HX1.out hty (by decide)
        have n6 := ty_ne HX6.out hty (by decide)
        have x1 := HX1.out.far (p := ⟨gT, n * 3 + 2, none⟩) n1 (.int .i64 2)
        have x6 := HX6.out.far (p := ⟨gT, n * 3 + 2, none⟩) n6 (.int .i64 2)
        have b1 := HB1.out.setCell (p := ⟨gT, n * 3 + 2, none⟩) q6 (.int .i64 2)
        simp only [List.getElem_set_self] at o4 q4
        clear H hall HX1 HX6 HB1 HO3 hty n1 n6 q1 HX HVS hlt hj9
        go_upto_region 13 with fail
        obtain ⟨W2, hW⟩ : ∃ x, W.setCell ⟨gT, n * 3 + 2, none⟩ (.int .i64 2) = x := ⟨_, rfl⟩
        rw [hW] at x1 x6 b1 o4 ⊢
        clear hW u0 u1 q4 q5 q6 q0
        obtain ⟨u0, u1, uf⟩ := id x6.reads
        obtain ⟨oT, oI, oC⟩ := o4.parts
        have rI := World.ownsRow.alloc oI (.cells #[.int .i64 n] 3)
        have zI := b1.size
        have HP : Hid (∀ v7 w7, w7.ownsRow w.heap.size 3 1 v7 (q.os.length + 1) (ints q.os ++ [.int .i64 n]) → (W2.alloc (.cells #[.int .i64 n] 3)).grownBy w7 (Value.slice Ab q.os.length cb).ownBlock → (v7.ownBlock = (Value.slice Ab q.os.length cb).ownBlock ∨ v7.ownBlock = some (W2.alloc (.cells #[.int .i64 n] 3)).heap.size) →
            ∃ A7 c7 col7, v7 = .slice A7 (q.os.length + 1) c7 ∧ (∃ v, w7.cell? ⟨g, 1, none⟩ = some v) ∧ w7.frozen? ⟨g, 1, none⟩ = false ∧
              Blk2s (w7.setCell ⟨g, 1, none⟩ (.slice A7 (q.os.length + 1) c7)) (w.heap.size + 1) 26 (.slice none 0 0) (.slice none 0 0) ∧ Blk2s (w7.setCell ⟨g, 1, none⟩ (.slice A7 (q.os.length + 1) c7)) g 26 (.slice (some ⟨gT, 0, none⟩) q.ts.length co) (.slice A7 (q.os.length + 1) c7) ∧
              Below w.heap.size w (w7.setCell ⟨g, 1, none⟩ (.slice A7 (q.os.length + 1) c7)) ∧ OwnCr col7 (w7.setCell ⟨g, 1, none⟩ (.slice A7 (q.os.length + 1) c7)) w.heap.size (.agg #[.slice (some ⟨gT, 0, none⟩) q.ts.length co, .slice A7 (q.os.length + 1) c7]) x) := by
          rw [hxx]
          exact cr_order o4 x1 x6 (by have := HB2.out; omega) b1
        clear hxx x1 b1 oT oI oC o4 x6
        have ui := uf 1
        clear uf
        go_upto_region 14 with (at_builtin; go_must (refine wpList_append_own_at _ rfl _ _ 24 rfl w.heap.size 3 i1 (.int .i64 0) 1 8 Try.underlying24 hj hy0 hy1 hy2 rfl (by decide) (.slice Ab q.os.length cb) q.os.length _ rfl rI ⟨W2.heap.size, 0, none⟩ 1 1 [.int .i64 n] rfl rfl (cell_one_new _ _ _) (one_int _) (by unfold maxLen; omega) (by omega) (by simp; omega) ?_); intro v7 w7 hown hg _ hat; obtain ⟨A7, c7, col7, rfl, ⟨v4, t4⟩, f4, x1, x6, b1, o9⟩ := HP.out _ _ hown hg hat)
        clear HP rI hown hg u0 u1 ui
        obtain ⟨W3, hW⟩ : ∃ x, w7.setCell ⟨g, 1, none⟩ (.slice A7 (q.os.length + 1) c7) = x := ⟨_, rfl⟩
        rw [hW] at x1 x6 b1 o9 ⊢
        clear hW t4 f4
        obtain ⟨u0, u1, -⟩ := id x6.reads
        obtain ⟨t0, t1, tf⟩ := id x1.reads
        have tf0 := tf 0
        have tf1 := tf 1
        clear tf
        have o10 := (o9.keptT (by decide) (by decide) (by decide) (by decide) (but_set _ (w.heap.size + 1) 0 (.slice (some ⟨gT, 0, none⟩) q.ts.length co)) (blk_type x1)).keptT (by decide) (by decide) (by decide) (by decide) (but_set _ (w.heap.size + 1) 1 (.slice A7 (q.os.length + 1) c7)) (blk_type (x1.set0 _))
        have b9 := (b1.setCell (p := ⟨w.heap.size + 1, 0, none⟩) (Nat.le_succ _) (.slice (some ⟨gT, 0, none⟩) q.ts.length co)).setCell (p := ⟨w.heap.size + 1, 1, none⟩) (Nat.le_succ _) (.slice A7 (q.os.length + 1) c7)
        obtain ⟨p0, p1, -⟩ := ((x1.set0 (.slice (some ⟨gT, 0, none⟩) q.ts.length co)).set1 (.slice A7 (q.os.length + 1) c7)).reads
        clear x0 x1 o9 b1
        go_wp2
        exact bodyPost_ret (v := .agg #[.slice (some ⟨gT, 0, none⟩) q.ts.length co, .slice A7 (q.os.length + 1) c7]) (by simp [results, Try.results79, go_sem, p0, p1]) rfl ⟨_, _, rfl, o10, b9⟩
/- The end of a refusal: a copy is answered. -/
set_option linter.unusedSimpArgs false in
set_option linter.unusedVariables false in
set_option maxRecDepth 100000 in
set_option maxHeartbeats 16000000 in
theorem specCoordinatorVote_is (x : Crd) (b : Bool) (v : Value) (q : Crd) (t s : Int) (y : Bool) (w : World) (h : Crdd w w.heap.size v q) (hf : FitC q) (hx : Counted q t s y x b) :
    Calls Try.prog 59 #[v, .int .i64 t, .int .i64 s, .bool y] w (NewCrB x b w) := by
  obtain ⟨bv, hbv⟩ := bool_ofP' (CV q)
  obtain ⟨bi, hbi⟩ := bool_of (0 ≤ t ∧ t ≤ (q.ts.length : Int) - 1)
  have HX := hid hx
  have HBV := hid hbv
  have HBI := hid hbi
  have HF := hid hf
  have CVal : Hid (∀ y, Below w.heap.size w y → Calls Try.prog 19 #[v] y (Ret (.bool bv) y)) := fun y hy => specCoordinatorValid_is bv v q y (h.on hy hy.size) hf hbv
  have CCop : Hid (∀ y, Below w.heap.size w y → Calls Try.prog 76 #[v] y (NewCr q y)) := fun y hy => l22Copy_any v q y (h.on hy hy.size) hf
  have CI : Hid (∀ y, Calls Try.prog 40 #[.int .i64 t, .int .i64 0, .int .i64 ((q.ts.length : Int) - 1)] y (Ret (.bool bi) y)) := fun y => (l6In_is bi _ _ _ y hbi).mono fun _ _ h => h.ret
  have hf1 := hf.ts
  have qw : IntKind.i64.wrap ((q.ts.length : Int) - 1) = (q.ts.length : Int) - 1 := IntWalk.i64_in _ (by omega)
  have HV0 : Hid (∀ y, Below w.heap.size w y → Crdd y y.heap.size v q) := fun y hy => h.on hy hy.size
  clear hx hbv hbi
  obtain ⟨A, c, A2, c2, rfl, hT, hc, -, hc2⟩ := h
  clear hf
  unfold crV at *
  have b1 := ((Below.refl w.heap.size w).alloc (Nat.le_refl _) (.cells #[.slice A q.ts.length c, .slice A2 q.os.length c2] 26)).alloc (by simp) (.cells #[.slice none 0 0, .slice none 0 0] 26)
  have x0 := (Blk2s.new_ w 26 (.slice A q.ts.length c) (.slice A2 q.os.length c2)).alloc (.cells #[.slice none 0 0, .slice none 0 0] 26)
  have x1 := Blk2s.new_ (w.alloc (.cells #[.slice A q.ts.length c, .slice A2 q.os.length c2] 26)) 26 (.slice none 0 0) (.slice none 0 0)
  rw [World.size_alloc] at x1
  go_enter Try.func59, Try.ntmps59
  go_upto_region 1 with fail
  obtain ⟨w1, hw1⟩ : ∃ w1, (w.alloc (.cells #[.slice A q.ts.length c, .slice A2 q.os.length c2] 26)).alloc (.cells #[.slice none 0 0, .slice none 0 0] 26) = w1 := ⟨_, rfl⟩
  rw [hw1] at b1 x0 x1 ⊢
  clear hw1
  obtain ⟨y0, y1, -⟩ := id x0.reads
  go_wp2_with fail
  refine (CVal.out _ b1).mono ?_
  rintro e w2 ⟨rfl, d⟩
  replace x0 := x0.later d
  replace x1 := x1.later d
  replace b1 := b1.trans (d.mono b1.size)
  clear y0 y1
  obtain ⟨y0, y1, -⟩ := id x0.reads
  clear d
  cases bv with
  | false =>
    obtain ⟨rfl, rfl⟩ := HX.out.bad_ fun e => by have := HBV.out.2 e; cases this
    clear HX CVal CCop CI
    obtain ⟨t0, t1, tf⟩ := id x1.reads
    have tf0 := tf 0
    have tf1 := tf 1
    clear tf
    obtain ⟨p0, p1, -⟩ := ((x1.set0 (.slice none 0 0)).set1 (.slice none 0 0)).reads
    have b7 := (b1.setCell (p := ⟨w.heap.size + 1, 0, none⟩) (Nat.le_succ _) (.slice none 0 0)).setCell (p := ⟨w.heap.size + 1, 1, none⟩) (Nat.le_succ _) (.slice none 0 0)
    go_wp2
    exact bodyPost_ret (v := .tuple #[.agg #[.slice none 0 0, .slice none 0 0], .bool false]) (by simp [results, Try.results59, go_sem, p0, p1]) rfl ⟨_, _, rfl, OwnCr.none_ _ _, b7⟩
  | true =>
    have HVq := hid (HBV.out.1 rfl)
    clear CVal
    go_wp2_with fail
    refine (CI.out _).mono ?_
    rintro e w2 ⟨rfl, d⟩
    replace x0 := x0.later d
    replace x1 := x1.later d
    replace b1 := b1.trans (d.mono b1.size)
    clear y0 y1
    obtain ⟨y0, y1, -⟩ := id x0.reads
    clear d CI
    cases bi with
    | false =>
      have HNo : Hid (x = q ∧ b = false) := HX.out.no_ HVq.out fun n k a => by
        have h1 := a.hi
        have h2 := a.ht
        exact absurd (HBI.out.2 ⟨by omega, by omega⟩) (by decide)
      obtain ⟨rfl, rfl⟩ := HNo.out
      have zc := b1.size
      clear HX HVq HBV
      go_wp2_with fail
      refine (CCop.out _ b1).mono ?_
      rintro e w2 ⟨v2, col, rfl, o2, d⟩
      replace x0 := x0.later d
      replace x1 := x1.later d
      replace b1 := b1.trans (d.mono b1.size)
      clear y0 y1
      obtain ⟨y0, y1, -⟩ := id x0.reads
      obtain ⟨Ao, co, Ab, cb, rfl, -, -, -, -, -, -, -⟩ := o2.form
      unfold crV at o2 ⊢
      have o9 := o2.base (B' := w.heap.size) zc
      clear o2 d CCop zc
      obtain ⟨t0, t1, tf⟩ := id x1.reads
      have tf0 := tf 0
      have tf1 := tf 1
      clear tf
      have o10 := (o9.keptT (by decide) (by decide) (by decide) (by decide) (but_set _ (w.heap.size + 1) 0 (.slice Ao x.ts.length co)) (blk_type x1)).keptT (by decide) (by decide) (by decide) (by decide) (but_set _ (w.heap.size + 1) 1 (.slice Ab x.os.length cb)) (blk_type (x1.set0 _))
      have b9 := (b1.setCell (p := ⟨w.heap.size + 1, 0, none⟩) (Nat.le_succ _) (.slice Ao x.ts.length co)).setCell (p := ⟨w.heap.size + 1, 1, none⟩) (Nat.le_succ _) (.slice Ab x.os.length cb)
      obtain ⟨p0, p1, -⟩ := ((x1.set0 (.slice Ao x.ts.length co)).set1 (.slice Ab x.os.length cb)).reads
      clear x0 x1 o9 b1
      go_wp2
      exact bodyPost_ret (v := .tuple #[.agg #[.slice Ao x.ts.length co, .slice Ab x.os.length cb], .bool false]) (by simp [results, Try.results59, go_sem, p0, p1]) rfl ⟨_, _, rfl, o10, b9⟩
    | true =>
      have hti := HBI.out.1 rfl
      obtain ⟨n, rfl⟩ := Int.eq_ofNat_of_zero_le hti.1
      have hn : n < q.ts.length := by omega
      have k0 : (0 : Int) ≤ (n : Int) := by omega
      have k1 : (n : Int) < (q.ts.length : Int) := by omega
      clear hti HBI
      obtain ⟨t, ad, A', c', A9, c9, ho, rfl, had, g0, g1, g2, -, -, g5, g6⟩ := (hT.below b1 (Nat.le_refl _)).tx hn
      have htv := HVq.out.txs t (by rw [← ho]; exact List.getElem_mem hn)
      have hps := (HF.out.ps t (by rw [← ho]; exact List.getElem_mem hn)).1
      obtain ⟨z, hz⟩ := ix_ex t.ps s
      have CS := hid (l22Shard_is z A' c' t.ps s w2 w.heap.size g5 (by omega) hz)
      have HO := hid ho
      have HZ := hid hz
      clear hz g5 hps
      go_wp2_with fail
      refine CS.out.mono ?_
      rintro e w3 ⟨rfl, rfl⟩
      clear CS
      rcases HZ.out with ⟨k, hk, rfl, hks, -⟩ | ⟨rfl, hnk⟩
      · have hkv : k < t.vs.length := by rw [htv.len]; exact hk
        have k2 : (0 : Int) ≤ (k : Int) := by omega
        have k3 : (k : Int) < (t.vs.length : Int) := by omega
        have k4 : ¬ ((k : Int) < 0) := by omega
        have k5 : decide ((k : Int) < 0) = false := decide_eq_false k4
        obtain ⟨ad2, rfl, hbl, hcv⟩ := g6.int_ hkv
        by_cases hd : t.d = 0
        · have e0 : (t.d != 0) = false := by rw [bne_eq_false_iff_eq]; exact hd
          by_cases hv0 : t.vs[k] = 0
          · have e1 : (t.vs[k] != 0) = false := by rw [bne_eq_false_iff_eq]; exact hv0
            have haw : Awaits q (n : Int) s n k := by
              refine ⟨⟨hn, ?_, ?_, ?_⟩, rfl, ?_, ?_⟩
              · rw [ho]; exact hd
              · rw [ho]; exact hkv
              · simp only [ho]; exact hv0
              · rw [ho]; exact hk
              · simp only [ho]; exact hks
            obtain ⟨hxx, rfl⟩ := HX.out.yes_ HVq.out haw
            have CVo := hid fun w9 hw9 => l22Vote_any x (.agg #[.slice (some ad) q.ts.length c, .slice A2 q.os.length c2]) q n k y w9 (HV0.out w9 hw9) HF.out hn (by rw [ho]; exact hkv) (by rw [ho]; exact hd) hxx
            clear HX HVq HBV hd hv0 hxx haw CCop ho htv HZ
            have zc := b1.size
            go_wp2_with fail
            refine (CVo.out _ b1).mono ?_
            rintro e w2 ⟨v2, col, rfl, o2, d⟩
            replace x0 := x0.later d
            replace x1 := x1.later d
            replace b1 := b1.trans (d.mono b1.size)
            clear y0 y1
            obtain ⟨y0, y1, -⟩ := id x0.reads
            obtain ⟨Ao, co, Ab, cb, rfl, -, -, -, -, -, -, -⟩ := o2.form
            unfold crV at o2 ⊢
            have o9 := o2.base (B' := w.heap.size) zc
            clear o2 d CVo zc g0 g1 g2 hcv
            obtain ⟨t0, t1, tf⟩ := id x1.reads
            have tf0 := tf 0
            have tf1 := tf 1
            clear tf
            have o10 := (o9.keptT (by decide) (by decide) (by decide) (by decide) (but_set _ (w.heap.size + 1) 0 (.slice Ao x.ts.length co)) (blk_type x1)).keptT (by decide) (by decide) (by decide) (by decide) (but_set _ (w.heap.size + 1) 1 (.slice Ab x.os.length cb)) (blk_type (x1.set0 _))
            have b9 := (b1.setCell (p := ⟨w.heap.size + 1, 0, none⟩) (Nat.le_succ _) (.slice Ao x.ts.length co)).setCell (p := ⟨w.heap.size + 1, 1, none⟩) (Nat.le_succ _) (.slice Ab x.os.length cb)
            obtain ⟨p0, p1, -⟩ := ((x1.set0 (.slice Ao x.ts.length co)).set1 (.slice Ab x.os.length cb)).reads
            clear x0 x1 o9 b1
            go_wp2
            exact bodyPost_ret (v := .tuple #[.agg #[.slice Ao x.ts.length co, .slice Ab x.os.length cb], .bool true]) (by simp [results, Try.results59, go_sem, p0, p1]) rfl ⟨_, _, rfl, o10, b9⟩
          · have e1 : (t.vs[k] != 0) = true := by rw [bne_iff_ne]; exact hv0
            have HNo : Hid (x = q ∧ b = false) := HX.out.no_ HVq.out fun n' k' a => by
              have e := a.ht
              have e2 : n' = n := by omega
              subst e2
              have h1 := a.hs
              have h2 := a.v0
              have h3 := a.kp
              simp only [ho] at h1 h2 h3
              have e3 : k' = k := parts_one htv.parts h3 hk (h1.trans hks.symm)
              subst e3
              exact hv0 h2
            clear hv0 hd ho htv HZ
            obtain ⟨rfl, rfl⟩ := HNo.out
            have zc := b1.size
            clear HX HVq HBV
            go_wp2_with fail
            refine (CCop.out _ b1).mono ?_
            rintro e w2 ⟨v2, col, rfl, o2, d⟩
            replace x0 := x0.later d
            replace x1 := x1.later d
            replace b1 := b1.trans (d.mono b1.size)
            clear y0 y1
            obtain ⟨y0, y1, -⟩ := id x0.reads
            obtain ⟨Ao, co, Ab, cb, rfl, -, -, -, -, -, -, -⟩ := o2.form
            unfold crV at o2 ⊢
            have o9 := o2.base (B' := w.heap.size) zc
            clear o2 d CCop zc
            obtain ⟨t0, t1, tf⟩ := id x1.reads
            have tf0 := tf 0
            have tf1 := tf 1
            clear tf
            have o10 := (o9.keptT (by decide) (by decide) (by decide) (by decide) (but_set _ (w.heap.size + 1) 0 (.slice Ao x.ts.length co)) (blk_type x1)).keptT (by decide) (by decide) (by decide) (by decide) (but_set _ (w.heap.size + 1) 1 (.slice Ab x.os.length cb)) (blk_type (x1.set0 _))
            have b9 := (b1.setCell (p := ⟨w.heap.size + 1, 0, none⟩) (Nat.le_succ _) (.slice Ao x.ts.length co)).setCell (p := ⟨w.heap.size + 1, 1, none⟩) (Nat.le_succ _) (.slice Ab x.os.length cb)
            obtain ⟨p0, p1, -⟩ := ((x1.set0 (.slice Ao x.ts.length co)).set1 (.slice Ab x.os.length cb)).reads
            clear x0 x1 o9 b1
            go_wp2
            exact bodyPost_ret (v := .tuple #[.agg #[.slice Ao x.ts.length co, .slice Ab x.os.length cb], .bool false]) (by simp [results, Try.results59, go_sem, p0, p1]) rfl ⟨_, _, rfl, o10, b9⟩
        · have e0 : (t.d != 0) = true := by rw [bne_iff_ne]; exact hd
          have HNo : Hid (x = q ∧ b = false) := HX.out.no_ HVq.out fun n' k' a => by
            have e := a.ht
            have e2 : n' = n := by omega
            subst e2
            have h1 := a.d0
            rw [ho] at h1
            exact hd h1
          clear hd ho htv HZ
          obtain ⟨rfl, rfl⟩ := HNo.out
          have zc := b1.size
          clear HX HVq HBV
          go_wp2_with fail
          refine (CCop.out _ b1).mono ?_
          rintro e w2 ⟨v2, col, rfl, o2, d⟩
          replace x0 := x0.later d
          replace x1 := x1.later d
          replace b1 := b1.trans (d.mono b1.size)
          clear y0 y1
          obtain ⟨y0, y1, -⟩ := id x0.reads
          obtain ⟨Ao, co, Ab, cb, rfl, -, -, -, -, -, -, -⟩ := o2.form
          unfold crV at o2 ⊢
          have o9 := o2.base (B' := w.heap.size) zc
          clear o2 d CCop zc
          obtain ⟨t0, t1, tf⟩ := id x1.reads
          have tf0 := tf 0
          have tf1 := tf 1
          clear tf
          have o10 := (o9.keptT (by decide) (by decide) (by decide) (by decide) (but_set _ (w.heap.size + 1) 0 (.slice Ao x.ts.length co)) (blk_type x1)).keptT (by decide) (by decide) (by decide) (by decide) (but_set _ (w.heap.size + 1) 1 (.slice Ab x.os.length cb)) (blk_type (x1.set0 _))
          have b9 := (b1.setCell (p := ⟨w.heap.size + 1, 0, none⟩) (Nat.le_succ _) (.slice Ao x.ts.length co)).setCell (p := ⟨w.heap.size + 1, 1, none⟩) (Nat.le_succ _) (.slice Ab x.os.length cb)
          obtain ⟨p0, p1, -⟩ := ((x1.set0 (.slice Ao x.ts.length co)).set1 (.slice Ab x.os.length cb)).reads
          clear x0 x1 o9 b1
          go_wp2
          exact bodyPost_ret (v := .tuple #[.agg #[.slice Ao x.ts.length co, .slice Ab x.os.length cb], .bool false]) (by simp [results, Try.results59, go_sem, p0, p1]) rfl ⟨_, _, rfl, o10, b9⟩
      · have HNo : Hid (x = q ∧ b = false) := HX.out.no_ HVq.out fun n' k' a => by
          have e := a.ht
          have e2 : n' = n := by omega
          subst e2
          have h1 := a.hs
          have h3 := a.kp
          simp only [ho] at h1 h3
          exact hnk k' h3 h1
        clear hnk ho htv HZ
        obtain ⟨rfl, rfl⟩ := HNo.out
        have zc := b1.size
        clear HX HVq HBV
        go_wp2_with fail
        refine (CCop.out _ b1).mono ?_
        rintro e w2 ⟨v2, col, rfl, o2, d⟩
        replace x0 := x0.later d
        replace x1 := x1.later d
        replace b1 := b1.trans (d.mono b1.size)
        clear y0 y1
        obtain ⟨y0, y1, -⟩ := id x0.reads
        obtain ⟨Ao, co, Ab, cb, rfl, -, -, -, -, -, -, -⟩ := o2.form
        unfold crV at o2 ⊢
        have o9 := o2.base (B' := w.heap.size) zc
        clear o2 d CCop zc
        obtain ⟨t0, t1, tf⟩ := id x1.reads
        have tf0 := tf 0
        have tf1 := tf 1
        clear tf
        have o10 := (o9.keptT (by decide) (by decide) (by decide) (by decide) (but_set _ (w.heap.size + 1) 0 (.slice Ao x.ts.length co)) (blk_type x1)).keptT (by decide) (by decide) (by decide) (by decide) (but_set _ (w.heap.size + 1) 1 (.slice Ab x.os.length cb)) (blk_type (x1.set0 _))
        have b9 := (b1.setCell (p := ⟨w.heap.size + 1, 0, none⟩) (Nat.le_succ _) (.slice Ao x.ts.length co)).setCell (p := ⟨w.heap.size + 1, 1, none⟩) (Nat.le_succ _) (.slice Ab x.os.length cb)
        obtain ⟨p0, p1, -⟩ := ((x1.set0 (.slice Ao x.ts.length co)).set1 (.slice Ab x.os.length cb)).reads
        clear x0 x1 o9 b1
        go_wp2
        exact bodyPost_ret (v := .tuple #[.agg #[.slice Ao x.ts.length co, .slice Ab x.os.length cb], .bool false]) (by simp [results, Try.results59, go_sem, p0, p1]) rfl ⟨_, _, rfl, o10, b9⟩
end Go.Proofs.Ytjplondblkkpmaa
namespace Go.Proofs.Ytjplondblkkpmaa
open Go.RowKit Wo Pu Rf Co

theorem RefsC.alt {q : Crd} {s m : Int} {zs : List Int} (h : RefsC q s m zs) : zs = [] ∨ ∃ k : Nat, m = (k : Int) ∧ CV q ∧ (0 ≤ s ∧ s ≤ 2) ∧ k ≤ q.os.length ∧ zs = refsC q s k := by
  rcases h with h | ⟨-, h⟩
  · exact .inr h
  · exact .inl h
/-- The refs behind the first i parts. -/
def yTo (ps : List Part) (s : Int) (zs : List Int) (i : Nat) : List Int := (ps.take i).foldl (fun z p => if p.s = s then setR z p.us else z) zs
theorem yTo_zero (ps : List Part) (s : Int) (zs : List Int) : yTo ps s zs 0 = zs := rfl
theorem yTo_succ {ps : List Part} {s : Int} {zs : List Int} {i : Nat} (hi : i < ps.length) : yTo ps s zs (i + 1) = if ps[i].s = s then setR (yTo ps s zs i) ps[i].us else yTo ps s zs i := by
  unfold yTo
  rw [List.take_succ_eq_append_getElem hi, List.foldl_append]
  rfl
theorem yTo_len (ps : List Part) (s : Int) (zs : List Int) : ∀ i, i ≤ ps.length → (yTo ps s zs i).length = zs.length := by
  intro i
  induction i with
  | zero => intro _; rfl
  | succ i ih =>
    intro h
    rw [yTo_succ (by omega)]
    split
    · rw [setR_length]; exact ih (by omega)
    · exact ih (by omega)
end Go.Proofs.Ytjplondblkkpmaa
