/- The coordinator with the slices $SA and $SB is stored as the answer, with the word $BB. -/
/- Laws on coordinators: a coordinator is boxed. -/
/- On to the world behind D. -/
/- An exact law begins: the argument's box, its size, a copy for the model. -/
/- The program's own copy of the argument is boxed. -/
/- The program's copy is as the argument; the region draws. -/
/- Laws on functions that answer numbers. -/
/- What the boxes hold is read again. -/
/- The coordinator with the slices P4 and P5 is boxed as P6, in block P7, behind it the world P3; ahead of region P1. -/
/- The draw, the program's answer, the model's, and that they are the same: behind it w5, all facts on it by way of dx. -/
/-
  Walk: drawn coordinators.
-/
import Derived.Test.YtjplondblkkpmaaG5C
import Derived.Test.YtjplondblkkpmaaDrawC
namespace Go.Proofs.Ytjplondblkkpmaa
open Go.RowKit Wo Pu Rf Co

/-! ### Sizes. -/
set_option linter.unusedVariables false in
set_option linter.unusedSimpArgs false in
theorem asc_few : ∀ {zs : List Int} (lo hi : Int), zs.Pairwise (· < ·) → (∀ x ∈ zs, lo ≤ x ∧ x ≤ hi) → zs.length ≤ (hi + 1 - lo).toNat := by
  intro zs
  induction zs with
  | nil => intro lo hi _ _; exact Nat.zero_le _
  | cons a zs ih =>
    intro lo hi hp hr
    obtain ⟨h1, h2⟩ := List.pairwise_cons.1 hp
    have ha := hr a List.mem_cons_self
    have := ih (lo + 1) hi h2 (fun x hx => by have := h1 x hx; have := hr x (List.mem_cons_of_mem _ hx); omega)
    rw [List.length_cons]
    omega
set_option linter.unusedVariables false in
set_option linter.unusedSimpArgs false in
theorem asc_rs : ∀ {us : List Up} {k : Int}, Asc k us → (us.map Up.r).Pairwise (· < ·) := by
  intro us
  induction us with
  | nil => intro _ _; exact List.Pairwise.nil
  | cons u us ih =>
    intro k h
    refine List.pairwise_cons.2 ⟨fun x hx => ?_, ih h.2.2⟩
    obtain ⟨v, hv, rfl⟩ := List.mem_map.1 hx
    exact (h.2.2.mem v hv).1
set_option linter.unusedVariables false in
set_option linter.unusedSimpArgs false in
theorem uv_few {us : List Up} (h : UV us) : us.length ≤ 4 := by
  have := asc_few 0 3 (asc_rs h.2) (fun x hx => by obtain ⟨u, hu, rfl⟩ := List.mem_map.1 hx; exact (h.2.mem u hu).2.1)
  rw [List.length_map] at this
  exact this
set_option linter.unusedVariables false in
set_option linter.unusedSimpArgs false in
theorem pv_few {ps : List Part} (h : PartsV ps) : ps.length ≤ 3 ∧ SmP ps := by
  refine ⟨?_, fun p hp => uv_few (h.2.1 p hp).2.2⟩
  have := asc_few (zs := ps.map Part.s) 0 2 (List.pairwise_map.2 h.2.2) (fun x hx => by obtain ⟨p, hp, rfl⟩ := List.mem_map.1 hx; exact ⟨(h.2.1 p hp).1, (h.2.1 p hp).2.1⟩)
  rw [List.length_map] at this
  exact this
set_option linter.unusedVariables false in
/-- Few transactions, of few parts. -/
structure SmC (k : Crd) : Prop where
  ts : k.ts.length ≤ 12
  os : k.os.length ≤ 13
  ps : ∀ t ∈ k.ts, t.ps.length ≤ 3 ∧ t.vs.length ≤ 3
  us : ∀ t ∈ k.ts, SmP t.ps
set_option linter.unusedVariables false in
set_option linter.unusedSimpArgs false in
theorem SmC.fit {k : Crd} (h : SmC k) : FitC k :=
  ⟨by have := h.ts; omega, by have := h.os; omega, fun t ht => by have := h.ps t ht; omega, fun t ht p hp => by have := h.us t ht p hp; omega⟩
set_option linter.unusedVariables false in
set_option linter.unusedSimpArgs false in
theorem cv_few {k : Crd} (h : CV k) : SmC k ∧ k.os.length ≤ 12 := by
  have ho : k.os.length ≤ 12 := by rw [h.cnt]; exact Nat.le_trans List.countP_le_length h.many
  refine ⟨⟨h.many, by omega, fun t ht => ?_, fun t ht => (pv_few (h.txs t ht).parts).2⟩, ho⟩
  have := (pv_few (h.txs t ht).parts).1
  have := (h.txs t ht).len
  omega
set_option linter.unusedVariables false in
set_option linter.unusedSimpArgs false in
theorem SmC.set {k : Crd} (h : SmC k) {n : Nat} {t : Tx} (h1 : t.ps.length ≤ 3 ∧ t.vs.length ≤ 3) (h2 : SmP t.ps) : SmC ⟨k.ts.set n t, k.os⟩ := by
  refine ⟨by simpa using h.ts, h.os, fun x hx => ?_, fun x hx => ?_⟩
  · rcases List.mem_or_eq_of_mem_set hx with e | e
    · exact h.ps x e
    · rw [e]; exact h1
  · rcases List.mem_or_eq_of_mem_set hx with e | e
    · exact h.us x e
    · rw [e]; exact h2
set_option linter.unusedVariables false in
def CrDrawn (R : Nat) (q : Int) (w : World) (e : Ending) (w' : World) : Prop := ∃ v k col, e = .returned v ∧ OwnCr col w' w.heap.size v k ∧ SmC k ∧ Rd w' R (q + 12000) ∧ But R w w'
set_option linter.unusedVariables false in
set_option linter.unusedSimpArgs false in
theorem Blk2s.but_ {w w' : World} {R g : Nat} {T : TypeId} {v u : Value} (h : Blk2s w g T v u) (hb : But R w w') (hg : g ≠ R) : Blk2s w' g T v u := (hb.block g h.lt (fun e => hg (by injection e))).trans h
set_option linter.unusedVariables false in
/-- What the loop has laid: the result's box, the coordinator's at g. -/
def DrC (w : World) (R g : Nat) (q : Int) (a b : Value) (col : Nat → Nat) (k : Crd) (wr : World) : Prop :=
  Blk2s wr w.heap.size 26 (.slice none 0 0) (.slice none 0 0) ∧ Blk2s wr g 26 a b ∧ w.heap.size < g ∧ OwnCr col wr w.heap.size (.agg #[a, b]) k ∧ R < w.heap.size ∧ Rd wr R q ∧ But R w wr
section
variable {w wr w' : World} {R g : Nat} {q q' : Int} {a b : Value} {col : Nat → Nat} {k : Crd}
set_option linter.unusedVariables false in
set_option linter.unusedSimpArgs false in
theorem DrC.call (h : DrC w R g q a b col k wr) (hb : Below wr.heap.size wr w') : DrC w R g q a b col k w' := by
  obtain ⟨h1, h2, h3, h4, h5, h6, h7⟩ := h
  exact ⟨h1.later hb, h2.later hb, h3, h4.below hb, h5, h6.below hb h6.lt, h7.trans (.of_below hb)⟩
set_option linter.unusedVariables false in
set_option linter.unusedSimpArgs false in
theorem DrC.pick (h : DrC w R g q a b col k wr) (hR : Rd w' R q') (hT : But R wr w') : DrC w R g q' a b col k w' := by
  obtain ⟨h1, h2, h3, h4, h5, h6, h7⟩ := h
  exact ⟨h1.but_ hT (by omega), h2.but_ hT (by omega), h3, h4.but hT h5, h5, hR, h7.trans hT⟩
set_option linter.unusedVariables false in
set_option linter.unusedSimpArgs false in
theorem DrC.more (h : DrC w R g q a b col k wr) (hq : q ≤ q') : DrC w R g q' a b col k wr := by
  obtain ⟨h1, h2, h3, h4, h5, h6, h7⟩ := h
  exact ⟨h1, h2, h3, h4, h5, h6.more hq, h7⟩
set_option linter.unusedVariables false in
set_option linter.unusedSimpArgs false in
/-- Another box is stored into. -/
theorem DrC.stored {v0 v1 : Value} {g2 : Nat} (h : DrC w R g q a b col k wr) (hx : Blk2s wr g2 26 v0 v1) (hg : g < g2) (o : Nat) (u : Value) : DrC w R g q a b col k (wr.setCell ⟨g2, o, none⟩ u) := by
  obtain ⟨h1, h2, h3, h4, h5, h6, h7⟩ := h
  exact ⟨h1.far (by show w.heap.size ≠ g2; omega) u, h2.far (by show g ≠ g2; omega) u, h3, h4.keptT (by decide) (by decide) (by decide) (by decide) (but_set wr g2 o u) (blk_type hx), h5, h6.far (by omega) o u, h7.set_new (by omega) o u⟩
set_option linter.unusedVariables false in
set_option linter.unusedSimpArgs false in
/-- Its own box is stored into. -/
theorem DrC.next {a' b' : Value} {col' : Nat → Nat} {k' : Crd} (h : DrC w R g q a b col k wr) (o : OwnCr col' wr w.heap.size (.agg #[a', b']) k') : DrC w R g q a' b' col' k' ((wr.setCell ⟨g, 0, none⟩ a').setCell ⟨g, 1, none⟩ b') := by
  obtain ⟨h1, h2, h3, h4, h5, h6, h7⟩ := h
  exact ⟨(h1.far (p := ⟨g, 0, none⟩) (by show w.heap.size ≠ g; omega) a').far (p := ⟨g, 1, none⟩) (by show w.heap.size ≠ g; omega) b', (h2.set0 a').set1 b', h3, (o.keptT (by decide) (by decide) (by decide) (by decide) (but_set wr g 0 a') (blk_type h2)).keptT (by decide) (by decide) (by decide) (by decide) (but_set _ g 1 b') (blk_type (h2.set0 a')), h5,
    (h6.far (by omega) 0 a').far (by omega) 1 b', (h7.set_new (by omega) 0 a').set_new (by omega) 1 b'⟩
set_option linter.unusedVariables false in
set_option linter.unusedSimpArgs false in
theorem DrC.size (h : DrC w R g q a b col k wr) : w.heap.size ≤ wr.heap.size := h.2.2.2.2.2.2.size
end
/- What the next box holds, o9 with the slices SA and SB, becomes the coordinator. -/
/- In a region: the answer ($SA, $SB) is stored into the next box; W is the world. -/
/- The loop, N rounds of it, and what follows. -/
/- The body: the new box at gn, a copy of the coordinator's slices. -/
/- What a call has answered, in a region. -/
/- The coordinator K in the box, with the slices SA and SB, is the answer; W is the world. -/
set_option linter.unusedSimpArgs false in
set_option linter.unusedVariables false in
set_option maxRecDepth 100000 in
set_option maxHeartbeats 32000000 in
theorem l92Coordinator_any (R : Nat) (q : Int) (w : World) (hR : Rd w R q) (hq : q ≤ 500000000) :
    Calls Try.prog 33 #[.pointer (some ⟨R, 0, none⟩)] w (CrDrawn R q w) := by
  obtain ⟨i1, hj, hy0, hy1, hy2⟩ := info_of info_int
  have hRl := hR.lt
  have x0 := Blk2s.new_ w 26 (.slice none 0 0) (.slice none 0 0)
  have al := (Below.refl w.heap.size w).alloc (Nat.le_refl _) (.cells #[.slice none 0 0, .slice none 0 0] 26)
  go_enter Try.func33, Try.ntmps33
  go_upto_region 1 with fail
  obtain ⟨w1, hw1⟩ : ∃ x, w.alloc (.cells #[.slice none 0 0, .slice none 0 0] 26) = x := ⟨_, rfl⟩
  rw [hw1] at x0 al ⊢
  clear hw1
  have z1 := al.size
  have hz1 : w.heap.size < w1.heap.size := x0.lt
  have a2 := ((Below.refl w1.heap.size w1).alloc (Nat.le_refl _) (.cells #[] 33)).alloc (by simp) (.cells #[] 3)
  have a3 := a2.alloc (by simp; omega) (.cells #[.slice (some ⟨w1.heap.size, 0, none⟩) 0 0, .slice (some ⟨w1.heap.size + 1, 0, none⟩) 0 0] 26)
  have oT : ((w1.alloc (.cells #[] 33)).alloc (.cells #[] 3)).ownsRow w.heap.size 33 3 (.slice (some ⟨w1.heap.size, 0, none⟩) 0 0) 0 [] := World.ownsRow.alloc (nil_own z1 _ _) _
  have oI : ((w1.alloc (.cells #[] 33)).alloc (.cells #[] 3)).ownsRow w.heap.size 3 1 (.slice (some ⟨(w1.alloc (.cells #[] 33)).heap.size, 0, none⟩) 0 0) 0 [] := nil_own (by simp; omega) _ _
  rw [World.size_alloc] at oI
  have x3 := Blk2s.new_ ((w1.alloc (.cells #[] 33)).alloc (.cells #[] 3)) 26 (.slice (some ⟨w1.heap.size, 0, none⟩) 0 0) (.slice (some ⟨w1.heap.size + 1, 0, none⟩) 0 0)
  have S0 : DrC w R (w1.heap.size + 1 + 1) q (.slice (some ⟨w1.heap.size, 0, none⟩) 0 0) (.slice (some ⟨w1.heap.size + 1, 0, none⟩) 0 0) (fun j => if j = w1.heap.size then 1 else 0) none_ (((w1.alloc (.cells #[] 33)).alloc (.cells #[] 3)).alloc (.cells #[.slice (some ⟨w1.heap.size, 0, none⟩) 0 0, .slice (some ⟨w1.heap.size + 1, 0, none⟩) 0 0] 26)) := by
    refine ⟨x0.later a3, by simpa using x3, by omega, ⟨_, _, rfl, ⟨[], World.ownsRow.alloc oT _, (fun j hj => by simp [none_] at hj), fun j hj => ?_⟩, World.ownsRow.alloc oI _, fun j hj => ?_⟩, hRl, (hR.below al hRl).below a3 (by omega), (But.of_below al).trans (.of_below a3)⟩
    · have e : w1.heap.size = j := by simpa [Value.ownBlock] using hj
      simp [e]
    · have e : w1.heap.size + 1 = j := by simpa [Value.ownBlock] using hj
      show (if j = w1.heap.size then 1 else 0) = 0
      rw [if_neg (by omega)]
  clear x0 al a2 a3 oT oI x3
  go_upto_region 2 with fail
  obtain ⟨w2, hw2⟩ : ∃ x, ((w1.alloc (.cells #[] 33)).alloc (.cells #[] 3)).alloc (.cells #[.slice (some ⟨w1.heap.size, 0, none⟩) 0 0, .slice (some ⟨w1.heap.size + 1, 0, none⟩) 0 0] 26) = x := ⟨_, rfl⟩
  obtain ⟨g, hg⟩ : ∃ x, w1.heap.size + 1 + 1 = x := ⟨_, rfl⟩
  rw [hw2, hg] at S0
  rw [hw2]
  try rw [hg]
  clear hw2 hg
  go_wp2_with fail
  refine (pick_any R _ 24 w2 S0.2.2.2.2.2.1 (by omega) (by omega) (by omega)).mono ?_
  rintro e w3 ⟨n0, rfl, n00, n01, R3, T3⟩
  replace S0 := S0.pick R3 T3
  clear R3 T3
  go_wp2_with fail
  refine (pick_any R _ 10 w3 S0.2.2.2.2.2.1 (by omega) (by omega) (by omega)).mono ?_
  rintro e w4 ⟨d, rfl, d0, d1, R3, T3⟩
  replace S0 := S0.pick R3 T3
  clear R3 T3
  by_cases hd : d = 0
  · have e0 : (d == 0) = true := by rw [hd]; rfl
    clear hd
    go_wp2_with fail
    go_loopw [5] (fun i wr => ∃ (k : Nat) (c : Crd) (Aa Ab : Option Addr) (ca cb : Nat) (col : Nat → Nat), k ≤ 50 ∧ i = .int .i64 k ∧ Hid (CV c) ∧ DrC w R g (q + 2 + 210 * k) (.slice Aa c.ts.length ca) (.slice Ab c.os.length cb) col c wr) (fun i _ => 50 - (intOf i).toNat)
    case atStart => exact ⟨0, none_, _, _, _, _, _, Nat.zero_le _, rfl, none_valid, S0.more (by omega)⟩
    case round =>
      clear S0
      obtain ⟨k, c, Aa, Ab, ca, cb, col, hk, rfl, HV, S⟩ := hrel
      have hf := (cv_few HV.out).1
      have hcl := hf.ts
      have hol := (cv_few HV.out).2
      have HF := hid hf
      obtain ⟨y0, y1, -⟩ := id S.2.1.reads
      by_cases hlt : (k : Int) < 50
      · have hk50 : k < 50 := by omega
        have e1 : decide ((k : Int) < 50) = true := decide_eq_true hlt
        have al := (Below.refl wr.heap.size wr).alloc (Nat.le_refl _) (.cells #[.slice Aa c.ts.length ca, .slice Ab c.os.length cb] 26)
        have xn := Blk2s.new_ wr 26 (.slice Aa c.ts.length ca) (.slice Ab c.os.length cb)
        have hgn : g < wr.heap.size := S.2.1.lt
        replace S := S.call al
        have o9 := S.2.2.2.1
        clear hf
        go_upto_region 9 with fail
        clear e1
        obtain ⟨wn, hwn⟩ : ∃ x, wr.alloc (.cells #[.slice Aa c.ts.length ca, .slice Ab c.os.length cb] 26) = x := ⟨_, rfl⟩
        obtain ⟨gn, hgg⟩ : ∃ x, wr.heap.size = x := ⟨_, rfl⟩
        rw [hwn] at S xn o9 ⊢
        rw [hgg] at hgn xn ⊢
        clear hwn hgg al y0 y1
        obtain ⟨y0, y1, -⟩ := id S.2.1.reads
        by_cases hmx : (1 : Int) ≤ (c.ts.length : Int)
        · go_wp2_with fail
          refine (pick_any R _ (c.ts.length : Int) _ S.2.2.2.2.2.1 (by omega) (by omega) (by omega)).mono ?_
          rintro e w5 ⟨t, rfl, t0, t1, R5, T5⟩
          replace S := S.pick R5 T5
          replace xn := xn.but_ T5 (by have := S.2.2.2.2.1; have := S.2.2.1; omega)
          clear R5 T5 y0 y1
          obtain ⟨y0, y1, -⟩ := id S.2.1.reads
          clear hmx o9
          go_wp2_with fail
          refine (pick_any R _ 5 _ S.2.2.2.2.2.1 (by omega) (by omega) (by omega)).mono ?_
          rintro e w6 ⟨d5, rfl, d50, d51, R5, T5⟩
          replace S := S.pick R5 T5
          replace xn := xn.but_ T5 (by have := S.2.2.2.2.1; have := S.2.2.1; omega)
          clear R5 T5 y0 y1
          obtain ⟨y0, y1, -⟩ := id S.2.1.reads
          by_cases h0 : d5 = 0
          · have e5 : (d5 == 0) = true := by rw [h0]; rfl
            clear h0 d50 d51
            go_wp2_with fail
            refine wp_region_held_drew (S := fun x => x.cell? ⟨g, 0, none⟩ = some (.slice Aa c.ts.length ca) ∧ x.cell? ⟨g, 1, none⟩ = some (.slice Ab c.os.length cb)) (by kernel_rfl) ⟨(S.call (Below.refl _ _).drew).2.1.reads.1, (S.call (Below.refl _ _).drew).2.1.reads.2.1⟩ (fun hHeld => ?_)
            replace S := S.call (Below.refl _ _).drew
            replace xn := xn.later (Below.refl _ _).drew
            obtain ⟨W, hW⟩ : ∃ x, w6.drew = x := ⟨_, rfl⟩
            rw [hW] at S xn hHeld ⊢
            clear hW y0 y1 e5
            try simp only [Act.put, List.getElem_toArray, List.getElem_cons_succ, List.getElem_cons_zero, List.setIfInBounds_toArray, List.set_cons_zero, List.set_cons_succ]
            refine wpAnyH_take (i := 0) (oi := _) (v := ?_) rfl (by kernel_rfl) (by kernel_rfl) (by kernel_rfl) (fun _ _ _ h => h) (Or.inl ⟨by rfl, ?_⟩) hHeld ?_
            rotate_left
            · (intro w' hSw; (try dsimp only at hSw); go_simp <;> with_reducible rfl)
            try simp only [Act.put, List.getElem_toArray, List.getElem_cons_succ, List.getElem_cons_zero, List.setIfInBounds_toArray, List.set_cons_zero, List.set_cons_succ]
            refine wpAnyH_take (i := 1) (oi := _) (v := ?_) rfl (by kernel_rfl) (by kernel_rfl) (by kernel_rfl) (fun _ _ _ h => h) (Or.inl ⟨by rfl, ?_⟩) hHeld ?_
            rotate_left
            · (intro w' hSw; (try dsimp only at hSw); go_simp <;> with_reducible rfl)
            try simp only [Act.put, List.getElem_toArray, List.getElem_cons_succ, List.getElem_cons_zero, List.setIfInBounds_toArray, List.set_cons_zero, List.set_cons_succ]
            refine wpAnyH_ready (rs := [2]) (by kernel_rfl) (by simp) (AllReadyH.cons (o := _) rfl (fun K hK => ?_) AllReadyH.nil)
            try simp only [Act.put, List.getElem_toArray, List.getElem_cons_succ, List.getElem_cons_zero, List.setIfInBounds_toArray, List.set_cons_zero, List.set_cons_succ]
            go_simp
            go_at_call 57
            refine (l92Parts_any R _ W S.2.2.2.2.2.1 (by omega)).mono ?_
            rintro e W ⟨vp, ps, rfl, op, hpl, hsm, R6, T6⟩
            replace S := S.pick R6 T6
            replace xn := xn.but_ T6 (by have := S.2.2.2.2.1; have := S.2.2.1; omega)
            obtain ⟨Ap, cp, rfl, rp, -⟩ := op.form
            have HSM := hid hsm
            clear R6 T6 op hsm
            refine hK.out _ _ ⟨S.2.1.reads.1, S.2.1.reads.2.1⟩ (fun hHeld => ?_)
            clear hK K
            try simp only [Act.put, List.getElem_toArray, List.getElem_cons_succ, List.getElem_cons_zero, List.setIfInBounds_toArray, List.set_cons_zero, List.set_cons_succ]
            refine wpAnyH_ready (rs := [3]) (by kernel_rfl) (by simp) (AllReadyH.cons (o := _) rfl (fun K hK => ?_) AllReadyH.nil)
            try simp only [Act.put, List.getElem_toArray, List.getElem_cons_succ, List.getElem_cons_zero, List.setIfInBounds_toArray, List.set_cons_zero, List.set_cons_succ]
            go_simp
            go_at_call 56
            obtain ⟨x, b2, hx⟩ := begun_ex c ps
            refine (specCoordinatorBegin_is x b2 _ c Ap cp ps W S.2.2.2.1.crd HF.out.fit rp (by omega) (fun p hp => by have := HSM.out p hp; omega) hx).mono ?_
            rintro e W ⟨v9, col9, rfl, o9', d9⟩
            have hxv := hx.valid
            have zz := S.size
            replace S := S.call d9
            replace xn := xn.later d9
            have o9 := o9'.base zz
            obtain ⟨A9, c9, B9, e9, rfl, -⟩ := o9.form
            unfold crV at o9 ⊢
            clear hx zz d9 o9'
            refine hK.out _ _ ⟨S.2.1.reads.1, S.2.1.reads.2.1⟩ (fun hHeld => ?_)
            clear hK K
            try simp only [Act.put, List.getElem_toArray, List.getElem_cons_succ, List.getElem_cons_zero, List.setIfInBounds_toArray, List.set_cons_zero, List.set_cons_succ]
            refine wpAnyH_take (i := 4) (oi := _) (v := ?_) rfl (by kernel_rfl) (by kernel_rfl) (by kernel_rfl) (fun _ _ _ h => h) (Or.inl ⟨by rfl, ?_⟩) hHeld ?_
            rotate_left
            · (intro w' hSw; (try dsimp only at hSw); go_simp <;> with_reducible rfl)
            try simp only [Act.put, List.getElem_toArray, List.getElem_cons_succ, List.getElem_cons_zero, List.setIfInBounds_toArray, List.set_cons_zero, List.set_cons_succ]
            refine wpAnyH_take (i := 5) (oi := _) (v := ?_) rfl (by kernel_rfl) (by kernel_rfl) (by kernel_rfl) (fun _ _ _ h => h) (Or.inl ⟨by rfl, ?_⟩) hHeld ?_
            rotate_left
            · (intro w' hSw; (try dsimp only at hSw); go_simp <;> with_reducible rfl)
            try simp only [Act.put, List.getElem_toArray, List.getElem_cons_succ, List.getElem_cons_zero, List.setIfInBounds_toArray, List.set_cons_zero, List.set_cons_succ]
            refine wpAnyH_take (i := 6) (oi := _) (v := ?_) rfl (by kernel_rfl) (by kernel_rfl) (by kernel_rfl) (fun _ _ _ h => h) (Or.inl ⟨by rfl, ?_⟩) hHeld ?_
            rotate_left
            · (intro w' hSw; (try dsimp only at hSw); go_simp <;> with_reducible rfl)
            try simp only [Act.put, List.getElem_toArray, List.getElem_cons_succ, List.getElem_cons_zero, List.setIfInBounds_toArray, List.set_cons_zero, List.set_cons_succ]
            obtain ⟨z0, z1, zff⟩ := id xn.reads
            have zf0 := zff 0
            have zf1 := zff 1
            have S9 := (S.stored xn hgn 0 (.slice A9 x.ts.length c9)).stored (xn.set0 (.slice A9 x.ts.length c9)) hgn 1 (.slice B9 x.os.length e9)
            have o8 := (o9.keptT (by decide) (by decide) (by decide) (by decide) (but_set W gn 0 (.slice A9 x.ts.length c9)) (blk_type xn)).keptT (by decide) (by decide) (by decide) (by decide) (but_set _ gn 1 (.slice B9 x.os.length e9)) (blk_type (xn.set0 (.slice A9 x.ts.length c9)))
            have x8 := (xn.set0 (.slice A9 x.ts.length c9)).set1 (.slice B9 x.os.length e9)
            clear zff
            refine wpAnyH_ready (rs := [7]) (by kernel_rfl) (by simp) (AllReadyH.cons (o := _) rfl (fun K hK => ?_) AllReadyH.nil)
            try simp only [Act.put, List.getElem_toArray, List.getElem_cons_succ, List.getElem_cons_zero, List.setIfInBounds_toArray, List.set_cons_zero, List.set_cons_succ]
            go_simp
            refine hK.out _ _ ⟨S9.2.1.reads.1, S9.2.1.reads.2.1⟩ (fun hHeld => ?_)
            clear hK K
            try simp only [Act.put, List.getElem_toArray, List.getElem_cons_succ, List.getElem_cons_zero, List.setIfInBounds_toArray, List.set_cons_zero, List.set_cons_succ]
            refine wpAnyH_done (by kernel_rfl) ?_ _
            clear S xn o9 z0 z1 zf0 zf1 hHeld
            obtain ⟨W, hWW⟩ : ∃ wz, (W.setCell ⟨gn, 0, none⟩ (.slice A9 x.ts.length c9)).setCell ⟨gn, 1, none⟩ (.slice B9 x.os.length e9) = wz := ⟨_, rfl⟩
            rw [hWW] at S9 o8 x8 ⊢
            have S := S9
            have o9 := o8
            have xn := x8
            clear S9 o8 x8 hWW
            have HVn := hid hxv
            have CW := hid (specCoordinatorValid_is true (.agg #[.slice A9 x.ts.length c9, .slice B9 x.os.length e9]) x W o9.crd (cv_few hxv).1.fit ⟨fun _ => hxv, fun _ => rfl⟩)
            obtain ⟨u0, u1, -⟩ := id xn.reads
            clear hxv
            go_wp2_with fail
            refine CW.out.mono ?_
            rintro e wg ⟨rfl, dg⟩
            replace S := S.call dg
            replace xn := xn.later dg
            replace o9 := o9.below dg
            clear CW dg u0 u1
            obtain ⟨u0, u1, -⟩ := id xn.reads
            obtain ⟨y0, y1, yf⟩ := id S.2.1.reads
            have yf0 := yf 0
            have yf1 := yf 1
            have S9 := S.next o9
            clear yf xn o9 S
            go_wp2
            go_roundw
            case rel => exact ⟨k + 1, x, _, _, _, _, _, by omega, by go_num, HVn, S9.more (by push_cast; omega)⟩
            case measure => simp [intOf]; omega
          · have e5 : (d5 == 0) = false := by rw [beq_eq_false_iff_ne]; exact h0
            by_cases h1 : d5 = 1
            · have e6 : (d5 == 1) = true := by rw [h1]; rfl
              clear h0 h1 d50 d51
              go_wp2_with fail
              refine (pick_any R _ 3 _ S.2.2.2.2.2.1 (by omega) (by omega) (by omega)).mono ?_
              rintro e w7 ⟨d6, rfl, d60, d61, R5, T5⟩
              replace S := S.pick R5 T5
              replace xn := xn.but_ T5 (by have := S.2.2.2.2.1; have := S.2.2.1; omega)
              clear R5 T5 y0 y1
              obtain ⟨y0, y1, -⟩ := id S.2.1.reads
              by_cases h3 : d6 = 0
              · have e7 : (d6 == 0) = true := by rw [h3]; rfl
                clear h3 d60 d61
                obtain ⟨x, b2, hx⟩ := late_ex c t
                have CT := hid (specCoordinatorTimeout_is x b2 _ c t w7 S.2.2.2.1.crd HF.out.fit hx)
                go_wp2_with fail
                refine CT.out.mono ?_
                rintro e W ⟨v9, col9, rfl, o9', d9⟩
                have hxv := hx.valid
                have zz := S.size
                replace S := S.call d9
                replace xn := xn.later d9
                have o9 := o9'.base zz
                obtain ⟨A9, c9, B9, e9, rfl, -⟩ := o9.form
                unfold crV at o9 ⊢
                clear CT hx zz d9 o9' y0 y1 e5 e6 e7
                obtain ⟨z0, z1, zff⟩ := id xn.reads
                have zf0 := zff 0
                have zf1 := zff 1
                have S9 := (S.stored xn hgn 0 (.slice A9 x.ts.length c9)).stored (xn.set0 (.slice A9 x.ts.length c9)) hgn 1 (.slice B9 x.os.length e9)
                have o8 := (o9.keptT (by decide) (by decide) (by decide) (by decide) (but_set W gn 0 (.slice A9 x.ts.length c9)) (blk_type xn)).keptT (by decide) (by decide) (by decide) (by decide) (but_set _ gn 1 (.slice B9 x.os.length e9)) (blk_type (xn.set0 (.slice A9 x.ts.length c9)))
                have x8 := (xn.set0 (.slice A9 x.ts.length c9)).set1 (.slice B9 x.os.length e9)
                clear zff
                go_upto_region 17 with fail
                clear S xn o9 z0 z1 zf0 zf1
                obtain ⟨W, hWW⟩ : ∃ wz, (W.setCell ⟨gn, 0, none⟩ (.slice A9 x.ts.length c9)).setCell ⟨gn, 1, none⟩ (.slice B9 x.os.length e9) = wz := ⟨_, rfl⟩
                rw [hWW] at S9 o8 x8 ⊢
                have S := S9
                have o9 := o8
                have xn := x8
                clear S9 o8 x8 hWW
                have HVn := hid hxv
                have CW := hid (specCoordinatorValid_is true (.agg #[.slice A9 x.ts.length c9, .slice B9 x.os.length e9]) x W o9.crd (cv_few hxv).1.fit ⟨fun _ => hxv, fun _ => rfl⟩)
                obtain ⟨u0, u1, -⟩ := id xn.reads
                clear hxv
                go_wp2_with fail
                refine CW.out.mono ?_
                rintro e wg ⟨rfl, dg⟩
                replace S := S.call dg
                replace xn := xn.later dg
                replace o9 := o9.below dg
                clear CW dg u0 u1
                obtain ⟨u0, u1, -⟩ := id xn.reads
                obtain ⟨y0, y1, yf⟩ := id S.2.1.reads
                have yf0 := yf 0
                have yf1 := yf 1
                have S9 := S.next o9
                clear yf xn o9 S
                go_wp2
                go_roundw
                case rel => exact ⟨k + 1, x, _, _, _, _, _, by omega, by go_num, HVn, S9.more (by push_cast; omega)⟩
                case measure => simp [intOf]; omega
              · have e7 : (d6 == 0) = false := by rw [beq_eq_false_iff_ne]; exact h3
                clear h3 d60 d61
                go_upto_region 17 with fail
                obtain ⟨W, hWW⟩ : ∃ wz, w7 = wz := ⟨_, rfl⟩
                obtain ⟨x, hxc⟩ : ∃ x, c = x := ⟨_, rfl⟩
                rw [hWW] at S xn y0 y1 ⊢
                rw [hxc] at S xn y0 y1 HV HF ⊢
                have hxv := HV.out
                have o9 := S.2.2.2.1
                clear hWW hxc e5 e6 e7 y0 y1
                have HVn := hid hxv
                have CW := hid (specCoordinatorValid_is true (.agg #[.slice Aa x.ts.length ca, .slice Ab x.os.length cb]) x W o9.crd (cv_few hxv).1.fit ⟨fun _ => hxv, fun _ => rfl⟩)
                obtain ⟨u0, u1, -⟩ := id xn.reads
                clear hxv
                go_wp2_with fail
                refine CW.out.mono ?_
                rintro e wg ⟨rfl, dg⟩
                replace S := S.call dg
                replace xn := xn.later dg
                replace o9 := o9.below dg
                clear CW dg u0 u1
                obtain ⟨u0, u1, -⟩ := id xn.reads
                obtain ⟨y0, y1, yf⟩ := id S.2.1.reads
                have yf0 := yf 0
                have yf1 := yf 1
                have S9 := S.next o9
                clear yf xn o9 S
                go_wp2
                go_roundw
                case rel => exact ⟨k + 1, x, _, _, _, _, _, by omega, by go_num, HVn, S9.more (by push_cast; omega)⟩
                case measure => simp [intOf]; omega
            · have e6 : (d5 == 1) = false := by rw [beq_eq_false_iff_ne]; exact h1
              clear h0 h1 d50 d51
              go_wp2_with fail
              refine wp_region_held_drew (S := fun x => x.cell? ⟨g, 0, none⟩ = some (.slice Aa c.ts.length ca) ∧ x.cell? ⟨g, 1, none⟩ = some (.slice Ab c.os.length cb)) (by kernel_rfl) ⟨(S.call (Below.refl _ _).drew).2.1.reads.1, (S.call (Below.refl _ _).drew).2.1.reads.2.1⟩ (fun hHeld => ?_)
              replace S := S.call (Below.refl _ _).drew
              replace xn := xn.later (Below.refl _ _).drew
              obtain ⟨W, hW⟩ : ∃ x, w6.drew = x := ⟨_, rfl⟩
              rw [hW] at S xn hHeld ⊢
              clear hW y0 y1 e5 e6
              try simp only [Act.put, List.getElem_toArray, List.getElem_cons_succ, List.getElem_cons_zero, List.setIfInBounds_toArray, List.set_cons_zero, List.set_cons_succ]
              refine wpAnyH_take (i := 0) (oi := _) (v := ?_) rfl (by kernel_rfl) (by kernel_rfl) (by kernel_rfl) (fun _ _ _ h => h) (Or.inl ⟨by rfl, ?_⟩) hHeld ?_
              rotate_left
              · (intro w' hSw; (try dsimp only at hSw); go_simp <;> with_reducible rfl)
              try simp only [Act.put, List.getElem_toArray, List.getElem_cons_succ, List.getElem_cons_zero, List.setIfInBounds_toArray, List.set_cons_zero, List.set_cons_succ]
              refine wpAnyH_take (i := 1) (oi := _) (v := ?_) rfl (by kernel_rfl) (by kernel_rfl) (by kernel_rfl) (fun _ _ _ h => h) (Or.inl ⟨by rfl, ?_⟩) hHeld ?_
              rotate_left
              · (intro w' hSw; (try dsimp only at hSw); go_simp <;> with_reducible rfl)
              try simp only [Act.put, List.getElem_toArray, List.getElem_cons_succ, List.getElem_cons_zero, List.setIfInBounds_toArray, List.set_cons_zero, List.set_cons_succ]
              refine wpAnyH_take (i := 2) (oi := _) (v := ?_) rfl (by kernel_rfl) (by kernel_rfl) (by kernel_rfl) (fun _ _ _ h => h) (Or.inl ⟨by rfl, ?_⟩) hHeld ?_
              rotate_left
              · (intro w' hSw; (try dsimp only at hSw); go_simp <;> with_reducible rfl)
              try simp only [Act.put, List.getElem_toArray, List.getElem_cons_succ, List.getElem_cons_zero, List.setIfInBounds_toArray, List.set_cons_zero, List.set_cons_succ]
              refine wpAnyH_take (i := 4) (oi := _) (v := ?_) rfl (by kernel_rfl) (by kernel_rfl) (by kernel_rfl) (fun _ _ _ h => h) (Or.inl ⟨by rfl, ?_⟩) hHeld ?_
              rotate_left
              · (intro w' hSw; (try dsimp only at hSw); go_simp <;> with_reducible rfl)
              try simp only [Act.put, List.getElem_toArray, List.getElem_cons_succ, List.getElem_cons_zero, List.setIfInBounds_toArray, List.set_cons_zero, List.set_cons_succ]
              refine wpAnyH_ready (rs := [3]) (by kernel_rfl) (by simp) (AllReadyH.cons (o := _) rfl (fun K hK => ?_) AllReadyH.nil)
              try simp only [Act.put, List.getElem_toArray, List.getElem_cons_succ, List.getElem_cons_zero, List.setIfInBounds_toArray, List.set_cons_zero, List.set_cons_succ]
              go_simp
              go_at_call 34
              refine (pick_any R _ 3 _ S.2.2.2.2.2.1 (by omega) (by omega) (by omega)).mono ?_
              rintro e W ⟨s, rfl, s0, s1, R6, T6⟩
              replace S := S.pick R6 T6
              replace xn := xn.but_ T6 (by have := S.2.2.2.2.1; have := S.2.2.1; omega)
              clear R6 T6
              refine hK.out _ _ ⟨S.2.1.reads.1, S.2.1.reads.2.1⟩ (fun hHeld => ?_)
              clear hK K
              try simp only [Act.put, List.getElem_toArray, List.getElem_cons_succ, List.getElem_cons_zero, List.setIfInBounds_toArray, List.set_cons_zero, List.set_cons_succ]
              refine wpAnyH_ready (rs := [5]) (by kernel_rfl) (by simp) (AllReadyH.cons (o := _) rfl (fun K hK => ?_) AllReadyH.nil)
              try simp only [Act.put, List.getElem_toArray, List.getElem_cons_succ, List.getElem_cons_zero, List.setIfInBounds_toArray, List.set_cons_zero, List.set_cons_succ]
              go_simp
              go_at_call 34
              refine (pick_any R _ 6 _ S.2.2.2.2.2.1 (by omega) (by omega) (by omega)).mono ?_
              rintro e W ⟨y, rfl, yy0, yy1, R6, T6⟩
              replace S := S.pick R6 T6
              replace xn := xn.but_ T6 (by have := S.2.2.2.2.1; have := S.2.2.1; omega)
              clear R6 T6
              refine hK.out _ _ ⟨S.2.1.reads.1, S.2.1.reads.2.1⟩ (fun hHeld => ?_)
              clear hK K
              try simp only [Act.put, List.getElem_toArray, List.getElem_cons_succ, List.getElem_cons_zero, List.setIfInBounds_toArray, List.set_cons_zero, List.set_cons_succ]
              refine wpAnyH_take (i := 6) (oi := _) (v := ?_) rfl (by kernel_rfl) (by kernel_rfl) (by kernel_rfl) (fun _ _ _ h => h) (Or.inl ⟨by rfl, ?_⟩) hHeld ?_
              rotate_left
              · (intro w' hSw; (try dsimp only at hSw); go_simp <;> with_reducible rfl)
              try simp only [Act.put, List.getElem_toArray, List.getElem_cons_succ, List.getElem_cons_zero, List.setIfInBounds_toArray, List.set_cons_zero, List.set_cons_succ]
              obtain ⟨by_, hby⟩ : ∃ b, decide (0 < y) = b := ⟨_, rfl⟩
              refine wpAnyH_ready (rs := [7]) (by kernel_rfl) (by simp) (AllReadyH.cons (o := _) rfl (fun K hK => ?_) AllReadyH.nil)
              try simp only [Act.put, List.getElem_toArray, List.getElem_cons_succ, List.getElem_cons_zero, List.setIfInBounds_toArray, List.set_cons_zero, List.set_cons_succ]
              go_simp
              try rw [hby]
              go_at_call 59
              obtain ⟨x, b2, hx⟩ := counted_ex c t s by_
              refine (specCoordinatorVote_is x b2 _ c t s by_ W S.2.2.2.1.crd HF.out.fit hx).mono ?_
              rintro e W ⟨v9, col9, rfl, o9', d9⟩
              have hxv := hx.valid
              have zz := S.size
              replace S := S.call d9
              replace xn := xn.later d9
              have o9 := o9'.base zz
              obtain ⟨A9, c9, B9, e9, rfl, -⟩ := o9.form
              unfold crV at o9 ⊢
              clear hx zz d9 o9'
              refine hK.out _ _ ⟨S.2.1.reads.1, S.2.1.reads.2.1⟩ (fun hHeld => ?_)
              clear hK K
              try simp only [Act.put, List.getElem_toArray, List.getElem_cons_succ, List.getElem_cons_zero, List.setIfInBounds_toArray, List.set_cons_zero, List.set_cons_succ]
              refine wpAnyH_take (i := 8) (oi := _) (v := ?_) rfl (by kernel_rfl) (by kernel_rfl) (by kernel_rfl) (fun _ _ _ h => h) (Or.inl ⟨by rfl, ?_⟩) hHeld ?_
              rotate_left
              · (intro w' hSw; (try dsimp only at hSw); go_simp <;> with_reducible rfl)
              try simp only [Act.put, List.getElem_toArray, List.getElem_cons_succ, List.getElem_cons_zero, List.setIfInBounds_toArray, List.set_cons_zero, List.set_cons_succ]
              refine wpAnyH_take (i := 9) (oi := _) (v := ?_) rfl (by kernel_rfl) (by kernel_rfl) (by kernel_rfl) (fun _ _ _ h => h) (Or.inl ⟨by rfl, ?_⟩) hHeld ?_
              rotate_left
              · (intro w' hSw; (try dsimp only at hSw); go_simp <;> with_reducible rfl)
              try simp only [Act.put, List.getElem_toArray, List.getElem_cons_succ, List.getElem_cons_zero, List.setIfInBounds_toArray, List.set_cons_zero, List.set_cons_succ]
              refine wpAnyH_take (i := 10) (oi := _) (v := ?_) rfl (by kernel_rfl) (by kernel_rfl) (by kernel_rfl) (fun _ _ _ h => h) (Or.inl ⟨by rfl, ?_⟩) hHeld ?_
              rotate_left
              · (intro w' hSw; (try dsimp only at hSw); go_simp <;> with_reducible rfl)
              try simp only [Act.put, List.getElem_toArray, List.getElem_cons_succ, List.getElem_cons_zero, List.setIfInBounds_toArray, List.set_cons_zero, List.set_cons_succ]
              obtain ⟨z0, z1, zff⟩ := id xn.reads
              have zf0 := zff 0
              have zf1 := zff 1
              have S9 := (S.stored xn hgn 0 (.slice A9 x.ts.length c9)).stored (xn.set0 (.slice A9 x.ts.length c9)) hgn 1 (.slice B9 x.os.length e9)
              have o8 := (o9.keptT (by decide) (by decide) (by decide) (by decide) (but_set W gn 0 (.slice A9 x.ts.length c9)) (blk_type xn)).keptT (by decide) (by decide) (by decide) (by decide) (but_set _ gn 1 (.slice B9 x.os.length e9)) (blk_type (xn.set0 (.slice A9 x.ts.length c9)))
              have x8 := (xn.set0 (.slice A9 x.ts.length c9)).set1 (.slice B9 x.os.length e9)
              clear zff
              refine wpAnyH_ready (rs := [11]) (by kernel_rfl) (by simp) (AllReadyH.cons (o := _) rfl (fun K hK => ?_) AllReadyH.nil)
              try simp only [Act.put, List.getElem_toArray, List.getElem_cons_succ, List.getElem_cons_zero, List.setIfInBounds_toArray, List.set_cons_zero, List.set_cons_succ]
              go_simp
              refine hK.out _ _ ⟨S9.2.1.reads.1, S9.2.1.reads.2.1⟩ (fun hHeld => ?_)
              clear hK K
              try simp only [Act.put, List.getElem_toArray, List.getElem_cons_succ, List.getElem_cons_zero, List.setIfInBounds_toArray, List.set_cons_zero, List.set_cons_succ]
              refine wpAnyH_done (by kernel_rfl) ?_ _
              clear S xn o9 z0 z1 zf0 zf1 hHeld
              obtain ⟨W, hWW⟩ : ∃ wz, (W.setCell ⟨gn, 0, none⟩ (.slice A9 x.ts.length c9)).setCell ⟨gn, 1, none⟩ (.slice B9 x.os.length e9) = wz := ⟨_, rfl⟩
              rw [hWW] at S9 o8 x8 ⊢
              have S := S9
              have o9 := o8
              have xn := x8
              clear S9 o8 x8 hWW
              have HVn := hid hxv
              have CW := hid (specCoordinatorValid_is true (.agg #[.slice A9 x.ts.length c9, .slice B9 x.os.length e9]) x W o9.crd (cv_few hxv).1.fit ⟨fun _ => hxv, fun _ => rfl⟩)
              obtain ⟨u0, u1, -⟩ := id xn.reads
              clear hxv
              go_wp2_with fail
              refine CW.out.mono ?_
              rintro e wg ⟨rfl, dg⟩
              replace S := S.call dg
              replace xn := xn.later dg
              replace o9 := o9.below dg
              clear CW dg u0 u1
              obtain ⟨u0, u1, -⟩ := id xn.reads
              obtain ⟨y0, y1, yf⟩ := id S.2.1.reads
              have yf0 := yf 0
              have yf1 := yf 1
              have S9 := S.next o9
              clear yf xn o9 S
              go_wp2
              go_roundw
              case rel => exact ⟨k + 1, x, _, _, _, _, _, by omega, by go_num, HVn, S9.more (by push_cast; omega)⟩
              case measure => simp [intOf]; omega
        · go_wp2_with fail
          refine (pick_any R _ 1 _ S.2.2.2.2.2.1 (by omega) (by omega) (by omega)).mono ?_
          rintro e w5 ⟨t, rfl, t0, t1, R5, T5⟩
          replace S := S.pick R5 T5
          replace xn := xn.but_ T5 (by have := S.2.2.2.2.1; have := S.2.2.1; omega)
          clear R5 T5 y0 y1
          obtain ⟨y0, y1, -⟩ := id S.2.1.reads
          clear hmx o9
          go_wp2_with fail
          refine (pick_any R _ 5 _ S.2.2.2.2.2.1 (by omega) (by omega) (by omega)).mono ?_
          rintro e w6 ⟨d5, rfl, d50, d51, R5, T5⟩
          replace S := S.pick R5 T5
          replace xn := xn.but_ T5 (by have := S.2.2.2.2.1; have := S.2.2.1; omega)
          clear R5 T5 y0 y1
          obtain ⟨y0, y1, -⟩ := id S.2.1.reads
          by_cases h0 : d5 = 0
          · have e5 : (d5 == 0) = true := by rw [h0]; rfl
            clear h0 d50 d51
            go_wp2_with fail
            refine wp_region_held_drew (S := fun x => x.cell? ⟨g, 0, none⟩ = some (.slice Aa c.ts.length ca) ∧ x.cell? ⟨g, 1, none⟩ = some (.slice Ab c.os.length cb)) (by kernel_rfl) ⟨(S.call (Below.refl _ _).drew).2.1.reads.1, (S.call (Below.refl _ _).drew).2.1.reads.2.1⟩ (fun hHeld => ?_)
            replace S := S.call (Below.refl _ _).drew
            replace xn := xn.later (Below.refl _ _).drew
            obtain ⟨W, hW⟩ : ∃ x, w6.drew = x := ⟨_, rfl⟩
            rw [hW] at S xn hHeld ⊢
            clear hW y0 y1 e5
            try simp only [Act.put, List.getElem_toArray, List.getElem_cons_succ, List.getElem_cons_zero, List.setIfInBounds_toArray, List.set_cons_zero, List.set_cons_succ]
            refine wpAnyH_take (i := 0) (oi := _) (v := ?_) rfl (by kernel_rfl) (by kernel_rfl) (by kernel_rfl) (fun _ _ _ h => h) (Or.inl ⟨by rfl, ?_⟩) hHeld ?_
            rotate_left
            · (intro w' hSw; (try dsimp only at hSw); go_simp <;> with_reducible rfl)
            try simp only [Act.put, List.getElem_toArray, List.getElem_cons_succ, List.getElem_cons_zero, List.setIfInBounds_toArray, List.set_cons_zero, List.set_cons_succ]
            refine wpAnyH_take (i := 1) (oi := _) (v := ?_) rfl (by kernel_rfl) (by kernel_rfl) (by kernel_rfl) (fun _ _ _ h => h) (Or.inl ⟨by rfl, ?_⟩) hHeld ?_
            rotate_left
            · (intro w' hSw; (try dsimp only at hSw); go_simp <;> with_reducible rfl)
            try simp only [Act.put, List.getElem_toArray, List.getElem_cons_succ, List.getElem_cons_zero, List.setIfInBounds_toArray, List.set_cons_zero, List.set_cons_succ]
            refine wpAnyH_ready (rs := [2]) (by kernel_rfl) (by simp) (AllReadyH.cons (o := _) rfl (fun K hK => ?_) AllReadyH.nil)
            try simp only [Act.put, List.getElem_toArray, List.getElem_cons_succ, List.getElem_cons_zero, List.setIfInBounds_toArray, List.set_cons_zero, List.set_cons_succ]
            go_simp
            go_at_call 57
            refine (l92Parts_any R _ W S.2.2.2.2.2.1 (by omega)).mono ?_
            rintro e W ⟨vp, ps, rfl, op, hpl, hsm, R6, T6⟩
            replace S := S.pick R6 T6
            replace xn := xn.but_ T6 (by have := S.2.2.2.2.1; have := S.2.2.1; omega)
            obtain ⟨Ap, cp, rfl, rp, -⟩ := op.form
            have HSM := hid hsm
            clear R6 T6 op hsm
            refine hK.out _ _ ⟨S.2.1.reads.1, S.2.1.reads.2.1⟩ (fun hHeld => ?_)
            clear hK K
            try simp only [Act.put, List.getElem_toArray, List.getElem_cons_succ, List.getElem_cons_zero, List.setIfInBounds_toArray, List.set_cons_zero, List.set_cons_succ]
            refine wpAnyH_ready (rs := [3]) (by kernel_rfl) (by simp) (AllReadyH.cons (o := _) rfl (fun K hK => ?_) AllReadyH.nil)
            try simp only [Act.put, List.getElem_toArray, List.getElem_cons_succ, List.getElem_cons_zero, List.setIfInBounds_toArray, List.set_cons_zero, List.set_cons_succ]
            go_simp
            go_at_call 56
            obtain ⟨x, b2, hx⟩ := begun_ex c ps
            refine (specCoordinatorBegin_is x b2 _ c Ap cp ps W S.2.2.2.1.crd HF.out.fit rp (by omega) (fun p hp => by have := HSM.out p hp; omega) hx).mono ?_
            rintro e W ⟨v9, col9, rfl, o9', d9⟩
            have hxv := hx.valid
            have zz := S.size
            replace S := S.call d9
            replace xn := xn.later d9
            have o9 := o9'.base zz
            obtain ⟨A9, c9, B9, e9, rfl, -⟩ := o9.form
            unfold crV at o9 ⊢
            clear hx zz d9 o9'
            refine hK.out _ _ ⟨S.2.1.reads.1, S.2.1.reads.2.1⟩ (fun hHeld => ?_)
            clear hK K
            try simp only [Act.put, List.getElem_toArray, List.getElem_cons_succ, List.getElem_cons_zero, List.setIfInBounds_toArray, List.set_cons_zero, List.set_cons_succ]
            refine wpAnyH_take (i := 4) (oi := _) (v := ?_) rfl (by kernel_rfl) (by kernel_rfl) (by kernel_rfl) (fun _ _ _ h => h) (Or.inl ⟨by rfl, ?_⟩) hHeld ?_
            rotate_left
            · (intro w' hSw; (try dsimp only at hSw); go_simp <;> with_reducible rfl)
            try simp only [Act.put, List.getElem_toArray, List.getElem_cons_succ, List.getElem_cons_zero, List.setIfInBounds_toArray, List.set_cons_zero, List.set_cons_succ]
            refine wpAnyH_take (i := 5) (oi := _) (v := ?_) rfl (by kernel_rfl) (by kernel_rfl) (by kernel_rfl) (fun _ _ _ h => h) (Or.inl ⟨by rfl, ?_⟩) hHeld ?_
            rotate_left
            · (intro w' hSw; (try dsimp only at hSw); go_simp <;> with_reducible rfl)
            try simp only [Act.put, List.getElem_toArray, List.getElem_cons_succ, List.getElem_cons_zero, List.setIfInBounds_toArray, List.set_cons_zero, List.set_cons_succ]
            refine wpAnyH_take (i := 6) (oi := _) (v := ?_) rfl (by kernel_rfl) (by kernel_rfl) (by kernel_rfl) (fun _ _ _ h => h) (Or.inl ⟨by rfl, ?_⟩) hHeld ?_
            rotate_left
            · (intro w' hSw; (try dsimp only at hSw); go_simp <;> with_reducible rfl)
            try simp only [Act.put, List.getElem_toArray, List.getElem_cons_succ, List.getElem_cons_zero, List.setIfInBounds_toArray, List.set_cons_zero, List.set_cons_succ]
            obtain ⟨z0, z1, zff⟩ := id xn.reads
            have zf0 := zff 0
            have zf1 := zff 1
            have S9 := (S.stored xn hgn 0 (.slice A9 x.ts.length c9)).stored (xn.set0 (.slice A9 x.ts.length c9)) hgn 1 (.slice B9 x.os.length e9)
            have o8 := (o9.keptT (by decide) (by decide) (by decide) (by decide) (but_set W gn 0 (.slice A9 x.ts.length c9)) (blk_type xn)).keptT (by decide) (by decide) (by decide) (by decide) (but_set _ gn 1 (.slice B9 x.os.length e9)) (blk_type (xn.set0 (.slice A9 x.ts.length c9)))
            have x8 := (xn.set0 (.slice A9 x.ts.length c9)).set1 (.slice B9 x.os.length e9)
            clear zff
            refine wpAnyH_ready (rs := [7]) (by kernel_rfl) (by simp) (AllReadyH.cons (o := _) rfl (fun K hK => ?_) AllReadyH.nil)
            try simp only [Act.put, List.getElem_toArray, List.getElem_cons_succ, List.getElem_cons_zero, List.setIfInBounds_toArray, List.set_cons_zero, List.set_cons_succ]
            go_simp
            refine hK.out _ _ ⟨S9.2.1.reads.1, S9.2.1.reads.2.1⟩ (fun hHeld => ?_)
            clear hK K
            try simp only [Act.put, List.getElem_toArray, List.getElem_cons_succ, List.getElem_cons_zero, List.setIfInBounds_toArray, List.set_cons_zero, List.set_cons_succ]
            refine wpAnyH_done (by kernel_rfl) ?_ _
            clear S xn o9 z0 z1 zf0 zf1 hHeld
            obtain ⟨W, hWW⟩ : ∃ wz, (W.setCell ⟨gn, 0, none⟩ (.slice A9 x.ts.length c9)).setCell ⟨gn, 1, none⟩ (.slice B9 x.os.length e9) = wz := ⟨_, rfl⟩
            rw [hWW] at S9 o8 x8 ⊢
            have S := S9
            have o9 := o8
            have xn := x8
            clear S9 o8 x8 hWW
            have HVn := hid hxv
            have CW := hid (specCoordinatorValid_is true (.agg #[.slice A9 x.ts.length c9, .slice B9 x.os.length e9]) x W o9.crd (cv_few hxv).1.fit ⟨fun _ => hxv, fun _ => rfl⟩)
            obtain ⟨u0, u1, -⟩ := id xn.reads
            clear hxv
            go_wp2_with fail
            refine CW.out.mono ?_
            rintro e wg ⟨rfl, dg⟩
            replace S := S.call dg
            replace xn := xn.later dg
            replace o9 := o9.below dg
            clear CW dg u0 u1
            obtain ⟨u0, u1, -⟩ := id xn.reads
            obtain ⟨y0, y1, yf⟩ := id S.2.1.reads
            have yf0 := yf 0
            have yf1 := yf 1
            have S9 := S.next o9
            clear yf xn o9 S
            go_wp2
            go_roundw
            case rel => exact ⟨k + 1, x, _, _, _, _, _, by omega, by go_num, HVn, S9.more (by push_cast; omega)⟩
            case measure => simp [intOf]; omega
          · have e5 : (d5 == 0) = false := by rw [beq_eq_false_iff_ne]; exact h0
            by_cases h1 : d5 = 1
            · have e6 : (d5 == 1) = true := by rw [h1]; rfl
              clear h0 h1 d50 d51
              go_wp2_with fail
              refine (pick_any R _ 3 _ S.2.2.2.2.2.1 (by omega) (by omega) (by omega)).mono ?_
              rintro e w7 ⟨d6, rfl, d60, d61, R5, T5⟩
              replace S := S.pick R5 T5
              replace xn := xn.but_ T5 (by have := S.2.2.2.2.1; have := S.2.2.1; omega)
              clear R5 T5 y0 y1
              obtain ⟨y0, y1, -⟩ := id S.2.1.reads
              by_cases h3 : d6 = 0
              · have e7 : (d6 == 0) = true := by rw [h3]; rfl
                clear h3 d60 d61
                obtain ⟨x, b2, hx⟩ := late_ex c t
                have CT := hid (specCoordinatorTimeout_is x b2 _ c t w7 S.2.2.2.1.crd HF.out.fit hx)
                go_wp2_with fail
                refine CT.out.mono ?_
                rintro e W ⟨v9, col9, rfl, o9', d9⟩
                have hxv := hx.valid
                have zz := S.size
                replace S := S.call d9
                replace xn := xn.later d9
                have o9 := o9'.base zz
                obtain ⟨A9, c9, B9, e9, rfl, -⟩ := o9.form
                unfold crV at o9 ⊢
                clear CT hx zz d9 o9' y0 y1 e5 e6 e7
                obtain ⟨z0, z1, zff⟩ := id xn.reads
                have zf0 := zff 0
                have zf1 := zff 1
                have S9 := (S.stored xn hgn 0 (.slice A9 x.ts.length c9)).stored (xn.set0 (.slice A9 x.ts.length c9)) hgn 1 (.slice B9 x.os.length e9)
                have o8 := (o9.keptT (by decide) (by decide) (by decide) (by decide) (but_set W gn 0 (.slice A9 x.ts.length c9)) (blk_type xn)).keptT (by decide) (by decide) (by decide) (by decide) (but_set _ gn 1 (.slice B9 x.os.length e9)) (blk_type (xn.set0 (.slice A9 x.ts.length c9)))
                have x8 := (xn.set0 (.slice A9 x.ts.length c9)).set1 (.slice B9 x.os.length e9)
                clear zff
                go_upto_region 17 with fail
                clear S xn o9 z0 z1 zf0 zf1
                obtain ⟨W, hWW⟩ : ∃ wz, (W.setCell ⟨gn, 0, none⟩ (.slice A9 x.ts.length c9)).setCell ⟨gn, 1, none⟩ (.slice B9 x.os.length e9) = wz := ⟨_, rfl⟩
                rw [hWW] at S9 o8 x8 ⊢
                have S := S9
                have o9 := o8
                have xn := x8
                clear S9 o8 x8 hWW
                have HVn := hid hxv
                have CW := hid (specCoordinatorValid_is true (.agg #[.slice A9 x.ts.length c9, .slice B9 x.os.length e9]) x W o9.crd (cv_few hxv).1.fit ⟨fun _ => hxv, fun _ => rfl⟩)
                obtain ⟨u0, u1, -⟩ := id xn.reads
                clear hxv
                go_wp2_with fail
                refine CW.out.mono ?_
                rintro e wg ⟨rfl, dg⟩
                replace S := S.call dg
                replace xn := xn.later dg
                replace o9 := o9.below dg
                clear CW dg u0 u1
                obtain ⟨u0, u1, -⟩ := id xn.reads
                obtain ⟨y0, y1, yf⟩ := id S.2.1.reads
                have yf0 := yf 0
                have yf1 := yf 1
                have S9 := S.next o9
                clear yf xn o9 S
                go_wp2
                go_roundw
                case rel => exact ⟨k + 1, x, _, _, _, _, _, by omega, by go_num, HVn, S9.more (by push_cast; omega)⟩
                case measure => simp [intOf]; omega
              · have e7 : (d6 == 0) = false := by rw [beq_eq_false_iff_ne]; exact h3
                clear h3 d60 d61
                go_upto_region 17 with fail
                obtain ⟨W, hWW⟩ : ∃ wz, w7 = wz := ⟨_, rfl⟩
                obtain ⟨x, hxc⟩ : ∃ x, c = x := ⟨_, rfl⟩
                rw [hWW] at S xn y0 y1 ⊢
                rw [hxc] at S xn y0 y1 HV HF ⊢
                have hxv := HV.out
                have o9 := S.2.2.2.1
                clear hWW hxc e5 e6 e7 y0 y1
                have HVn := hid hxv
                have CW := hid (specCoordinatorValid_is true (.agg #[.slice Aa x.ts.length ca, .slice Ab x.os.length cb]) x W o9.crd (cv_few hxv).1.fit ⟨fun _ => hxv, fun _ => rfl⟩)
                obtain ⟨u0, u1, -⟩ := id xn.reads
                clear hxv
                go_wp2_with fail
                refine CW.out.mono ?_
                rintro e wg ⟨rfl, dg⟩
                replace S := S.call dg
                replace xn := xn.later dg
                replace o9 := o9.below dg
                clear CW dg u0 u1
                obtain ⟨u0, u1, -⟩ := id xn.reads
                obtain ⟨y0, y1, yf⟩ := id S.2.1.reads
                have yf0 := yf 0
                have yf1 := yf 1
                have S9 := S.next o9
                clear yf xn o9 S
                go_wp2
                go_roundw
                case rel => exact ⟨k + 1, x, _, _, _, _, _, by omega, by go_num, HVn, S9.more (by push_cast; omega)⟩
                case measure => simp [intOf]; omega
            · have e6 : (d5 == 1) = false := by rw [beq_eq_false_iff_ne]; exact h1
              clear h0 h1 d50 d51
              go_wp2_with fail
              refine wp_region_held_drew (S := fun x => x.cell? ⟨g, 0, none⟩ = some (.slice Aa c.ts.length ca) ∧ x.cell? ⟨g, 1, none⟩ = some (.slice Ab c.os.length cb)) (by kernel_rfl) ⟨(S.call (Below.refl _ _).drew).2.1.reads.1, (S.call (Below.refl _ _).drew).2.1.reads.2.1⟩ (fun hHeld => ?_)
              replace S := S.call (Below.refl _ _).drew
              replace xn := xn.later (Below.refl _ _).drew
              obtain ⟨W, hW⟩ : ∃ x, w6.drew = x := ⟨_, rfl⟩
              rw [hW] at S xn hHeld ⊢
              clear hW y0 y1 e5 e6
              try simp only [Act.put, List.getElem_toArray, List.getElem_cons_succ, List.getElem_cons_zero, List.setIfInBounds_toArray, List.set_cons_zero, List.set_cons_succ]
              refine wpAnyH_take (i := 0) (oi := _) (v := ?_) rfl (by kernel_rfl) (by kernel_rfl) (by kernel_rfl) (fun _ _ _ h => h) (Or.inl ⟨by rfl, ?_⟩) hHeld ?_
              rotate_left
              · (intro w' hSw; (try dsimp only at hSw); go_simp <;> with_reducible rfl)
              try simp only [Act.put, List.getElem_toArray, List.getElem_cons_succ, List.getElem_cons_zero, List.setIfInBounds_toArray, List.set_cons_zero, List.set_cons_succ]
              refine wpAnyH_take (i := 1) (oi := _) (v := ?_) rfl (by kernel_rfl) (by kernel_rfl) (by kernel_rfl) (fun _ _ _ h => h) (Or.inl ⟨by rfl, ?_⟩) hHeld ?_
              rotate_left
              · (intro w' hSw; (try dsimp only at hSw); go_simp <;> with_reducible rfl)
              try simp only [Act.put, List.getElem_toArray, List.getElem_cons_succ, List.getElem_cons_zero, List.setIfInBounds_toArray, List.set_cons_zero, List.set_cons_succ]
              refine wpAnyH_take (i := 2) (oi := _) (v := ?_) rfl (by kernel_rfl) (by kernel_rfl) (by kernel_rfl) (fun _ _ _ h => h) (Or.inl ⟨by rfl, ?_⟩) hHeld ?_
              rotate_left
              · (intro w' hSw; (try dsimp only at hSw); go_simp <;> with_reducible rfl)
              try simp only [Act.put, List.getElem_toArray, List.getElem_cons_succ, List.getElem_cons_zero, List.setIfInBounds_toArray, List.set_cons_zero, List.set_cons_succ]
              refine wpAnyH_take (i := 4) (oi := _) (v := ?_) rfl (by kernel_rfl) (by kernel_rfl) (by kernel_rfl) (fun _ _ _ h => h) (Or.inl ⟨by rfl, ?_⟩) hHeld ?_
              rotate_left
              · (intro w' hSw; (try dsimp only at hSw); go_simp <;> with_reducible rfl)
              try simp only [Act.put, List.getElem_toArray, List.getElem_cons_succ, List.getElem_cons_zero, List.setIfInBounds_toArray, List.set_cons_zero, List.set_cons_succ]
              refine wpAnyH_ready (rs := [3]) (by kernel_rfl) (by simp) (AllReadyH.cons (o := _) rfl (fun K hK => ?_) AllReadyH.nil)
              try simp only [Act.put, List.getElem_toArray, List.getElem_cons_succ, List.getElem_cons_zero, List.setIfInBounds_toArray, List.set_cons_zero, List.set_cons_succ]
              go_simp
              go_at_call 34
              refine (pick_any R _ 3 _ S.2.2.2.2.2.1 (by omega) (by omega) (by omega)).mono ?_
              rintro e W ⟨s, rfl, s0, s1, R6, T6⟩
              replace S := S.pick R6 T6
              replace xn := xn.but_ T6 (by have := S.2.2.2.2.1; have := S.2.2.1; omega)
              clear R6 T6
              refine hK.out _ _ ⟨S.2.1.reads.1, S.2.1.reads.2.1⟩ (fun hHeld => ?_)
              clear hK K
              try simp only [Act.put, List.getElem_toArray, List.getElem_cons_succ, List.getElem_cons_zero, List.setIfInBounds_toArray, List.set_cons_zero, List.set_cons_succ]
              refine wpAnyH_ready (rs := [5]) (by kernel_rfl) (by simp) (AllReadyH.cons (o := _) rfl (fun K hK => ?_) AllReadyH.nil)
              try simp only [Act.put, List.getElem_toArray, List.getElem_cons_succ, List.getElem_cons_zero, List.setIfInBounds_toArray, List.set_cons_zero, List.set_cons_succ]
              go_simp
              go_at_call 34
              refine (pick_any R _ 6 _ S.2.2.2.2.2.1 (by omega) (by omega) (by omega)).mono ?_
              rintro e W ⟨y, rfl, yy0, yy1, R6, T6⟩
              replace S := S.pick R6 T6
              replace xn := xn.but_ T6 (by have := S.2.2.2.2.1; have := S.2.2.1; omega)
              clear R6 T6
              refine hK.out _ _ ⟨S.2.1.reads.1, S.2.1.reads.2.1⟩ (fun hHeld => ?_)
              clear hK K
              try simp only [Act.put, List.getElem_toArray, List.getElem_cons_succ, List.getElem_cons_zero, List.setIfInBounds_toArray, List.set_cons_zero, List.set_cons_succ]
              refine wpAnyH_take (i := 6) (oi := _) (v := ?_) rfl (by kernel_rfl) (by kernel_rfl) (by kernel_rfl) (fun _ _ _ h => h) (Or.inl ⟨by rfl, ?_⟩) hHeld ?_
              rotate_left
              · (intro w' hSw; (try dsimp only at hSw); go_simp <;> with_reducible rfl)
              try simp only [Act.put, List.getElem_toArray, List.getElem_cons_succ, List.getElem_cons_zero, List.setIfInBounds_toArray, List.set_cons_zero, List.set_cons_succ]
              obtain ⟨by_, hby⟩ : ∃ b, decide (0 < y) = b := ⟨_, rfl⟩
              refine wpAnyH_ready (rs := [7]) (by kernel_rfl) (by simp) (AllReadyH.cons (o := _) rfl (fun K hK => ?_) AllReadyH.nil)
              try simp only [Act.put, List.getElem_toArray, List.getElem_cons_succ, List.getElem_cons_zero, List.setIfInBounds_toArray, List.set_cons_zero, List.set_cons_succ]
              go_simp
              try rw [hby]
              go_at_call 59
              obtain ⟨x, b2, hx⟩ := counted_ex c t s by_
              refine (specCoordinatorVote_is x b2 _ c t s by_ W S.2.2.2.1.crd HF.out.fit hx).mono ?_
              rintro e W ⟨v9, col9, rfl, o9', d9⟩
              have hxv := hx.valid
              have zz := S.size
              replace S := S.call d9
              replace xn := xn.later d9
              have o9 := o9'.base zz
              obtain ⟨A9, c9, B9, e9, rfl, -⟩ := o9.form
              unfold crV at o9 ⊢
              clear hx zz d9 o9'
              refine hK.out _ _ ⟨S.2.1.reads.1, S.2.1.reads.2.1⟩ (fun hHeld => ?_)
              clear hK K
              try simp only [Act.put, List.getElem_toArray, List.getElem_cons_succ, List.getElem_cons_zero, List.setIfInBounds_toArray, List.set_cons_zero, List.set_cons_succ]
              refine wpAnyH_take (i := 8) (oi := _) (v := ?_) rfl (by kernel_rfl) (by kernel_rfl) (by kernel_rfl) (fun _ _ _ h => h) (Or.inl ⟨by rfl, ?_⟩) hHeld ?_
              rotate_left
              · (intro w' hSw; (try dsimp only at hSw); go_simp <;> with_reducible rfl)
              try simp only [Act.put, List.getElem_toArray, List.getElem_cons_succ, List.getElem_cons_zero, List.setIfInBounds_toArray, List.set_cons_zero, List.set_cons_succ]
              refine wpAnyH_take (i := 9) (oi := _) (v := ?_) rfl (by kernel_rfl) (by kernel_rfl) (by kernel_rfl) (fun _ _ _ h => h) (Or.inl ⟨by rfl, ?_⟩) hHeld ?_
              rotate_left
              · (intro w' hSw; (try dsimp only at hSw); go_simp <;> with_reducible rfl)
              try simp only [Act.put, List.getElem_toArray, List.getElem_cons_succ, List.getElem_cons_zero, List.setIfInBounds_toArray, List.set_cons_zero, List.set_cons_succ]
              refine wpAnyH_take (i := 10) (oi := _) (v := ?_) rfl (by kernel_rfl) (by kernel_rfl) (by kernel_rfl) (fun _ _ _ h => h) (Or.inl ⟨by rfl, ?_⟩) hHeld ?_
              rotate_left
              · (intro w' hSw; (try dsimp only at hSw); go_simp <;> with_reducible rfl)
              try simp only [Act.put, List.getElem_toArray, List.getElem_cons_succ, List.getElem_cons_zero, List.setIfInBounds_toArray, List.set_cons_zero, List.set_cons_succ]
              obtain ⟨z0, z1, zff⟩ := id xn.reads
              have zf0 := zff 0
              have zf1 := zff 1
              have S9 := (S.stored xn hgn 0 (.slice A9 x.ts.length c9)).stored (xn.set0 (.slice A9 x.ts.length c9)) hgn 1 (.slice B9 x.os.length e9)
              have o8 := (o9.keptT (by decide) (by decide) (by decide) (by decide) (but_set W gn 0 (.slice A9 x.ts.length c9)) (blk_type xn)).keptT (by decide) (by decide) (by decide) (by decide) (but_set _ gn 1 (.slice B9 x.os.length e9)) (blk_type (xn.set0 (.slice A9 x.ts.length c9)))
              have x8 := (xn.set0 (.slice A9 x.ts.length c9)).set1 (.slice B9 x.os.length e9)
              clear zff
              refine wpAnyH_ready (rs := [11]) (by kernel_rfl) (by simp) (AllReadyH.cons (o := _) rfl (fun K hK => ?_) AllReadyH.nil)
              try simp only [Act.put, List.getElem_toArray, List.getElem_cons_succ, List.getElem_cons_zero, List.setIfInBounds_toArray, List.set_cons_zero, List.set_cons_succ]
              go_simp
              refine hK.out _ _ ⟨S9.2.1.reads.1, S9.2.1.reads.2.1⟩ (fun hHeld => ?_)
              clear hK K
              try simp only [Act.put, List.getElem_toArray, List.getElem_cons_succ, List.getElem_cons_zero, List.setIfInBounds_toArray, List.set_cons_zero, List.set_cons_succ]
              refine wpAnyH_done (by kernel_rfl) ?_ _
              clear S xn o9 z0 z1 zf0 zf1 hHeld
              obtain ⟨W, hWW⟩ : ∃ wz, (W.setCell ⟨gn, 0, none⟩ (.slice A9 x.ts.length c9)).setCell ⟨gn, 1, none⟩ (.slice B9 x.os.length e9) = wz := ⟨_, rfl⟩
              rw [hWW] at S9 o8 x8 ⊢
              have S := S9
              have o9 := o8
              have xn := x8
              clear S9 o8 x8 hWW
              have HVn := hid hxv
              have CW := hid (specCoordinatorValid_is true (.agg #[.slice A9 x.ts.length c9, .slice B9 x.os.length e9]) x W o9.crd (cv_few hxv).1.fit ⟨fun _ => hxv, fun _ => rfl⟩)
              obtain ⟨u0, u1, -⟩ := id xn.reads
              clear hxv
              go_wp2_with fail
              refine CW.out.mono ?_
              rintro e wg ⟨rfl, dg⟩
              replace S := S.call dg
              replace xn := xn.later dg
              replace o9 := o9.below dg
              clear CW dg u0 u1
              obtain ⟨u0, u1, -⟩ := id xn.reads
              obtain ⟨y0, y1, yf⟩ := id S.2.1.reads
              have yf0 := yf 0
              have yf1 := yf 1
              have S9 := S.next o9
              clear yf xn o9 S
              go_wp2
              go_roundw
              case rel => exact ⟨k + 1, x, _, _, _, _, _, by omega, by go_num, HVn, S9.more (by push_cast; omega)⟩
              case measure => simp [intOf]; omega
      · have e1 : decide ((k : Int) < 50) = false := decide_eq_false hlt
        clear hlt
        by_cases hc0 : c.ts.length = 0
        · have e2 : ((c.ts.length : Int) == 0) = true := by rw [beq_iff_eq]; omega
          have HSM := HF
          clear hc0 y0 y1
          obtain ⟨W, hW⟩ : ∃ x, wr = x := ⟨_, rfl⟩
          rw [hW] at S ⊢
          clear hW hf
          obtain ⟨y0, y1, -⟩ := id S.2.1.reads
          clear y0 y1
          obtain ⟨t0, t1, tf⟩ := id S.1.reads
          have tf0 := tf 0
          have tf1 := tf 1
          obtain ⟨u0, u1, -⟩ := id S.2.1.reads
          have o10 := (S.2.2.2.1.keptT (by decide) (by decide) (by decide) (by decide) (but_set W w.heap.size 0 (.slice Aa c.ts.length ca)) (blk_type S.1)).keptT (by decide) (by decide) (by decide) (by decide) (but_set _ w.heap.size 1 (.slice Ab c.os.length cb)) (blk_type (S.1.set0 (.slice Aa c.ts.length ca)))
          have R10 := (S.2.2.2.2.2.1.far S.2.2.2.2.1 0 (.slice Aa c.ts.length ca)).far S.2.2.2.2.1 1 (.slice Ab c.os.length cb)
          have T10 := (S.2.2.2.2.2.2.set_new (Nat.le_refl w.heap.size) 0 (.slice Aa c.ts.length ca)).set_new (Nat.le_refl w.heap.size) 1 (.slice Ab c.os.length cb)
          obtain ⟨p0, p1, -⟩ := ((S.1.set0 (.slice Aa c.ts.length ca)).set1 (.slice Ab c.os.length cb)).reads
          clear tf S
          go_wp2
          exact bodyPost_ret (v := .agg #[.slice Aa c.ts.length ca, .slice Ab c.os.length cb]) (by simp [results, Try.results33, go_sem, p0, p1]) rfl ⟨_, c, _, rfl, o10, HSM.out, R10.more (by push_cast; omega), T10⟩
        · have e2 : ((c.ts.length : Int) == 0) = false := by rw [beq_eq_false_iff_ne]; omega
          clear hf
          go_wp2_with fail
          refine (pick_any R _ (c.ts.length : Int) _ S.2.2.2.2.2.1 (by omega) (by omega) (by omega)).mono ?_
          rintro e w5 ⟨t, rfl, t0, t1, R5, T5⟩
          replace S := S.pick R5 T5
          clear R5 T5 y0 y1 e1 e2
          obtain ⟨y0, y1, -⟩ := id S.2.1.reads
          obtain ⟨n, rfl⟩ := Int.eq_ofNat_of_zero_le t0
          have hn : n < c.ts.length := by omega
          clear hc0
          go_wp2_with fail
          refine (pick_any R _ 20 _ S.2.2.2.2.2.1 (by omega) (by omega) (by omega)).mono ?_
          rintro e w6 ⟨d5, rfl, d50, d51, R5, T5⟩
          replace S := S.pick R5 T5
          clear R5 T5 y0 y1
          obtain ⟨y0, y1, yf⟩ := id S.2.1.reads
          have hps := HF.out.ps _ (List.getElem_mem hn)
          have hus := HF.out.us _ (List.getElem_mem hn)
          obtain ⟨gT, rfl, -⟩ := cr_head S.2.2.2.1 hn
          by_cases h0 : d5 = 0
          · have e5 : (d5 == 0) = true := by rw [h0]; rfl
            clear h0 d50 d51 yf
            go_wp2_with fail
            refine wp_region_held_drew (S := fun x => x.cell? ⟨g, 0, none⟩ = some (.slice (some ⟨gT, 0, none⟩) c.ts.length ca) ∧ x.cell? ⟨g, 1, none⟩ = some (.slice Ab c.os.length cb)) (by kernel_rfl) ⟨(S.call (Below.refl _ _).drew).2.1.reads.1, (S.call (Below.refl _ _).drew).2.1.reads.2.1⟩ (fun hHeld => ?_)
            replace S := S.call (Below.refl _ _).drew
            obtain ⟨W, hW⟩ : ∃ x, w6.drew = x := ⟨_, rfl⟩
            rw [hW] at S hHeld ⊢
            clear hW y0 y1 e5
            try simp only [Act.put, List.getElem_toArray, List.getElem_cons_succ, List.getElem_cons_zero, List.setIfInBounds_toArray, List.set_cons_zero, List.set_cons_succ]
            refine wpAnyH_take (i := 0) (oi := _) (v := ?_) rfl (by kernel_rfl) (by kernel_rfl) (by kernel_rfl) (fun _ _ _ h => h) (Or.inl ⟨by rfl, ?_⟩) hHeld ?_
            rotate_left
            · (intro w' hSw; (try dsimp only at hSw); go_simp <;> with_reducible rfl)
            try simp only [Act.put, List.getElem_toArray, List.getElem_cons_succ, List.getElem_cons_zero, List.setIfInBounds_toArray, List.set_cons_zero, List.set_cons_succ]
            refine wpAnyH_take (i := 1) (oi := _) (v := ?_) rfl (by kernel_rfl) (by kernel_rfl) (by kernel_rfl) (fun _ _ _ h => h) (Or.inl ⟨by rfl, ?_⟩) hHeld ?_
            rotate_left
            · (intro w' hSw; (try dsimp only at hSw); go_simp <;> with_reducible rfl)
            try simp only [Act.put, List.getElem_toArray, List.getElem_cons_succ, List.getElem_cons_zero, List.setIfInBounds_toArray, List.set_cons_zero, List.set_cons_succ]
            refine wpAnyH_take (i := 2) (oi := _) (v := ?_) rfl (by kernel_rfl) (by kernel_rfl) (by kernel_rfl) (fun _ _ _ h => h) (Or.inl ⟨by rfl, ?_⟩) hHeld ?_
            rotate_left
            · (intro w' hSw; (try dsimp only at hSw); go_simp <;> with_reducible rfl)
            try simp only [Act.put, List.getElem_toArray, List.getElem_cons_succ, List.getElem_cons_zero, List.setIfInBounds_toArray, List.set_cons_zero, List.set_cons_succ]
            refine wpAnyH_take (i := 3) (oi := _) (v := ?_) rfl (by kernel_rfl) (by kernel_rfl) (by kernel_rfl) (fun _ _ _ h => h) (Or.inl ⟨by rfl, ?_⟩) hHeld ?_
            rotate_left
            · (intro w' hSw; (try dsimp only at hSw); go_simp <;> with_reducible rfl)
            try simp only [Act.put, List.getElem_toArray, List.getElem_cons_succ, List.getElem_cons_zero, List.setIfInBounds_toArray, List.set_cons_zero, List.set_cons_succ]
            refine wpAnyH_ready (rs := [4]) (by kernel_rfl) (by simp) (AllReadyH.cons (o := _) rfl (fun K hK => ?_) AllReadyH.nil)
            try simp only [Act.put, List.getElem_toArray, List.getElem_cons_succ, List.getElem_cons_zero, List.setIfInBounds_toArray, List.set_cons_zero, List.set_cons_succ]
            go_simp
            go_at_call 34
            refine (pick_any R _ 5 _ S.2.2.2.2.2.1 (by omega) (by omega) (by omega)).mono ?_
            rintro e W ⟨s, rfl, s0, s1, R6, T6⟩
            replace S := S.pick R6 T6
            clear R6 T6
            refine hK.out _ _ ⟨S.2.1.reads.1, S.2.1.reads.2.1⟩ (fun hHeld => ?_)
            clear hK K
            try simp only [Act.put, List.getElem_toArray, List.getElem_cons_succ, List.getElem_cons_zero, List.setIfInBounds_toArray, List.set_cons_zero, List.set_cons_succ]
            have k1 : (n : Int) < (c.ts.length : Int) := by omega
            refine wpAnyH_take (i := 5) (oi := _) (v := ?_) rfl (by kernel_rfl) (by kernel_rfl) (by kernel_rfl) (fun _ _ _ h => h) (Or.inl ⟨by rfl, ?_⟩) hHeld ?_
            rotate_left
            · (intro w' hSw; (try dsimp only at hSw); go_simp <;> with_reducible rfl)
            try simp only [Act.put, List.getElem_toArray, List.getElem_cons_succ, List.getElem_cons_zero, List.setIfInBounds_toArray, List.set_cons_zero, List.set_cons_succ]
            refine wpAnyH_take (i := 6) (oi := _) (v := ?_) rfl (by kernel_rfl) (by kernel_rfl) (by kernel_rfl) (fun _ _ _ h => h) (Or.inl ⟨by rfl, ?_⟩) hHeld ?_
            rotate_left
            · (intro w' hSw; (try dsimp only at hSw); go_simp <;> with_reducible rfl)
            try simp only [Act.put, List.getElem_toArray, List.getElem_cons_succ, List.getElem_cons_zero, List.setIfInBounds_toArray, List.set_cons_zero, List.set_cons_succ]
            obtain ⟨q4, q5, q6, o4⟩ := cr_dec S.2.2.2.1 rfl hn s
            obtain ⟨cs, fr, hty⟩ := S.2.2.2.1.head rfl hn
            have n1 := ty_ne S.1 hty (by decide)
            have n6 := ty_ne S.2.1 hty (by decide)
            have x1 := S.1.far (p := ⟨gT, n * 3 + 2, none⟩) n1 (.int .i64 s)
            have x6 := S.2.1.far (p := ⟨gT, n * 3 + 2, none⟩) n6 (.int .i64 s)
            have hRw := S.2.2.2.2.1
            have R7 := S.2.2.2.2.2.1.far (g := gT) (by omega) (n * 3 + 2) (.int .i64 s)
            have T7 := S.2.2.2.2.2.2.set_new (g := gT) q6 (n * 3 + 2) (.int .i64 s)
            have hgw := S.2.2.1
            clear S hty
            refine wpAnyH_ready (rs := [7]) (by kernel_rfl) (by simp) (AllReadyH.cons (o := _) rfl (fun K hK => ?_) AllReadyH.nil)
            try simp only [Act.put, List.getElem_toArray, List.getElem_cons_succ, List.getElem_cons_zero, List.setIfInBounds_toArray, List.set_cons_zero, List.set_cons_succ]
            go_simp
            refine hK.out _ _ ⟨x6.reads.1, x6.reads.2.1⟩ (fun hHeld => ?_)
            clear hK K
            try simp only [Act.put, List.getElem_toArray, List.getElem_cons_succ, List.getElem_cons_zero, List.setIfInBounds_toArray, List.set_cons_zero, List.set_cons_succ]
            refine wpAnyH_done (by kernel_rfl) ?_ _
            clear hHeld q4 q5
            obtain ⟨W, hW⟩ : ∃ x, W.setCell ⟨gT, n * 3 + 2, none⟩ (.int .i64 s) = x := ⟨_, rfl⟩
            rw [hW] at x1 x6 R7 T7 o4 ⊢
            have HSM : Hid (SmC ⟨c.ts.set n ⟨c.ts[n].ps, c.ts[n].vs, s⟩, c.os⟩) := HF.out.set hps hus
            have S : DrC w R g _ (.slice (some ⟨gT, 0, none⟩) c.ts.length ca) (.slice Ab c.os.length cb) col ⟨c.ts.set n ⟨c.ts[n].ps, c.ts[n].vs, s⟩, c.os⟩ W := ⟨x1, x6, hgw, o4, hRw, R7, T7⟩
            clear hW x1 x6 R7 T7 o4 hgw hRw
            obtain ⟨k9, hk9⟩ : ∃ k9 : Crd, k9 = ⟨c.ts.set n ⟨c.ts[n].ps, c.ts[n].vs, s⟩, c.os⟩ := ⟨_, rfl⟩
            rw [← hk9] at S HSM
            clear hk9
            obtain ⟨t0, t1, tf⟩ := id S.1.reads
            have tf0 := tf 0
            have tf1 := tf 1
            obtain ⟨u0, u1, -⟩ := id S.2.1.reads
            have o10 := (S.2.2.2.1.keptT (by decide) (by decide) (by decide) (by decide) (but_set W w.heap.size 0 (.slice (some ⟨gT, 0, none⟩) c.ts.length ca)) (blk_type S.1)).keptT (by decide) (by decide) (by decide) (by decide) (but_set _ w.heap.size 1 (.slice Ab c.os.length cb)) (blk_type (S.1.set0 (.slice (some ⟨gT, 0, none⟩) c.ts.length ca)))
            have R10 := (S.2.2.2.2.2.1.far S.2.2.2.2.1 0 (.slice (some ⟨gT, 0, none⟩) c.ts.length ca)).far S.2.2.2.2.1 1 (.slice Ab c.os.length cb)
            have T10 := (S.2.2.2.2.2.2.set_new (Nat.le_refl w.heap.size) 0 (.slice (some ⟨gT, 0, none⟩) c.ts.length ca)).set_new (Nat.le_refl w.heap.size) 1 (.slice Ab c.os.length cb)
            obtain ⟨p0, p1, -⟩ := ((S.1.set0 (.slice (some ⟨gT, 0, none⟩) c.ts.length ca)).set1 (.slice Ab c.os.length cb)).reads
            clear tf S
            go_wp2
            exact bodyPost_ret (v := .agg #[.slice (some ⟨gT, 0, none⟩) c.ts.length ca, .slice Ab c.os.length cb]) (by simp [results, Try.results33, go_sem, p0, p1]) rfl ⟨_, k9, _, rfl, o10, HSM.out, R10.more (by push_cast; omega), T10⟩
          · have e5 : (d5 == 0) = false := by rw [beq_eq_false_iff_ne]; exact h0
            by_cases h1 : d5 = 1
            · have e6 : (d5 == 1) = true := by rw [h1]; rfl
              clear h0 h1 d50 d51
              have y1f := yf 1
              clear yf
              have oI := S.2.2.2.1.parts.2.1
              have rI := World.ownsRow.alloc oI (.cells #[.int .i64 n] 3)
              have zI := S.size
              have hRw := S.2.2.2.2.1
              have hgw := S.2.2.1
              have R7 := S.2.2.2.2.2.1
              have T7 := S.2.2.2.2.2.2
              have HP := hid (cr_order_ (n := (n : Int)) S.2.2.2.1 S.1 S.2.1 (by omega) (by omega) zI)
              clear S oI
              go_upto_region 30 with (at_builtin; go_must (refine wpList_append_own_at _ rfl _ _ 24 rfl w.heap.size 3 i1 (.int .i64 0) 1 8 Try.underlying24 hj hy0 hy1 hy2 rfl (by decide) (.slice Ab c.os.length cb) c.os.length _ rfl rI ⟨w6.heap.size, 0, none⟩ 1 1 [.int .i64 n] rfl rfl (cell_one_new _ _ _) (one_int _) (by unfold maxLen; omega) (by omega) (by simp; omega) ?_); intro v7 w7 hown hg _ hat; obtain ⟨A7, c7, col7, rfl, ⟨v4, t4⟩, f4, x1, x6, b1, o9⟩ := HP.out _ _ hown hg hat)
              obtain ⟨W, hW⟩ : ∃ x, w7.setCell ⟨g, 1, none⟩ (.slice A7 (c.os.length + 1) c7) = x := ⟨_, rfl⟩
              rw [hW] at x1 x6 b1 o9 ⊢
              replace R7 := R7.below b1 hRw
              replace T7 : But R w W := ⟨b1.os.trans T7.os, b1.tape.trans T7.tape, b1.output.trans T7.output, Nat.le_trans T7.size b1.size, fun j hj hne => (b1.block j hj).trans (T7.block j hj hne)⟩
              have HSM : Hid (SmC ⟨c.ts, c.os ++ [(n : Int)]⟩) := ⟨HF.out.ts, by show (c.os ++ [(n : Int)]).length ≤ 13; simp; omega, HF.out.ps, HF.out.us⟩
              have S : DrC w R g _ (.slice (some ⟨gT, 0, none⟩) c.ts.length ca) (.slice A7 (c.os.length + 1) c7) col7 ⟨c.ts, c.os ++ [(n : Int)]⟩ W := ⟨x1, x6, hgw, o9, hRw, R7, T7⟩
              clear hW x1 x6 b1 R7 T7 o9 hgw hRw t4 f4 HP rI hown hg hat y0 y1 y1f e5 e6
              obtain ⟨k9, hk9⟩ : ∃ k9 : Crd, k9 = ⟨c.ts, c.os ++ [(n : Int)]⟩ := ⟨_, rfl⟩
              rw [← hk9] at S HSM
              clear hk9
              obtain ⟨t0, t1, tf⟩ := id S.1.reads
              have tf0 := tf 0
              have tf1 := tf 1
              obtain ⟨u0, u1, -⟩ := id S.2.1.reads
              have o10 := (S.2.2.2.1.keptT (by decide) (by decide) (by decide) (by decide) (but_set W w.heap.size 0 (.slice (some ⟨gT, 0, none⟩) c.ts.length ca)) (blk_type S.1)).keptT (by decide) (by decide) (by decide) (by decide) (but_set _ w.heap.size 1 (.slice A7 (c.os.length + 1) c7)) (blk_type (S.1.set0 (.slice (some ⟨gT, 0, none⟩) c.ts.length ca)))
              have R10 := (S.2.2.2.2.2.1.far S.2.2.2.2.1 0 (.slice (some ⟨gT, 0, none⟩) c.ts.length ca)).far S.2.2.2.2.1 1 (.slice A7 (c.os.length + 1) c7)
              have T10 := (S.2.2.2.2.2.2.set_new (Nat.le_refl w.heap.size) 0 (.slice (some ⟨gT, 0, none⟩) c.ts.length ca)).set_new (Nat.le_refl w.heap.size) 1 (.slice A7 (c.os.length + 1) c7)
              obtain ⟨p0, p1, -⟩ := ((S.1.set0 (.slice (some ⟨gT, 0, none⟩) c.ts.length ca)).set1 (.slice A7 (c.os.length + 1) c7)).reads
              clear tf S
              go_wp2
              exact bodyPost_ret (v := .agg #[.slice (some ⟨gT, 0, none⟩) c.ts.length ca, .slice A7 (c.os.length + 1) c7]) (by simp [results, Try.results33, go_sem, p0, p1]) rfl ⟨_, k9, _, rfl, o10, HSM.out, R10.more (by push_cast; omega), T10⟩
            · have e6 : (d5 == 1) = false := by rw [beq_eq_false_iff_ne]; exact h1
              by_cases h2 : d5 = 2
              · have e7 : (d5 == 2) = true := by rw [h2]; rfl
                clear h0 h1 h2 d50 d51 yf
                have hvl : 0 < c.ts[n].vs.length := by
                  have hv := HV.out.txs _ (List.getElem_mem hn)
                  rw [hv.len]
                  exact List.length_pos_iff.2 hv.parts.1
                obtain ⟨g2, c9, r0, r1, r2, r3, ⟨cs2, fr2, hty2⟩, HVo⟩ := cr_vote (k := 0) S.2.2.2.1 rfl hn hvl
                have hgT : gT < w6.heap.size := by
                  obtain ⟨cs, fr, hty⟩ := S.2.2.2.1.head rfl hn
                  exact blk_lt hty
                have hg2l : g2 < w6.heap.size := blk_lt hty2
                have hgTB : w.heap.size ≤ gT := (cr_dec S.2.2.2.1 rfl hn 0).2.2.1
                clear r1 r2 HVo hty2
                have hvl2 := hps.2
                obtain ⟨vl, hvle⟩ : ∃ vl, c.ts[n].vs.length = vl := ⟨_, rfl⟩
                have HVL := hid hvle
                rw [hvle] at r0 hvl hvl2
                have k0 : (0 : Int) ≤ (n : Int) := by omega
                have k1 : (n : Int) < (c.ts.length : Int) := by omega
                have k2 : decide ((0 : Int) < (vl : Int)) = true := decide_eq_true (by omega)
                have k3 : (0 : Int) < (vl : Int) := by omega
                clear hvle
                go_wp2_with fail
                refine wp_region_held_drew (S := fun x => (x.cell? ⟨g, 0, none⟩ = some (.slice (some ⟨gT, 0, none⟩) c.ts.length ca) ∧ x.cell? ⟨g, 1, none⟩ = some (.slice Ab c.os.length cb)) ∧ x.cell? ⟨gT, n * 3 + 1, none⟩ = some (.slice (some ⟨g2, 0, none⟩) vl c9)) (by kernel_rfl) ⟨⟨(S.call (Below.refl _ _).drew).2.1.reads.1, (S.call (Below.refl _ _).drew).2.1.reads.2.1⟩, r0⟩ (fun hHeld => ?_)
                have Bd := (Below.refl w6.heap.size w6).drew
                replace S := S.call Bd
                have hRw := S.2.2.2.2.1
                replace hgT := Nat.lt_of_lt_of_le hgT Bd.size
                replace hg2l := Nat.lt_of_lt_of_le hg2l Bd.size
                clear Bd
                obtain ⟨W, hW⟩ : ∃ x, w6.drew = x := ⟨_, rfl⟩
                have r0W : W.cell? ⟨gT, n * 3 + 1, none⟩ = some (.slice (some ⟨g2, 0, none⟩) vl c9) := by rw [← hW]; exact r0
                rw [hW] at S hHeld hgT hg2l ⊢
                clear hW y0 y1 e5 e6 e7 r0
                try simp only [Act.put, List.getElem_toArray, List.getElem_cons_succ, List.getElem_cons_zero, List.setIfInBounds_toArray, List.set_cons_zero, List.set_cons_succ]
                refine wpAnyH_take (i := 0) (oi := _) (v := ?_) rfl (by kernel_rfl) (by kernel_rfl) (by kernel_rfl) (fun _ _ _ h => h) (Or.inl ⟨by rfl, ?_⟩) hHeld ?_
                rotate_left
                · (intro w' hSw; (try dsimp only at hSw); go_simp <;> with_reducible rfl)
                try simp only [Act.put, List.getElem_toArray, List.getElem_cons_succ, List.getElem_cons_zero, List.setIfInBounds_toArray, List.set_cons_zero, List.set_cons_succ]
                refine wpAnyH_take (i := 1) (oi := _) (v := ?_) rfl (by kernel_rfl) (by kernel_rfl) (by kernel_rfl) (fun _ _ _ h => h) (Or.inl ⟨by rfl, ?_⟩) hHeld ?_
                rotate_left
                · (intro w' hSw; (try dsimp only at hSw); go_simp <;> with_reducible rfl)
                try simp only [Act.put, List.getElem_toArray, List.getElem_cons_succ, List.getElem_cons_zero, List.setIfInBounds_toArray, List.set_cons_zero, List.set_cons_succ]
                refine wpAnyH_take (i := 2) (oi := _) (v := ?_) rfl (by kernel_rfl) (by kernel_rfl) (by kernel_rfl) (fun _ _ _ h => h) (Or.inl ⟨by rfl, ?_⟩) hHeld ?_
                rotate_left
                · (intro w' hSw; (try dsimp only at hSw); go_simp <;> with_reducible rfl)
                try simp only [Act.put, List.getElem_toArray, List.getElem_cons_succ, List.getElem_cons_zero, List.setIfInBounds_toArray, List.set_cons_zero, List.set_cons_succ]
                refine wpAnyH_take (i := 3) (oi := _) (v := ?_) rfl (by kernel_rfl) (by kernel_rfl) (by kernel_rfl) (fun _ _ _ h => h) (Or.inl ⟨by rfl, ?_⟩) hHeld ?_
                rotate_left
                · (intro w' hSw; (try dsimp only at hSw); go_simp <;> with_reducible rfl)
                try simp only [Act.put, List.getElem_toArray, List.getElem_cons_succ, List.getElem_cons_zero, List.setIfInBounds_toArray, List.set_cons_zero, List.set_cons_succ]
                refine wpAnyH_take (i := 4) (oi := _) (v := ?_) rfl (by kernel_rfl) (by kernel_rfl) (by kernel_rfl) (fun _ _ _ h => h) (Or.inl ⟨by rfl, ?_⟩) hHeld ?_
                rotate_left
                · (intro w' hSw; (try dsimp only at hSw); go_simp <;> with_reducible rfl)
                try simp only [Act.put, List.getElem_toArray, List.getElem_cons_succ, List.getElem_cons_zero, List.setIfInBounds_toArray, List.set_cons_zero, List.set_cons_succ]
                refine wpAnyH_take (i := 5) (oi := _) (v := ?_) rfl (by kernel_rfl) (by kernel_rfl) (by kernel_rfl) (fun _ _ _ h => h) (Or.inl ⟨by rfl, ?_⟩) hHeld ?_
                rotate_left
                · (intro w' hSw; (try dsimp only at hSw); go_simp <;> with_reducible rfl)
                try simp only [Act.put, List.getElem_toArray, List.getElem_cons_succ, List.getElem_cons_zero, List.setIfInBounds_toArray, List.set_cons_zero, List.set_cons_succ]
                refine wpAnyH_take (i := 6) (oi := _) (v := ?_) rfl (by kernel_rfl) (by kernel_rfl) (by kernel_rfl) (fun _ _ _ h => h) (Or.inl ⟨by rfl, ?_⟩) hHeld ?_
                rotate_left
                · (intro w' hSw; (try dsimp only at hSw); go_simp <;> with_reducible rfl)
                try simp only [Act.put, List.getElem_toArray, List.getElem_cons_succ, List.getElem_cons_zero, List.setIfInBounds_toArray, List.set_cons_zero, List.set_cons_succ]
                refine wpAnyH_ready (rs := [7]) (by kernel_rfl) (by simp) (AllReadyH.cons (o := _) rfl (fun K hK => ?_) AllReadyH.nil)
                try simp only [Act.put, List.getElem_toArray, List.getElem_cons_succ, List.getElem_cons_zero, List.setIfInBounds_toArray, List.set_cons_zero, List.set_cons_succ]
                go_simp
                go_at_call 34
                refine (pick_any R _ 4 _ S.2.2.2.2.2.1 (by omega) (by omega) (by omega)).mono ?_
                rintro e W ⟨s, rfl, s0, s1, R6, T6⟩
                replace S := S.pick R6 T6
                replace r0W := (T6.cell (n * 3 + 1) hgT (by omega)).trans r0W
                clear R6 T6
                refine hK.out _ _ ⟨⟨S.2.1.reads.1, S.2.1.reads.2.1⟩, r0W⟩ (fun hHeld => ?_)
                clear hK K
                try simp only [Act.put, List.getElem_toArray, List.getElem_cons_succ, List.getElem_cons_zero, List.setIfInBounds_toArray, List.set_cons_zero, List.set_cons_succ]
                have e9 : IntKind.i64.wrap (s - 2) = s - 2 := IntWalk.i64_in _ (by omega)
                refine wpAnyH_take (i := 8) (oi := _) (v := ?_) rfl (by kernel_rfl) (by kernel_rfl) (by kernel_rfl) (fun _ _ _ h => h) (Or.inl ⟨by rfl, ?_⟩) hHeld ?_
                rotate_left
                · (intro w' hSw; (try dsimp only at hSw); go_simp <;> with_reducible rfl)
                try simp only [Act.put, List.getElem_toArray, List.getElem_cons_succ, List.getElem_cons_zero, List.setIfInBounds_toArray, List.set_cons_zero, List.set_cons_succ]
                refine wpAnyH_take (i := 9) (oi := _) (v := ?_) rfl (by kernel_rfl) (by kernel_rfl) (by kernel_rfl) (fun _ _ _ h => h) (Or.inl ⟨by rfl, ?_⟩) hHeld ?_
                rotate_left
                · (intro w' hSw; (try dsimp only at hSw); go_simp <;> with_reducible rfl)
                try simp only [Act.put, List.getElem_toArray, List.getElem_cons_succ, List.getElem_cons_zero, List.setIfInBounds_toArray, List.set_cons_zero, List.set_cons_succ]
                obtain ⟨g2', c9', r0, r1, r2, r3, ⟨cs2, fr2, hty2⟩, HVo⟩ := cr_vote (k := 0) S.2.2.2.1 rfl hn (by rw [HVL.out]; exact hvl)
                rw [r0W] at r0
                injection r0 with r0
                injection r0 with r0 r00 r000
                injection r0 with r0
                injection r0 with r0
                subst r0
                clear r00 r000
                have o4 := HVo (s - 2)
                obtain ⟨cs3, fr3, hty3⟩ := S.2.2.2.1.head rfl hn
                have n1 := ty_ne S.1 hty2 (by decide)
                have n6 := ty_ne S.2.1 hty2 (by decide)
                have n7 := ty_ne hty3 hty2 (by decide)
                have x1 := S.1.far (p := ⟨g2, 0, none⟩) n1 (.int .i64 (s - 2))
                have x6 := S.2.1.far (p := ⟨g2, 0, none⟩) n6 (.int .i64 (s - 2))
                have R7 := S.2.2.2.2.2.1.far (g := g2) (by omega) 0 (.int .i64 (s - 2))
                have T7 := S.2.2.2.2.2.2.set_new (g := g2) r3 0 (.int .i64 (s - 2))
                have hgw := S.2.2.1
                have r0X : (W.setCell ⟨g2, 0, none⟩ (.int .i64 (s - 2))).cell? ⟨gT, n * 3 + 1, none⟩ = some (.slice (some ⟨g2, 0, none⟩) vl c9) := (World.cell?_setCell_far W ⟨g2, 0, none⟩ ⟨gT, n * 3 + 1, none⟩ _ (fun e => n7 e.symm)).trans r0W
                clear S hty2 hty3 HVo r0W
                refine wpAnyH_ready (rs := [10]) (by kernel_rfl) (by simp) (AllReadyH.cons (o := _) rfl (fun K hK => ?_) AllReadyH.nil)
                try simp only [Act.put, List.getElem_toArray, List.getElem_cons_succ, List.getElem_cons_zero, List.setIfInBounds_toArray, List.set_cons_zero, List.set_cons_succ]
                go_simp
                refine hK.out _ _ ⟨⟨x6.reads.1, x6.reads.2.1⟩, r0X⟩ (fun hHeld => ?_)
                clear hK K
                try simp only [Act.put, List.getElem_toArray, List.getElem_cons_succ, List.getElem_cons_zero, List.setIfInBounds_toArray, List.set_cons_zero, List.set_cons_succ]
                refine wpAnyH_done (by kernel_rfl) ?_ _
                clear hHeld r0X r1 r2
                obtain ⟨W, hW⟩ : ∃ x, W.setCell ⟨g2, 0, none⟩ (.int .i64 (s - 2)) = x := ⟨_, rfl⟩
                rw [hW] at x1 x6 R7 T7 o4 ⊢
                have HSM : Hid (SmC ⟨c.ts.set n ⟨c.ts[n].ps, c.ts[n].vs.set 0 (s - 2), c.ts[n].d⟩, c.os⟩) := HF.out.set ⟨hps.1, by rw [List.length_set]; exact hps.2⟩ hus
                have S : DrC w R g _ (.slice (some ⟨gT, 0, none⟩) c.ts.length ca) (.slice Ab c.os.length cb) col ⟨c.ts.set n ⟨c.ts[n].ps, c.ts[n].vs.set 0 (s - 2), c.ts[n].d⟩, c.os⟩ W := ⟨x1, x6, hgw, o4, hRw, R7, T7⟩
                clear hW x1 x6 R7 T7 o4 hgw
                obtain ⟨k9, hk9⟩ : ∃ k9 : Crd, k9 = ⟨c.ts.set n ⟨c.ts[n].ps, c.ts[n].vs.set 0 (s - 2), c.ts[n].d⟩, c.os⟩ := ⟨_, rfl⟩
                rw [← hk9] at S HSM
                clear hk9
                obtain ⟨t0, t1, tf⟩ := id S.1.reads
                have tf0 := tf 0
                have tf1 := tf 1
                obtain ⟨u0, u1, -⟩ := id S.2.1.reads
                have o10 := (S.2.2.2.1.keptT (by decide) (by decide) (by decide) (by decide) (but_set W w.heap.size 0 (.slice (some ⟨gT, 0, none⟩) c.ts.length ca)) (blk_type S.1)).keptT (by decide) (by decide) (by decide) (by decide) (but_set _ w.heap.size 1 (.slice Ab c.os.length cb)) (blk_type (S.1.set0 (.slice (some ⟨gT, 0, none⟩) c.ts.length ca)))
                have R10 := (S.2.2.2.2.2.1.far S.2.2.2.2.1 0 (.slice (some ⟨gT, 0, none⟩) c.ts.length ca)).far S.2.2.2.2.1 1 (.slice Ab c.os.length cb)
                have T10 := (S.2.2.2.2.2.2.set_new (Nat.le_refl w.heap.size) 0 (.slice (some ⟨gT, 0, none⟩) c.ts.length ca)).set_new (Nat.le_refl w.heap.size) 1 (.slice Ab c.os.length cb)
                obtain ⟨p0, p1, -⟩ := ((S.1.set0 (.slice (some ⟨gT, 0, none⟩) c.ts.length ca)).set1 (.slice Ab c.os.length cb)).reads
                clear tf S
                go_wp2
                exact bodyPost_ret (v := .agg #[.slice (some ⟨gT, 0, none⟩) c.ts.length ca, .slice Ab c.os.length cb]) (by simp [results, Try.results33, go_sem, p0, p1]) rfl ⟨_, k9, _, rfl, o10, HSM.out, R10.more (by push_cast; omega), T10⟩
              · have e7 : (d5 == 2) = false := by rw [beq_eq_false_iff_ne]; exact h2
                clear h0 h1 h2 d50 d51 yf
                have HSM := HF
                go_upto_region 30 with fail
                obtain ⟨W, hW⟩ : ∃ x, w6 = x := ⟨_, rfl⟩
                rw [hW] at S ⊢
                clear hW y0 y1 e5 e6 e7
                obtain ⟨t0, t1, tf⟩ := id S.1.reads
                have tf0 := tf 0
                have tf1 := tf 1
                obtain ⟨u0, u1, -⟩ := id S.2.1.reads
                have o10 := (S.2.2.2.1.keptT (by decide) (by decide) (by decide) (by decide) (but_set W w.heap.size 0 (.slice (some ⟨gT, 0, none⟩) c.ts.length ca)) (blk_type S.1)).keptT (by decide) (by decide) (by decide) (by decide) (but_set _ w.heap.size 1 (.slice Ab c.os.length cb)) (blk_type (S.1.set0 (.slice (some ⟨gT, 0, none⟩) c.ts.length ca)))
                have R10 := (S.2.2.2.2.2.1.far S.2.2.2.2.1 0 (.slice (some ⟨gT, 0, none⟩) c.ts.length ca)).far S.2.2.2.2.1 1 (.slice Ab c.os.length cb)
                have T10 := (S.2.2.2.2.2.2.set_new (Nat.le_refl w.heap.size) 0 (.slice (some ⟨gT, 0, none⟩) c.ts.length ca)).set_new (Nat.le_refl w.heap.size) 1 (.slice Ab c.os.length cb)
                obtain ⟨p0, p1, -⟩ := ((S.1.set0 (.slice (some ⟨gT, 0, none⟩) c.ts.length ca)).set1 (.slice Ab c.os.length cb)).reads
                clear tf S
                go_wp2
                exact bodyPost_ret (v := .agg #[.slice (some ⟨gT, 0, none⟩) c.ts.length ca, .slice Ab c.os.length cb]) (by simp [results, Try.results33, go_sem, p0, p1]) rfl ⟨_, c, _, rfl, o10, HSM.out, R10.more (by push_cast; omega), T10⟩
  · have e0 : (d == 0) = false := by rw [beq_eq_false_iff_ne]; exact hd
    clear hd
    have h50 : n0 ≤ 50 := by omega
    go_wp2_with fail
    go_loopw [5] (fun i wr => ∃ (k : Nat) (c : Crd) (Aa Ab : Option Addr) (ca cb : Nat) (col : Nat → Nat), k ≤ 50 ∧ i = .int .i64 k ∧ Hid (CV c) ∧ DrC w R g (q + 2 + 210 * k) (.slice Aa c.ts.length ca) (.slice Ab c.os.length cb) col c wr) (fun i _ => 50 - (intOf i).toNat)
    case atStart => exact ⟨0, none_, _, _, _, _, _, Nat.zero_le _, rfl, none_valid, S0.more (by omega)⟩
    case round =>
      clear S0
      obtain ⟨k, c, Aa, Ab, ca, cb, col, hk, rfl, HV, S⟩ := hrel
      have hf := (cv_few HV.out).1
      have hcl := hf.ts
      have hol := (cv_few HV.out).2
      have HF := hid hf
      obtain ⟨y0, y1, -⟩ := id S.2.1.reads
      by_cases hlt : (k : Int) < n0
      · have hk50 : k < 50 := by omega
        have e1 : decide ((k : Int) < n0) = true := decide_eq_true hlt
        have al := (Below.refl wr.heap.size wr).alloc (Nat.le_refl _) (.cells #[.slice Aa c.ts.length ca, .slice Ab c.os.length cb] 26)
        have xn := Blk2s.new_ wr 26 (.slice Aa c.ts.length ca) (.slice Ab c.os.length cb)
        have hgn : g < wr.heap.size := S.2.1.lt
        replace S := S.call al
        have o9 := S.2.2.2.1
        clear hf
        go_upto_region 9 with fail
        clear e1
        obtain ⟨wn, hwn⟩ : ∃ x, wr.alloc (.cells #[.slice Aa c.ts.length ca, .slice Ab c.os.length cb] 26) = x := ⟨_, rfl⟩
        obtain ⟨gn, hgg⟩ : ∃ x, wr.heap.size = x := ⟨_, rfl⟩
        rw [hwn] at S xn o9 ⊢
        rw [hgg] at hgn xn ⊢
        clear hwn hgg al y0 y1
        obtain ⟨y0, y1, -⟩ := id S.2.1.reads
        by_cases hmx : (1 : Int) ≤ (c.ts.length : Int)
        · go_wp2_with fail
          refine (pick_any R _ (c.ts.length : Int) _ S.2.2.2.2.2.1 (by omega) (by omega) (by omega)).mono ?_
          rintro e w5 ⟨t, rfl, t0, t1, R5, T5⟩
          replace S := S.pick R5 T5
          replace xn := xn.but_ T5 (by have := S.2.2.2.2.1; have := S.2.2.1; omega)
          clear R5 T5 y0 y1
          obtain ⟨y0, y1, -⟩ := id S.2.1.reads
          clear hmx o9
          go_wp2_with fail
          refine (pick_any R _ 5 _ S.2.2.2.2.2.1 (by omega) (by omega) (by omega)).mono ?_
          rintro e w6 ⟨d5, rfl, d50, d51, R5, T5⟩
          replace S := S.pick R5 T5
          replace xn := xn.but_ T5 (by have := S.2.2.2.2.1; have := S.2.2.1; omega)
          clear R5 T5 y0 y1
          obtain ⟨y0, y1, -⟩ := id S.2.1.reads
          by_cases h0 : d5 = 0
          · have e5 : (d5 == 0) = true := by rw [h0]; rfl
            clear h0 d50 d51
            go_wp2_with fail
            refine wp_region_held_drew (S := fun x => x.cell? ⟨g, 0, none⟩ = some (.slice Aa c.ts.length ca) ∧ x.cell? ⟨g, 1, none⟩ = some (.slice Ab c.os.length cb)) (by kernel_rfl) ⟨(S.call (Below.refl _ _).drew).2.1.reads.1, (S.call (Below.refl _ _).drew).2.1.reads.2.1⟩ (fun hHeld => ?_)
            replace S := S.call (Below.refl _ _).drew
            replace xn := xn.later (Below.refl _ _).drew
            obtain ⟨W, hW⟩ : ∃ x, w6.drew = x := ⟨_, rfl⟩
            rw [hW] at S xn hHeld ⊢
            clear hW y0 y1 e5
            try simp only [Act.put, List.getElem_toArray, List.getElem_cons_succ, List.getElem_cons_zero, List.setIfInBounds_toArray, List.set_cons_zero, List.set_cons_succ]
            refine wpAnyH_take (i := 0) (oi := _) (v := ?_) rfl (by kernel_rfl) (by kernel_rfl) (by kernel_rfl) (fun _ _ _ h => h) (Or.inl ⟨by rfl, ?_⟩) hHeld ?_
            rotate_left
            · (intro w' hSw; (try dsimp only at hSw); go_simp <;> with_reducible rfl)
            try simp only [Act.put, List.getElem_toArray, List.getElem_cons_succ, List.getElem_cons_zero, List.setIfInBounds_toArray, List.set_cons_zero, List.set_cons_succ]
            refine wpAnyH_take (i := 1) (oi := _) (v := ?_) rfl (by kernel_rfl) (by kernel_rfl) (by kernel_rfl) (fun _ _ _ h => h) (Or.inl ⟨by rfl, ?_⟩) hHeld ?_
            rotate_left
            · (intro w' hSw; (try dsimp only at hSw); go_simp <;> with_reducible rfl)
            try simp only [Act.put, List.getElem_toArray, List.getElem_cons_succ, List.getElem_cons_zero, List.setIfInBounds_toArray, List.set_cons_zero, List.set_cons_succ]
            refine wpAnyH_ready (rs := [2]) (by kernel_rfl) (by simp) (AllReadyH.cons (o := _) rfl (fun K hK => ?_) AllReadyH.nil)
            try simp only [Act.put, List.getElem_toArray, List.getElem_cons_succ, List.getElem_cons_zero, List.setIfInBounds_toArray, List.set_cons_zero, List.set_cons_succ]
            go_simp
            go_at_call 57
            refine (l92Parts_any R _ W S.2.2.2.2.2.1 (by omega)).mono ?_
            rintro e W ⟨vp, ps, rfl, op, hpl, hsm, R6, T6⟩
            replace S := S.pick R6 T6
            replace xn := xn.but_ T6 (by have := S.2.2.2.2.1; have := S.2.2.1; omega)
            obtain ⟨Ap, cp, rfl, rp, -⟩ := op.form
            have HSM := hid hsm
            clear R6 T6 op hsm
            refine hK.out _ _ ⟨S.2.1.reads.1, S.2.1.reads.2.1⟩ (fun hHeld => ?_)
            clear hK K
            try simp only [Act.put, List.getElem_toArray, List.getElem_cons_succ, List.getElem_cons_zero, List.setIfInBounds_toArray, List.set_cons_zero, List.set_cons_succ]
            refine wpAnyH_ready (rs := [3]) (by kernel_rfl) (by simp) (AllReadyH.cons (o := _) rfl (fun K hK => ?_) AllReadyH.nil)
            try simp only [Act.put, List.getElem_toArray, List.getElem_cons_succ, List.getElem_cons_zero, List.setIfInBounds_toArray, List.set_cons_zero, List.set_cons_succ]
            go_simp
            go_at_call 56
            obtain ⟨x, b2, hx⟩ := begun_ex c ps
            refine (specCoordinatorBegin_is x b2 _ c Ap cp ps W S.2.2.2.1.crd HF.out.fit rp (by omega) (fun p hp => by have := HSM.out p hp; omega) hx).mono ?_
            rintro e W ⟨v9, col9, rfl, o9', d9⟩
            have hxv := hx.valid
            have zz := S.size
            replace S := S.call d9
            replace xn := xn.later d9
            have o9 := o9'.base zz
            obtain ⟨A9, c9, B9, e9, rfl, -⟩ := o9.form
            unfold crV at o9 ⊢
            clear hx zz d9 o9'
            refine hK.out _ _ ⟨S.2.1.reads.1, S.2.1.reads.2.1⟩ (fun hHeld => ?_)
            clear hK K
            try simp only [Act.put, List.getElem_toArray, List.getElem_cons_succ, List.getElem_cons_zero, List.setIfInBounds_toArray, List.set_cons_zero, List.set_cons_succ]
            refine wpAnyH_take (i := 4) (oi := _) (v := ?_) rfl (by kernel_rfl) (by kernel_rfl) (by kernel_rfl) (fun _ _ _ h => h) (Or.inl ⟨by rfl, ?_⟩) hHeld ?_
            rotate_left
            · (intro w' hSw; (try dsimp only at hSw); go_simp <;> with_reducible rfl)
            try simp only [Act.put, List.getElem_toArray, List.getElem_cons_succ, List.getElem_cons_zero, List.setIfInBounds_toArray, List.set_cons_zero, List.set_cons_succ]
            refine wpAnyH_take (i := 5) (oi := _) (v := ?_) rfl (by kernel_rfl) (by kernel_rfl) (by kernel_rfl) (fun _ _ _ h => h) (Or.inl ⟨by rfl, ?_⟩) hHeld ?_
            rotate_left
            · (intro w' hSw; (try dsimp only at hSw); go_simp <;> with_reducible rfl)
            try simp only [Act.put, List.getElem_toArray, List.getElem_cons_succ, List.getElem_cons_zero, List.setIfInBounds_toArray, List.set_cons_zero, List.set_cons_succ]
            refine wpAnyH_take (i := 6) (oi := _) (v := ?_) rfl (by kernel_rfl) (by kernel_rfl) (by kernel_rfl) (fun _ _ _ h => h) (Or.inl ⟨by rfl, ?_⟩) hHeld ?_
            rotate_left
            · (intro w' hSw; (try dsimp only at hSw); go_simp <;> with_reducible rfl)
            try simp only [Act.put, List.getElem_toArray, List.getElem_cons_succ, List.getElem_cons_zero, List.setIfInBounds_toArray, List.set_cons_zero, List.set_cons_succ]
            obtain ⟨z0, z1, zff⟩ := id xn.reads
            have zf0 := zff 0
            have zf1 := zff 1
            have S9 := (S.stored xn hgn 0 (.slice A9 x.ts.length c9)).stored (xn.set0 (.slice A9 x.ts.length c9)) hgn 1 (.slice B9 x.os.length e9)
            have o8 := (o9.keptT (by decide) (by decide) (by decide) (by decide) (but_set W gn 0 (.slice A9 x.ts.length c9)) (blk_type xn)).keptT (by decide) (by decide) (by decide) (by decide) (but_set _ gn 1 (.slice B9 x.os.length e9)) (blk_type (xn.set0 (.slice A9 x.ts.length c9)))
            have x8 := (xn.set0 (.slice A9 x.ts.length c9)).set1 (.slice B9 x.os.length e9)
            clear zff
            refine wpAnyH_ready (rs := [7]) (by kernel_rfl) (by simp) (AllReadyH.cons (o := _) rfl (fun K hK => ?_) AllReadyH.nil)
            try simp only [Act.put, List.getElem_toArray, List.getElem_cons_succ, List.getElem_cons_zero, List.setIfInBounds_toArray, List.set_cons_zero, List.set_cons_succ]
            go_simp
            refine hK.out _ _ ⟨S9.2.1.reads.1, S9.2.1.reads.2.1⟩ (fun hHeld => ?_)
            clear hK K
            try simp only [Act.put, List.getElem_toArray, List.getElem_cons_succ, List.getElem_cons_zero, List.setIfInBounds_toArray, List.set_cons_zero, List.set_cons_succ]
            refine wpAnyH_done (by kernel_rfl) ?_ _
            clear S xn o9 z0 z1 zf0 zf1 hHeld
            obtain ⟨W, hWW⟩ : ∃ wz, (W.setCell ⟨gn, 0, none⟩ (.slice A9 x.ts.length c9)).setCell ⟨gn, 1, none⟩ (.slice B9 x.os.length e9) = wz := ⟨_, rfl⟩
            rw [hWW] at S9 o8 x8 ⊢
            have S := S9
            have o9 := o8
            have xn := x8
            clear S9 o8 x8 hWW
            have HVn := hid hxv
            have CW := hid (specCoordinatorValid_is true (.agg #[.slice A9 x.ts.length c9, .slice B9 x.os.length e9]) x W o9.crd (cv_few hxv).1.fit ⟨fun _ => hxv, fun _ => rfl⟩)
            obtain ⟨u0, u1, -⟩ := id xn.reads
            clear hxv
            go_wp2_with fail
            refine CW.out.mono ?_
            rintro e wg ⟨rfl, dg⟩
            replace S := S.call dg
            replace xn := xn.later dg
            replace o9 := o9.below dg
            clear CW dg u0 u1
            obtain ⟨u0, u1, -⟩ := id xn.reads
            obtain ⟨y0, y1, yf⟩ := id S.2.1.reads
            have yf0 := yf 0
            have yf1 := yf 1
            have S9 := S.next o9
            clear yf xn o9 S
            go_wp2
            go_roundw
            case rel => exact ⟨k + 1, x, _, _, _, _, _, by omega, by go_num, HVn, S9.more (by push_cast; omega)⟩
            case measure => simp [intOf]; omega
          · have e5 : (d5 == 0) = false := by rw [beq_eq_false_iff_ne]; exact h0
            by_cases h1 : d5 = 1
            · have e6 : (d5 == 1) = true := by rw [h1]; rfl
              clear h0 h1 d50 d51
              go_wp2_with fail
              refine (pick_any R _ 3 _ S.2.2.2.2.2.1 (by omega) (by omega) (by omega)).mono ?_
              rintro e w7 ⟨d6, rfl, d60, d61, R5, T5⟩
              replace S := S.pick R5 T5
              replace xn := xn.but_ T5 (by have := S.2.2.2.2.1; have := S.2.2.1; omega)
              clear R5 T5 y0 y1
              obtain ⟨y0, y1, -⟩ := id S.2.1.reads
              by_cases h3 : d6 = 0
              · have e7 : (d6 == 0) = true := by rw [h3]; rfl
                clear h3 d60 d61
                obtain ⟨x, b2, hx⟩ := late_ex c t
                have CT := hid (specCoordinatorTimeout_is x b2 _ c t w7 S.2.2.2.1.crd HF.out.fit hx)
                go_wp2_with fail
                refine CT.out.mono ?_
                rintro e W ⟨v9, col9, rfl, o9', d9⟩
                have hxv := hx.valid
                have zz := S.size
                replace S := S.call d9
                replace xn := xn.later d9
                have o9 := o9'.base zz
                obtain ⟨A9, c9, B9, e9, rfl, -⟩ := o9.form
                unfold crV at o9 ⊢
                clear CT hx zz d9 o9' y0 y1 e5 e6 e7
                obtain ⟨z0, z1, zff⟩ := id xn.reads
                have zf0 := zff 0
                have zf1 := zff 1
                have S9 := (S.stored xn hgn 0 (.slice A9 x.ts.length c9)).stored (xn.set0 (.slice A9 x.ts.length c9)) hgn 1 (.slice B9 x.os.length e9)
                have o8 := (o9.keptT (by decide) (by decide) (by decide) (by decide) (but_set W gn 0 (.slice A9 x.ts.length c9)) (blk_type xn)).keptT (by decide) (by decide) (by decide) (by decide) (but_set _ gn 1 (.slice B9 x.os.length e9)) (blk_type (xn.set0 (.slice A9 x.ts.length c9)))
                have x8 := (xn.set0 (.slice A9 x.ts.length c9)).set1 (.slice B9 x.os.length e9)
                clear zff
                go_upto_region 17 with fail
                clear S xn o9 z0 z1 zf0 zf1
                obtain ⟨W, hWW⟩ : ∃ wz, (W.setCell ⟨gn, 0, none⟩ (.slice A9 x.ts.length c9)).setCell ⟨gn, 1, none⟩ (.slice B9 x.os.length e9) = wz := ⟨_, rfl⟩
                rw [hWW] at S9 o8 x8 ⊢
                have S := S9
                have o9 := o8
                have xn := x8
                clear S9 o8 x8 hWW
                have HVn := hid hxv
                have CW := hid (specCoordinatorValid_is true (.agg #[.slice A9 x.ts.length c9, .slice B9 x.os.length e9]) x W o9.crd (cv_few hxv).1.fit ⟨fun _ => hxv, fun _ => rfl⟩)
                obtain ⟨u0, u1, -⟩ := id xn.reads
                clear hxv
                go_wp2_with fail
                refine CW.out.mono ?_
                rintro e wg ⟨rfl, dg⟩
                replace S := S.call dg
                replace xn := xn.later dg
                replace o9 := o9.below dg
                clear CW dg u0 u1
                obtain ⟨u0, u1, -⟩ := id xn.reads
                obtain ⟨y0, y1, yf⟩ := id S.2.1.reads
                have yf0 := yf 0
                have yf1 := yf 1
                have S9 := S.next o9
                clear yf xn o9 S
                go_wp2
                go_roundw
                case rel => exact ⟨k + 1, x, _, _, _, _, _, by omega, by go_num, HVn, S9.more (by push_cast; omega)⟩
                case measure => simp [intOf]; omega
              · have e7 : (d6 == 0) = false := by rw [beq_eq_false_iff_ne]; exact h3
                clear h3 d60 d61
                go_upto_region 17 with fail
                obtain ⟨W, hWW⟩ : ∃ wz, w7 = wz := ⟨_, rfl⟩
                obtain ⟨x, hxc⟩ : ∃ x, c = x := ⟨_, rfl⟩
                rw [hWW] at S xn y0 y1 ⊢
                rw [hxc] at S xn y0 y1 HV HF ⊢
                have hxv := HV.out
                have o9 := S.2.2.2.1
                clear hWW hxc e5 e6 e7 y0 y1
                have HVn := hid hxv
                have CW := hid (specCoordinatorValid_is true (.agg #[.slice Aa x.ts.length ca, .slice Ab x.os.length cb]) x W o9.crd (cv_few hxv).1.fit ⟨fun _ => hxv, fun _ => rfl⟩)
                obtain ⟨u0, u1, -⟩ := id xn.reads
                clear hxv
                go_wp2_with fail
                refine CW.out.mono ?_
                rintro e wg ⟨rfl, dg⟩
                replace S := S.call dg
                replace xn := xn.later dg
                replace o9 := o9.below dg
                clear CW dg u0 u1
                obtain ⟨u0, u1, -⟩ := id xn.reads
                obtain ⟨y0, y1, yf⟩ := id S.2.1.reads
                have yf0 := yf 0
                have yf1 := yf 1
                have S9 := S.next o9
                clear yf xn o9 S
                go_wp2
                go_roundw
                case rel => exact ⟨k + 1, x, _, _, _, _, _, by omega, by go_num, HVn, S9.more (by push_cast; omega)⟩
                case measure => simp [intOf]; omega
            · have e6 : (d5 == 1) = false := by rw [beq_eq_false_iff_ne]; exact h1
              clear h0 h1 d50 d51
              go_wp2_with fail
              refine wp_region_held_drew (S := fun x => x.cell? ⟨g, 0, none⟩ = some (.slice Aa c.ts.length ca) ∧ x.cell? ⟨g, 1, none⟩ = some (.slice Ab c.os.length cb)) (by kernel_rfl) ⟨(S.call (Below.refl _ _).drew).2.1.reads.1, (S.call (Below.refl _ _).drew).2.1.reads.2.1⟩ (fun hHeld => ?_)
              replace S := S.call (Below.refl _ _).drew
              replace xn := xn.later (Below.refl _ _).drew
              obtain ⟨W, hW⟩ : ∃ x, w6.drew = x := ⟨_, rfl⟩
              rw [hW] at S xn hHeld ⊢
              clear hW y0 y1 e5 e6
              try simp only [Act.put, List.getElem_toArray, List.getElem_cons_succ, List.getElem_cons_zero, List.setIfInBounds_toArray, List.set_cons_zero, List.set_cons_succ]
              refine wpAnyH_take (i := 0) (oi := _) (v := ?_) rfl (by kernel_rfl) (by kernel_rfl) (by kernel_rfl) (fun _ _ _ h => h) (Or.inl ⟨by rfl, ?_⟩) hHeld ?_
              rotate_left
              · (intro w' hSw; (try dsimp only at hSw); go_simp <;> with_reducible rfl)
              try simp only [Act.put, List.getElem_toArray, List.getElem_cons_succ, List.getElem_cons_zero, List.setIfInBounds_toArray, List.set_cons_zero, List.set_cons_succ]
              refine wpAnyH_take (i := 1) (oi := _) (v := ?_) rfl (by kernel_rfl) (by kernel_rfl) (by kernel_rfl) (fun _ _ _ h => h) (Or.inl ⟨by rfl, ?_⟩) hHeld ?_
              rotate_left
              · (intro w' hSw; (try dsimp only at hSw); go_simp <;> with_reducible rfl)
              try simp only [Act.put, List.getElem_toArray, List.getElem_cons_succ, List.getElem_cons_zero, List.setIfInBounds_toArray, List.set_cons_zero, List.set_cons_succ]
              refine wpAnyH_take (i := 2) (oi := _) (v := ?_) rfl (by kernel_rfl) (by kernel_rfl) (by kernel_rfl) (fun _ _ _ h => h) (Or.inl ⟨by rfl, ?_⟩) hHeld ?_
              rotate_left
              · (intro w' hSw; (try dsimp only at hSw); go_simp <;> with_reducible rfl)
              try simp only [Act.put, List.getElem_toArray, List.getElem_cons_succ, List.getElem_cons_zero, List.setIfInBounds_toArray, List.set_cons_zero, List.set_cons_succ]
              refine wpAnyH_take (i := 4) (oi := _) (v := ?_) rfl (by kernel_rfl) (by kernel_rfl) (by kernel_rfl) (fun _ _ _ h => h) (Or.inl ⟨by rfl, ?_⟩) hHeld ?_
              rotate_left
              · (intro w' hSw; (try dsimp only at hSw); go_simp <;> with_reducible rfl)
              try simp only [Act.put, List.getElem_toArray, List.getElem_cons_succ, List.getElem_cons_zero, List.setIfInBounds_toArray, List.set_cons_zero, List.set_cons_succ]
              refine wpAnyH_ready (rs := [3]) (by kernel_rfl) (by simp) (AllReadyH.cons (o := _) rfl (fun K hK => ?_) AllReadyH.nil)
              try simp only [Act.put, List.getElem_toArray, List.getElem_cons_succ, List.getElem_cons_zero, List.setIfInBounds_toArray, List.set_cons_zero, List.set_cons_succ]
              go_simp
              go_at_call 34
              refine (pick_any R _ 3 _ S.2.2.2.2.2.1 (by omega) (by omega) (by omega)).mono ?_
              rintro e W ⟨s, rfl, s0, s1, R6, T6⟩
              replace S := S.pick R6 T6
              replace xn := xn.but_ T6 (by have := S.2.2.2.2.1; have := S.2.2.1; omega)
              clear R6 T6
              refine hK.out _ _ ⟨S.2.1.reads.1, S.2.1.reads.2.1⟩ (fun hHeld => ?_)
              clear hK K
              try simp only [Act.put, List.getElem_toArray, List.getElem_cons_succ, List.getElem_cons_zero, List.setIfInBounds_toArray, List.set_cons_zero, List.set_cons_succ]
              refine wpAnyH_ready (rs := [5]) (by kernel_rfl) (by simp) (AllReadyH.cons (o := _) rfl (fun K hK => ?_) AllReadyH.nil)
              try simp only [Act.put, List.getElem_toArray, List.getElem_cons_succ, List.getElem_cons_zero, List.setIfInBounds_toArray, List.set_cons_zero, List.set_cons_succ]
              go_simp
              go_at_call 34
              refine (pick_any R _ 6 _ S.2.2.2.2.2.1 (by omega) (by omega) (by omega)).mono ?_
              rintro e W ⟨y, rfl, yy0, yy1, R6, T6⟩
              replace S := S.pick R6 T6
              replace xn := xn.but_ T6 (by have := S.2.2.2.2.1; have := S.2.2.1; omega)
              clear R6 T6
              refine hK.out _ _ ⟨S.2.1.reads.1, S.2.1.reads.2.1⟩ (fun hHeld => ?_)
              clear hK K
              try simp only [Act.put, List.getElem_toArray, List.getElem_cons_succ, List.getElem_cons_zero, List.setIfInBounds_toArray, List.set_cons_zero, List.set_cons_succ]
              refine wpAnyH_take (i := 6) (oi := _) (v := ?_) rfl (by kernel_rfl) (by kernel_rfl) (by kernel_rfl) (fun _ _ _ h => h) (Or.inl ⟨by rfl, ?_⟩) hHeld ?_
              rotate_left
              · (intro w' hSw; (try dsimp only at hSw); go_simp <;> with_reducible rfl)
              try simp only [Act.put, List.getElem_toArray, List.getElem_cons_succ, List.getElem_cons_zero, List.setIfInBounds_toArray, List.set_cons_zero, List.set_cons_succ]
              obtain ⟨by_, hby⟩ : ∃ b, decide (0 < y) = b := ⟨_, rfl⟩
              refine wpAnyH_ready (rs := [7]) (by kernel_rfl) (by simp) (AllReadyH.cons (o := _) rfl (fun K hK => ?_) AllReadyH.nil)
              try simp only [Act.put, List.getElem_toArray, List.getElem_cons_succ, List.getElem_cons_zero, List.setIfInBounds_toArray, List.set_cons_zero, List.set_cons_succ]
              go_simp
              try rw [hby]
              go_at_call 59
              obtain ⟨x, b2, hx⟩ := counted_ex c t s by_
              refine (specCoordinatorVote_is x b2 _ c t s by_ W S.2.2.2.1.crd HF.out.fit hx).mono ?_
              rintro e W ⟨v9, col9, rfl, o9', d9⟩
              have hxv := hx.valid
              have zz := S.size
              replace S := S.call d9
              replace xn := xn.later d9
              have o9 := o9'.base zz
              obtain ⟨A9, c9, B9, e9, rfl, -⟩ := o9.form
              unfold crV at o9 ⊢
              clear hx zz d9 o9'
              refine hK.out _ _ ⟨S.2.1.reads.1, S.2.1.reads.2.1⟩ (fun hHeld => ?_)
              clear hK K
              try simp only [Act.put, List.getElem_toArray, List.getElem_cons_succ, List.getElem_cons_zero, List.setIfInBounds_toArray, List.set_cons_zero, List.set_cons_succ]
              refine wpAnyH_take (i := 8) (oi := _) (v := ?_) rfl (by kernel_rfl) (by kernel_rfl) (by kernel_rfl) (fun _ _ _ h => h) (Or.inl ⟨by rfl, ?_⟩) hHeld ?_
              rotate_left
              · (intro w' hSw; (try dsimp only at hSw); go_simp <;> with_reducible rfl)
              try simp only [Act.put, List.getElem_toArray, List.getElem_cons_succ, List.getElem_cons_zero, List.setIfInBounds_toArray, List.set_cons_zero, List.set_cons_succ]
              refine wpAnyH_take (i := 9) (oi := _) (v := ?_) rfl (by kernel_rfl) (by kernel_rfl) (by kernel_rfl) (fun _ _ _ h => h) (Or.inl ⟨by rfl, ?_⟩) hHeld ?_
              rotate_left
              · (intro w' hSw; (try dsimp only at hSw); go_simp <;> with_reducible rfl)
              try simp only [Act.put, List.getElem_toArray, List.getElem_cons_succ, List.getElem_cons_zero, List.setIfInBounds_toArray, List.set_cons_zero, List.set_cons_succ]
              refine wpAnyH_take (i := 10) (oi := _) (v := ?_) rfl (by kernel_rfl) (by kernel_rfl) (by kernel_rfl) (fun _ _ _ h => h) (Or.inl ⟨by rfl, ?_⟩) hHeld ?_
              rotate_left
              · (intro w' hSw; (try dsimp only at hSw); go_simp <;> with_reducible rfl)
              try simp only [Act.put, List.getElem_toArray, List.getElem_cons_succ, List.getElem_cons_zero, List.setIfInBounds_toArray, List.set_cons_zero, List.set_cons_succ]
              obtain ⟨z0, z1, zff⟩ := id xn.reads
              have zf0 := zff 0
              have zf1 := zff 1
              have S9 := (S.stored xn hgn 0 (.slice A9 x.ts.length c9)).stored (xn.set0 (.slice A9 x.ts.length c9)) hgn 1 (.slice B9 x.os.length e9)
              have o8 := (o9.keptT (by decide) (by decide) (by decide) (by decide) (but_set W gn 0 (.slice A9 x.ts.length c9)) (blk_type xn)).keptT (by decide) (by decide) (by decide) (by decide) (but_set _ gn 1 (.slice B9 x.os.length e9)) (blk_type (xn.set0 (.slice A9 x.ts.length c9)))
              have x8 := (xn.set0 (.slice A9 x.ts.length c9)).set1 (.slice B9 x.os.length e9)
              clear zff
              refine wpAnyH_ready (rs := [11]) (by kernel_rfl) (by simp) (AllReadyH.cons (o := _) rfl (fun K hK => ?_) AllReadyH.nil)
              try simp only [Act.put, List.getElem_toArray, List.getElem_cons_succ, List.getElem_cons_zero, List.setIfInBounds_toArray, List.set_cons_zero, List.set_cons_succ]
              go_simp
              refine hK.out _ _ ⟨S9.2.1.reads.1, S9.2.1.reads.2.1⟩ (fun hHeld => ?_)
              clear hK K
              try simp only [Act.put, List.getElem_toArray, List.getElem_cons_succ, List.getElem_cons_zero, List.setIfInBounds_toArray, List.set_cons_zero, List.set_cons_succ]
              refine wpAnyH_done (by kernel_rfl) ?_ _
              clear S xn o9 z0 z1 zf0 zf1 hHeld
              obtain ⟨W, hWW⟩ : ∃ wz, (W.setCell ⟨gn, 0, none⟩ (.slice A9 x.ts.length c9)).setCell ⟨gn, 1, none⟩ (.slice B9 x.os.length e9) = wz := ⟨_, rfl⟩
              rw [hWW] at S9 o8 x8 ⊢
              have S := S9
              have o9 := o8
              have xn := x8
              clear S9 o8 x8 hWW
              have HVn := hid hxv
              have CW := hid (specCoordinatorValid_is true (.agg #[.slice A9 x.ts.length c9, .slice B9 x.os.length e9]) x W o9.crd (cv_few hxv).1.fit ⟨fun _ => hxv, fun _ => rfl⟩)
              obtain ⟨u0, u1, -⟩ := id xn.reads
              clear hxv
              go_wp2_with fail
              refine CW.out.mono ?_
              rintro e wg ⟨rfl, dg⟩
              replace S := S.call dg
              replace xn := xn.later dg
              replace o9 := o9.below dg
              clear CW dg u0 u1
              obtain ⟨u0, u1, -⟩ := id xn.reads
              obtain ⟨y0, y1, yf⟩ := id S.2.1.reads
              have yf0 := yf 0
              have yf1 := yf 1
              have S9 := S.next o9
              clear yf xn o9 S
              go_wp2
              go_roundw
              case rel => exact ⟨k + 1, x, _, _, _, _, _, by omega, by go_num, HVn, S9.more (by push_cast; omega)⟩
              case measure => simp [intOf]; omega
        · go_wp2_with fail
          refine (pick_any R _ 1 _ S.2.2.2.2.2.1 (by omega) (by omega) (by omega)).mono ?_
          rintro e w5 ⟨t, rfl, t0, t1, R5, T5⟩
          replace S := S.pick R5 T5
          replace xn := xn.but_ T5 (by have := S.2.2.2.2.1; have := S.2.2.1; omega)
          clear R5 T5 y0 y1
          obtain ⟨y0, y1, -⟩ := id S.2.1.reads
          clear hmx o9
          go_wp2_with fail
          refine (pick_any R _ 5 _ S.2.2.2.2.2.1 (by omega) (by omega) (by omega)).mono ?_
          rintro e w6 ⟨d5, rfl, d50, d51, R5, T5⟩
          replace S := S.pick R5 T5
          replace xn := xn.but_ T5 (by have := S.2.2.2.2.1; have := S.2.2.1; omega)
          clear R5 T5 y0 y1
          obtain ⟨y0, y1, -⟩ := id S.2.1.reads
          by_cases h0 : d5 = 0
          · have e5 : (d5 == 0) = true := by rw [h0]; rfl
            clear h0 d50 d51
            go_wp2_with fail
            refine wp_region_held_drew (S := fun x => x.cell? ⟨g, 0, none⟩ = some (.slice Aa c.ts.length ca) ∧ x.cell? ⟨g, 1, none⟩ = some (.slice Ab c.os.length cb)) (by kernel_rfl) ⟨(S.call (Below.refl _ _).drew).2.1.reads.1, (S.call (Below.refl _ _).drew).2.1.reads.2.1⟩ (fun hHeld => ?_)
            replace S := S.call (Below.refl _ _).drew
            replace xn := xn.later (Below.refl _ _).drew
            obtain ⟨W, hW⟩ : ∃ x, w6.drew = x := ⟨_, rfl⟩
            rw [hW] at S xn hHeld ⊢
            clear hW y0 y1 e5
            try simp only [Act.put, List.getElem_toArray, List.getElem_cons_succ, List.getElem_cons_zero, List.setIfInBounds_toArray, List.set_cons_zero, List.set_cons_succ]
            refine wpAnyH_take (i := 0) (oi := _) (v := ?_) rfl (by kernel_rfl) (by kernel_rfl) (by kernel_rfl) (fun _ _ _ h => h) (Or.inl ⟨by rfl, ?_⟩) hHeld ?_
            rotate_left
            · (intro w' hSw; (try dsimp only at hSw); go_simp <;> with_reducible rfl)
            try simp only [Act.put, List.getElem_toArray, List.getElem_cons_succ, List.getElem_cons_zero, List.setIfInBounds_toArray, List.set_cons_zero, List.set_cons_succ]
            refine wpAnyH_take (i := 1) (oi := _) (v := ?_) rfl (by kernel_rfl) (by kernel_rfl) (by kernel_rfl) (fun _ _ _ h => h) (Or.inl ⟨by rfl, ?_⟩) hHeld ?_
            rotate_left
            · (intro w' hSw; (try dsimp only at hSw); go_simp <;> with_reducible rfl)
            try simp only [Act.put, List.getElem_toArray, List.getElem_cons_succ, List.getElem_cons_zero, List.setIfInBounds_toArray, List.set_cons_zero, List.set_cons_succ]
            refine wpAnyH_ready (rs := [2]) (by kernel_rfl) (by simp) (AllReadyH.cons (o := _) rfl (fun K hK => ?_) AllReadyH.nil)
            try simp only [Act.put, List.getElem_toArray, List.getElem_cons_succ, List.getElem_cons_zero, List.setIfInBounds_toArray, List.set_cons_zero, List.set_cons_succ]
            go_simp
            go_at_call 57
            refine (l92Parts_any R _ W S.2.2.2.2.2.1 (by omega)).mono ?_
            rintro e W ⟨vp, ps, rfl, op, hpl, hsm, R6, T6⟩
            replace S := S.pick R6 T6
            replace xn := xn.but_ T6 (by have := S.2.2.2.2.1; have := S.2.2.1; omega)
            obtain ⟨Ap, cp, rfl, rp, -⟩ := op.form
            have HSM := hid hsm
            clear R6 T6 op hsm
            refine hK.out _ _ ⟨S.2.1.reads.1, S.2.1.reads.2.1⟩ (fun hHeld => ?_)
            clear hK K
            try simp only [Act.put, List.getElem_toArray, List.getElem_cons_succ, List.getElem_cons_zero, List.setIfInBounds_toArray, List.set_cons_zero, List.set_cons_succ]
            refine wpAnyH_ready (rs := [3]) (by kernel_rfl) (by simp) (AllReadyH.cons (o := _) rfl (fun K hK => ?_) AllReadyH.nil)
            try simp only [Act.put, List.getElem_toArray, List.getElem_cons_succ, List.getElem_cons_zero, List.setIfInBounds_toArray, List.set_cons_zero, List.set_cons_succ]
            go_simp
            go_at_call 56
            obtain ⟨x, b2, hx⟩ := begun_ex c ps
            refine (specCoordinatorBegin_is x b2 _ c Ap cp ps W S.2.2.2.1.crd HF.out.fit rp (by omega) (fun p hp => by have := HSM.out p hp; omega) hx).mono ?_
            rintro e W ⟨v9, col9, rfl, o9', d9⟩
            have hxv := hx.valid
            have zz := S.size
            replace S := S.call d9
            replace xn := xn.later d9
            have o9 := o9'.base zz
            obtain ⟨A9, c9, B9, e9, rfl, -⟩ := o9.form
            unfold crV at o9 ⊢
            clear hx zz d9 o9'
            refine hK.out _ _ ⟨S.2.1.reads.1, S.2.1.reads.2.1⟩ (fun hHeld => ?_)
            clear hK K
            try simp only [Act.put, List.getElem_toArray, List.getElem_cons_succ, List.getElem_cons_zero, List.setIfInBounds_toArray, List.set_cons_zero, List.set_cons_succ]
            refine wpAnyH_take (i := 4) (oi := _) (v := ?_) rfl (by kernel_rfl) (by kernel_rfl) (by kernel_rfl) (fun _ _ _ h => h) (Or.inl ⟨by rfl, ?_⟩) hHeld ?_
            rotate_left
            · (intro w' hSw; (try dsimp only at hSw); go_simp <;> with_reducible rfl)
            try simp only [Act.put, List.getElem_toArray, List.getElem_cons_succ, List.getElem_cons_zero, List.setIfInBounds_toArray, List.set_cons_zero, List.set_cons_succ]
            refine wpAnyH_take (i := 5) (oi := _) (v := ?_) rfl (by kernel_rfl) (by kernel_rfl) (by kernel_rfl) (fun _ _ _ h => h) (Or.inl ⟨by rfl, ?_⟩) hHeld ?_
            rotate_left
            · (intro w' hSw; (try dsimp only at hSw); go_simp <;> with_reducible rfl)
            try simp only [Act.put, List.getElem_toArray, List.getElem_cons_succ, List.getElem_cons_zero, List.setIfInBounds_toArray, List.set_cons_zero, List.set_cons_succ]
            refine wpAnyH_take (i := 6) (oi := _) (v := ?_) rfl (by kernel_rfl) (by kernel_rfl) (by kernel_rfl) (fun _ _ _ h => h) (Or.inl ⟨by rfl, ?_⟩) hHeld ?_
            rotate_left
            · (intro w' hSw; (try dsimp only at hSw); go_simp <;> with_reducible rfl)
            try simp only [Act.put, List.getElem_toArray, List.getElem_cons_succ, List.getElem_cons_zero, List.setIfInBounds_toArray, List.set_cons_zero, List.set_cons_succ]
            obtain ⟨z0, z1, zff⟩ := id xn.reads
            have zf0 := zff 0
            have zf1 := zff 1
            have S9 := (S.stored xn hgn 0 (.slice A9 x.ts.length c9)).stored (xn.set0 (.slice A9 x.ts.length c9)) hgn 1 (.slice B9 x.os.length e9)
            have o8 := (o9.keptT (by decide) (by decide) (by decide) (by decide) (but_set W gn 0 (.slice A9 x.ts.length c9)) (blk_type xn)).keptT (by decide) (by decide) (by decide) (by decide) (but_set _ gn 1 (.slice B9 x.os.length e9)) (blk_type (xn.set0 (.slice A9 x.ts.length c9)))
            have x8 := (xn.set0 (.slice A9 x.ts.length c9)).set1 (.slice B9 x.os.length e9)
            clear zff
            refine wpAnyH_ready (rs := [7]) (by kernel_rfl) (by simp) (AllReadyH.cons (o := _) rfl (fun K hK => ?_) AllReadyH.nil)
            try simp only [Act.put, List.getElem_toArray, List.getElem_cons_succ, List.getElem_cons_zero, List.setIfInBounds_toArray, List.set_cons_zero, List.set_cons_succ]
            go_simp
            refine hK.out _ _ ⟨S9.2.1.reads.1, S9.2.1.reads.2.1⟩ (fun hHeld => ?_)
            clear hK K
            try simp only [Act.put, List.getElem_toArray, List.getElem_cons_succ, List.getElem_cons_zero, List.setIfInBounds_toArray, List.set_cons_zero, List.set_cons_succ]
            refine wpAnyH_done (by kernel_rfl) ?_ _
            clear S xn o9 z0 z1 zf0 zf1 hHeld
            obtain ⟨W, hWW⟩ : ∃ wz, (W.setCell ⟨gn, 0, none⟩ (.slice A9 x.ts.length c9)).setCell ⟨gn, 1, none⟩ (.slice B9 x.os.length e9) = wz := ⟨_, rfl⟩
            rw [hWW] at S9 o8 x8 ⊢
            have S := S9
            have o9 := o8
            have xn := x8
            clear S9 o8 x8 hWW
            have HVn := hid hxv
            have CW := hid (specCoordinatorValid_is true (.agg #[.slice A9 x.ts.length c9, .slice B9 x.os.length e9]) x W o9.crd (cv_few hxv).1.fit ⟨fun _ => hxv, fun _ => rfl⟩)
            obtain ⟨u0, u1, -⟩ := id xn.reads
            clear hxv
            go_wp2_with fail
            refine CW.out.mono ?_
            rintro e wg ⟨rfl, dg⟩
            replace S := S.call dg
            replace xn := xn.later dg
            replace o9 := o9.below dg
            clear CW dg u0 u1
            obtain ⟨u0, u1, -⟩ := id xn.reads
            obtain ⟨y0, y1, yf⟩ := id S.2.1.reads
            have yf0 := yf 0
            have yf1 := yf 1
            have S9 := S.next o9
            clear yf xn o9 S
            go_wp2
            go_roundw
            case rel => exact ⟨k + 1, x, _, _, _, _, _, by omega, by go_num, HVn, S9.more (by push_cast; omega)⟩
            case measure => simp [intOf]; omega
          · have e5 : (d5 == 0) = false := by rw [beq_eq_false_iff_ne]; exact h0
            by_cases h1 : d5 = 1
            · have e6 : (d5 == 1) = true := by rw [h1]; rfl
              clear h0 h1 d50 d51
              go_wp2_with fail
              refine (pick_any R _ 3 _ S.2.2.2.2.2.1 (by omega) (by omega) (by omega)).mono ?_
              rintro e w7 ⟨d6, rfl, d60, d61, R5, T5⟩
              replace S := S.pick R5 T5
              replace xn := xn.but_ T5 (by have := S.2.2.2.2.1; have := S.2.2.1; omega)
              clear R5 T5 y0 y1
              obtain ⟨y0, y1, -⟩ := id S.2.1.reads
              by_cases h3 : d6 = 0
              · have e7 : (d6 == 0) = true := by rw [h3]; rfl
                clear h3 d60 d61
                obtain ⟨x, b2, hx⟩ := late_ex c t
                have CT := hid (specCoordinatorTimeout_is x b2 _ c t w7 S.2.2.2.1.crd HF.out.fit hx)
                go_wp2_with fail
                refine CT.out.mono ?_
                rintro e W ⟨v9, col9, rfl, o9', d9⟩
                have hxv := hx.valid
                have zz := S.size
                replace S := S.call d9
                replace xn := xn.later d9
                have o9 := o9'.base zz
                obtain ⟨A9, c9, B9, e9, rfl, -⟩ := o9.form
                unfold crV at o9 ⊢
                clear CT hx zz d9 o9' y0 y1 e5 e6 e7
                obtain ⟨z0, z1, zff⟩ := id xn.reads
                have zf0 := zff 0
                have zf1 := zff 1
                have S9 := (S.stored xn hgn 0 (.slice A9 x.ts.length c9)).stored (xn.set0 (.slice A9 x.ts.length c9)) hgn 1 (.slice B9 x.os.length e9)
                have o8 := (o9.keptT (by decide) (by decide) (by decide) (by decide) (but_set W gn 0 (.slice A9 x.ts.length c9)) (blk_type xn)).keptT (by decide) (by decide) (by decide) (by decide) (but_set _ gn 1 (.slice B9 x.os.length e9)) (blk_type (xn.set0 (.slice A9 x.ts.length c9)))
                have x8 := (xn.set0 (.slice A9 x.ts.length c9)).set1 (.slice B9 x.os.length e9)
                clear zff
                go_upto_region 17 with fail
                clear S xn o9 z0 z1 zf0 zf1
                obtain ⟨W, hWW⟩ : ∃ wz, (W.setCell ⟨gn, 0, none⟩ (.slice A9 x.ts.length c9)).setCell ⟨gn, 1, none⟩ (.slice B9 x.os.length e9) = wz := ⟨_, rfl⟩
                rw [hWW] at S9 o8 x8 ⊢
                have S := S9
                have o9 := o8
                have xn := x8
                clear S9 o8 x8 hWW
                have HVn := hid hxv
                have CW := hid (specCoordinatorValid_is true (.agg #[.slice A9 x.ts.length c9, .slice B9 x.os.length e9]) x W o9.crd (cv_few hxv).1.fit ⟨fun _ => hxv, fun _ => rfl⟩)
                obtain ⟨u0, u1, -⟩ := id xn.reads
                clear hxv
                go_wp2_with fail
                refine CW.out.mono ?_
                rintro e wg ⟨rfl, dg⟩
                replace S := S.call dg
                replace xn := xn.later dg
                replace o9 := o9.below dg
                clear CW dg u0 u1
                obtain ⟨u0, u1, -⟩ := id xn.reads
                obtain ⟨y0, y1, yf⟩ := id S.2.1.reads
                have yf0 := yf 0
                have yf1 := yf 1
                have S9 := S.next o9
                clear yf xn o9 S
                go_wp2
                go_roundw
                case rel => exact ⟨k + 1, x, _, _, _, _, _, by omega, by go_num, HVn, S9.more (by push_cast; omega)⟩
                case measure => simp [intOf]; omega
              · have e7 : (d6 == 0) = false := by rw [beq_eq_false_iff_ne]; exact h3
                clear h3 d60 d61
                go_upto_region 17 with fail
                obtain ⟨W, hWW⟩ : ∃ wz, w7 = wz := ⟨_, rfl⟩
                obtain ⟨x, hxc⟩ : ∃ x, c = x := ⟨_, rfl⟩
                rw [hWW] at S xn y0 y1 ⊢
                rw [hxc] at S xn y0 y1 HV HF ⊢
                have hxv := HV.out
                have o9 := S.2.2.2.1
                clear hWW hxc e5 e6 e7 y0 y1
                have HVn := hid hxv
                have CW := hid (specCoordinatorValid_is true (.agg #[.slice Aa x.ts.length ca, .slice Ab x.os.length cb]) x W o9.crd (cv_few hxv).1.fit ⟨fun _ => hxv, fun _ => rfl⟩)
                obtain ⟨u0, u1, -⟩ := id xn.reads
                clear hxv
                go_wp2_with fail
                refine CW.out.mono ?_
                rintro e wg ⟨rfl, dg⟩
                replace S := S.call dg
                replace xn := xn.later dg
                replace o9 := o9.below dg
                clear CW dg u0 u1
                obtain ⟨u0, u1, -⟩ := id xn.reads
                obtain ⟨y0, y1, yf⟩ := id S.2.1.reads
                have yf0 := yf 0
                have yf1 := yf 1
                have S9 := S.next o9
                clear yf xn o9 S
                go_wp2
                go_roundw
                case rel => exact ⟨k + 1, x, _, _, _, _, _, by omega, by go_num, HVn, S9.more (by push_cast; omega)⟩
                case measure => simp [intOf]; omega
            · have e6 : (d5 == 1) = false := by rw [beq_eq_false_iff_ne]; exact h1
              clear h0 h1 d50 d51
              go_wp2_with fail
              refine wp_region_held_drew (S := fun x => x.cell? ⟨g, 0, none⟩ = some (.slice Aa c.ts.length ca) ∧ x.cell? ⟨g, 1, none⟩ = some (.slice Ab c.os.length cb)) (by kernel_rfl) ⟨(S.call (Below.refl _ _).drew).2.1.reads.1, (S.call (Below.refl _ _).drew).2.1.reads.2.1⟩ (fun hHeld => ?_)
              replace S := S.call (Below.refl _ _).drew
              replace xn := xn.later (Below.refl _ _).drew
              obtain ⟨W, hW⟩ : ∃ x, w6.drew = x := ⟨_, rfl⟩
              rw [hW] at S xn hHeld ⊢
              clear hW y0 y1 e5 e6
              try simp only [Act.put, List.getElem_toArray, List.getElem_cons_succ, List.getElem_cons_zero, List.setIfInBounds_toArray, List.set_cons_zero, List.set_cons_succ]
              refine wpAnyH_take (i := 0) (oi := _) (v := ?_) rfl (by kernel_rfl) (by kernel_rfl) (by kernel_rfl) (fun _ _ _ h => h) (Or.inl ⟨by rfl, ?_⟩) hHeld ?_
              rotate_left
              · (intro w' hSw; (try dsimp only at hSw); go_simp <;> with_reducible rfl)
              try simp only [Act.put, List.getElem_toArray, List.getElem_cons_succ, List.getElem_cons_zero, List.setIfInBounds_toArray, List.set_cons_zero, List.set_cons_succ]
              refine wpAnyH_take (i := 1) (oi := _) (v := ?_) rfl (by kernel_rfl) (by kernel_rfl) (by kernel_rfl) (fun _ _ _ h => h) (Or.inl ⟨by rfl, ?_⟩) hHeld ?_
              rotate_left
              · (intro w' hSw; (try dsimp only at hSw); go_simp <;> with_reducible rfl)
              try simp only [Act.put, List.getElem_toArray, List.getElem_cons_succ, List.getElem_cons_zero, List.setIfInBounds_toArray, List.set_cons_zero, List.set_cons_succ]
              refine wpAnyH_take (i := 2) (oi := _) (v := ?_) rfl (by kernel_rfl) (by kernel_rfl) (by kernel_rfl) (fun _ _ _ h => h) (Or.inl ⟨by rfl, ?_⟩) hHeld ?_
              rotate_left
              · (intro w' hSw; (try dsimp only at hSw); go_simp <;> with_reducible rfl)
              try simp only [Act.put, List.getElem_toArray, List.getElem_cons_succ, List.getElem_cons_zero, List.setIfInBounds_toArray, List.set_cons_zero, List.set_cons_succ]
              refine wpAnyH_take (i := 4) (oi := _) (v := ?_) rfl (by kernel_rfl) (by kernel_rfl) (by kernel_rfl) (fun _ _ _ h => h) (Or.inl ⟨by rfl, ?_⟩) hHeld ?_
              rotate_left
              · (intro w' hSw; (try dsimp only at hSw); go_simp <;> with_reducible rfl)
              try simp only [Act.put, List.getElem_toArray, List.getElem_cons_succ, List.getElem_cons_zero, List.setIfInBounds_toArray, List.set_cons_zero, List.set_cons_succ]
              refine wpAnyH_ready (rs := [3]) (by kernel_rfl) (by simp) (AllReadyH.cons (o := _) rfl (fun K hK => ?_) AllReadyH.nil)
              try simp only [Act.put, List.getElem_toArray, List.getElem_cons_succ, List.getElem_cons_zero, List.setIfInBounds_toArray, List.set_cons_zero, List.set_cons_succ]
              go_simp
              go_at_call 34
              refine (pick_any R _ 3 _ S.2.2.2.2.2.1 (by omega) (by omega) (by omega)).mono ?_
              rintro e W ⟨s, rfl, s0, s1, R6, T6⟩
              replace S := S.pick R6 T6
              replace xn := xn.but_ T6 (by have := S.2.2.2.2.1; have := S.2.2.1; omega)
              clear R6 T6
              refine hK.out _ _ ⟨S.2.1.reads.1, S.2.1.reads.2.1⟩ (fun hHeld => ?_)
              clear hK K
              try simp only [Act.put, List.getElem_toArray, List.getElem_cons_succ, List.getElem_cons_zero, List.setIfInBounds_toArray, List.set_cons_zero, List.set_cons_succ]
              refine wpAnyH_ready (rs := [5]) (by kernel_rfl) (by simp) (AllReadyH.cons (o := _) rfl (fun K hK => ?_) AllReadyH.nil)
              try simp only [Act.put, List.getElem_toArray, List.getElem_cons_succ, List.getElem_cons_zero, List.setIfInBounds_toArray, List.set_cons_zero, List.set_cons_succ]
              go_simp
              go_at_call 34
              refine (pick_any R _ 6 _ S.2.2.2.2.2.1 (by omega) (by omega) (by omega)).mono ?_
              rintro e W ⟨y, rfl, yy0, yy1, R6, T6⟩
              replace S := S.pick R6 T6
              replace xn := xn.but_ T6 (by have := S.2.2.2.2.1; have := S.2.2.1; omega)
              clear R6 T6
              refine hK.out _ _ ⟨S.2.1.reads.1, S.2.1.reads.2.1⟩ (fun hHeld => ?_)
              clear hK K
              try simp only [Act.put, List.getElem_toArray, List.getElem_cons_succ, List.getElem_cons_zero, List.setIfInBounds_toArray, List.set_cons_zero, List.set_cons_succ]
              refine wpAnyH_take (i := 6) (oi := _) (v := ?_) rfl (by kernel_rfl) (by kernel_rfl) (by kernel_rfl) (fun _ _ _ h => h) (Or.inl ⟨by rfl, ?_⟩) hHeld ?_
              rotate_left
              · (intro w' hSw; (try dsimp only at hSw); go_simp <;> with_reducible rfl)
              try simp only [Act.put, List.getElem_toArray, List.getElem_cons_succ, List.getElem_cons_zero, List.setIfInBounds_toArray, List.set_cons_zero, List.set_cons_succ]
              obtain ⟨by_, hby⟩ : ∃ b, decide (0 < y) = b := ⟨_, rfl⟩
              refine wpAnyH_ready (rs := [7]) (by kernel_rfl) (by simp) (AllReadyH.cons (o := _) rfl (fun K hK => ?_) AllReadyH.nil)
              try simp only [Act.put, List.getElem_toArray, List.getElem_cons_succ, List.getElem_cons_zero, List.setIfInBounds_toArray, List.set_cons_zero, List.set_cons_succ]
              go_simp
              try rw [hby]
              go_at_call 59
              obtain ⟨x, b2, hx⟩ := counted_ex c t s by_
              refine (specCoordinatorVote_is x b2 _ c t s by_ W S.2.2.2.1.crd HF.out.fit hx).mono ?_
              rintro e W ⟨v9, col9, rfl, o9', d9⟩
              have hxv := hx.valid
              have zz := S.size
              replace S := S.call d9
              replace xn := xn.later d9
              have o9 := o9'.base zz
              obtain ⟨A9, c9, B9, e9, rfl, -⟩ := o9.form
              unfold crV at o9 ⊢
              clear hx zz d9 o9'
              refine hK.out _ _ ⟨S.2.1.reads.1, S.2.1.reads.2.1⟩ (fun hHeld => ?_)
              clear hK K
              try simp only [Act.put, List.getElem_toArray, List.getElem_cons_succ, List.getElem_cons_zero, List.setIfInBounds_toArray, List.set_cons_zero, List.set_cons_succ]
              refine wpAnyH_take (i := 8) (oi := _) (v := ?_) rfl (by kernel_rfl) (by kernel_rfl) (by kernel_rfl) (fun _ _ _ h => h) (Or.inl ⟨by rfl, ?_⟩) hHeld ?_
              rotate_left
              · (intro w' hSw; (try dsimp only at hSw); go_simp <;> with_reducible rfl)
              try simp only [Act.put, List.getElem_toArray, List.getElem_cons_succ, List.getElem_cons_zero, List.setIfInBounds_toArray, List.set_cons_zero, List.set_cons_succ]
              refine wpAnyH_take (i := 9) (oi := _) (v := ?_) rfl (by kernel_rfl) (by kernel_rfl) (by kernel_rfl) (fun _ _ _ h => h) (Or.inl ⟨by rfl, ?_⟩) hHeld ?_
              rotate_left
              · (intro w' hSw; (try dsimp only at hSw); go_simp <;> with_reducible rfl)
              try simp only [Act.put, List.getElem_toArray, List.getElem_cons_succ, List.getElem_cons_zero, List.setIfInBounds_toArray, List.set_cons_zero, List.set_cons_succ]
              refine wpAnyH_take (i := 10) (oi := _) (v := ?_) rfl (by kernel_rfl) (by kernel_rfl) (by kernel_rfl) (fun _ _ _ h => h) (Or.inl ⟨by rfl, ?_⟩) hHeld ?_
              rotate_left
              · (intro w' hSw; (try dsimp only at hSw); go_simp <;> with_reducible rfl)
              try simp only [Act.put, List.getElem_toArray, List.getElem_cons_succ, List.getElem_cons_zero, List.setIfInBounds_toArray, List.set_cons_zero, List.set_cons_succ]
              obtain ⟨z0, z1, zff⟩ := id xn.reads
              have zf0 := zff 0
              have zf1 := zff 1
              have S9 := (S.stored xn hgn 0 (.slice A9 x.ts.length c9)).stored (xn.set0 (.slice A9 x.ts.length c9)) hgn 1 (.slice B9 x.os.length e9)
              have o8 := (o9.keptT (by decide) (by decide) (by decide) (by decide) (but_set W gn 0 (.slice A9 x.ts.length c9)) (blk_type xn)).keptT (by decide) (by decide) (by decide) (by decide) (but_set _ gn 1 (.slice B9 x.os.length e9)) (blk_type (xn.set0 (.slice A9 x.ts.length c9)))
              have x8 := (xn.set0 (.slice A9 x.ts.length c9)).set1 (.slice B9 x.os.length e9)
              clear zff
              refine wpAnyH_ready (rs := [11]) (by kernel_rfl) (by simp) (AllReadyH.cons (o := _) rfl (fun K hK => ?_) AllReadyH.nil)
              try simp only [Act.put, List.getElem_toArray, List.getElem_cons_succ, List.getElem_cons_zero, List.setIfInBounds_toArray, List.set_cons_zero, List.set_cons_succ]
              go_simp
              refine hK.out _ _ ⟨S9.2.1.reads.1, S9.2.1.reads.2.1⟩ (fun hHeld => ?_)
              clear hK K
              try simp only [Act.put, List.getElem_toArray, List.getElem_cons_succ, List.getElem_cons_zero, List.setIfInBounds_toArray, List.set_cons_zero, List.set_cons_succ]
              refine wpAnyH_done (by kernel_rfl) ?_ _
              clear S xn o9 z0 z1 zf0 zf1 hHeld
              obtain ⟨W, hWW⟩ : ∃ wz, (W.setCell ⟨gn, 0, none⟩ (.slice A9 x.ts.length c9)).setCell ⟨gn, 1, none⟩ (.slice B9 x.os.length e9) = wz := ⟨_, rfl⟩
              rw [hWW] at S9 o8 x8 ⊢
              have S := S9
              have o9 := o8
              have xn := x8
              clear S9 o8 x8 hWW
              have HVn := hid hxv
              have CW := hid (specCoordinatorValid_is true (.agg #[.slice A9 x.ts.length c9, .slice B9 x.os.length e9]) x W o9.crd (cv_few hxv).1.fit ⟨fun _ => hxv, fun _ => rfl⟩)
              obtain ⟨u0, u1, -⟩ := id xn.reads
              clear hxv
              go_wp2_with fail
              refine CW.out.mono ?_
              rintro e wg ⟨rfl, dg⟩
              replace S := S.call dg
              replace xn := xn.later dg
              replace o9 := o9.below dg
              clear CW dg u0 u1
              obtain ⟨u0, u1, -⟩ := id xn.reads
              obtain ⟨y0, y1, yf⟩ := id S.2.1.reads
              have yf0 := yf 0
              have yf1 := yf 1
              have S9 := S.next o9
              clear yf xn o9 S
              go_wp2
              go_roundw
              case rel => exact ⟨k + 1, x, _, _, _, _, _, by omega, by go_num, HVn, S9.more (by push_cast; omega)⟩
              case measure => simp [intOf]; omega
      · have e1 : decide ((k : Int) < n0) = false := decide_eq_false hlt
        clear hlt
        by_cases hc0 : c.ts.length = 0
        · have e2 : ((c.ts.length : Int) == 0) = true := by rw [beq_iff_eq]; omega
          have HSM := HF
          clear hc0 y0 y1
          obtain ⟨W, hW⟩ : ∃ x, wr = x := ⟨_, rfl⟩
          rw [hW] at S ⊢
          clear hW hf
          obtain ⟨y0, y1, -⟩ := id S.2.1.reads
          clear y0 y1
          obtain ⟨t0, t1, tf⟩ := id S.1.reads
          have tf0 := tf 0
          have tf1 := tf 1
          obtain ⟨u0, u1, -⟩ := id S.2.1.reads
          have o10 := (S.2.2.2.1.keptT (by decide) (by decide) (by decide) (by decide) (but_set W w.heap.size 0 (.slice Aa c.ts.length ca)) (blk_type S.1)).keptT (by decide) (by decide) (by decide) (by decide) (but_set _ w.heap.size 1 (.slice Ab c.os.length cb)) (blk_type (S.1.set0 (.slice Aa c.ts.length ca)))
          have R10 := (S.2.2.2.2.2.1.far S.2.2.2.2.1 0 (.slice Aa c.ts.length ca)).far S.2.2.2.2.1 1 (.slice Ab c.os.length cb)
          have T10 := (S.2.2.2.2.2.2.set_new (Nat.le_refl w.heap.size) 0 (.slice Aa c.ts.length ca)).set_new (Nat.le_refl w.heap.size) 1 (.slice Ab c.os.length cb)
          obtain ⟨p0, p1, -⟩ := ((S.1.set0 (.slice Aa c.ts.length ca)).set1 (.slice Ab c.os.length cb)).reads
          clear tf S
          go_wp2
          exact bodyPost_ret (v := .agg #[.slice Aa c.ts.length ca, .slice Ab c.os.length cb]) (by simp [results, Try.results33, go_sem, p0, p1]) rfl ⟨_, c, _, rfl, o10, HSM.out, R10.more (by push_cast; omega), T10⟩
        · have e2 : ((c.ts.length : Int) == 0) = false := by rw [beq_eq_false_iff_ne]; omega
          clear hf
          go_wp2_with fail
          refine (pick_any R _ (c.ts.length : Int) _ S.2.2.2.2.2.1 (by omega) (by omega) (by omega)).mono ?_
          rintro e w5 ⟨t, rfl, t0, t1, R5, T5⟩
          replace S := S.pick R5 T5
          clear R5 T5 y0 y1 e1 e2
          obtain ⟨y0, y1, -⟩ := id S.2.1.reads
          obtain ⟨n, rfl⟩ := Int.eq_ofNat_of_zero_le t0
          have hn : n < c.ts.length := by omega
          clear hc0
          go_wp2_with fail
          refine (pick_any R _ 20 _ S.2.2.2.2.2.1 (by omega) (by omega) (by omega)).mono ?_
          rintro e w6 ⟨d5, rfl, d50, d51, R5, T5⟩
          replace S := S.pick R5 T5
          clear R5 T5 y0 y1
          obtain ⟨y0, y1, yf⟩ := id S.2.1.reads
          have hps := HF.out.ps _ (List.getElem_mem hn)
          have hus := HF.out.us _ (List.getElem_mem hn)
          obtain ⟨gT, rfl, -⟩ := cr_head S.2.2.2.1 hn
          by_cases h0 : d5 = 0
          · have e5 : (d5 == 0) = true := by rw [h0]; rfl
            clear h0 d50 d51 yf
            go_wp2_with fail
            refine wp_region_held_drew (S := fun x => x.cell? ⟨g, 0, none⟩ = some (.slice (some ⟨gT, 0, none⟩) c.ts.length ca) ∧ x.cell? ⟨g, 1, none⟩ = some (.slice Ab c.os.length cb)) (by kernel_rfl) ⟨(S.call (Below.refl _ _).drew).2.1.reads.1, (S.call (Below.refl _ _).drew).2.1.reads.2.1⟩ (fun hHeld => ?_)
            replace S := S.call (Below.refl _ _).drew
            obtain ⟨W, hW⟩ : ∃ x, w6.drew = x := ⟨_, rfl⟩
            rw [hW] at S hHeld ⊢
            clear hW y0 y1 e5
            try simp only [Act.put, List.getElem_toArray, List.getElem_cons_succ, List.getElem_cons_zero, List.setIfInBounds_toArray, List.set_cons_zero, List.set_cons_succ]
            refine wpAnyH_take (i := 0) (oi := _) (v := ?_) rfl (by kernel_rfl) (by kernel_rfl) (by kernel_rfl) (fun _ _ _ h => h) (Or.inl ⟨by rfl, ?_⟩) hHeld ?_
            rotate_left
            · (intro w' hSw; (try dsimp only at hSw); go_simp <;> with_reducible rfl)
            try simp only [Act.put, List.getElem_toArray, List.getElem_cons_succ, List.getElem_cons_zero, List.setIfInBounds_toArray, List.set_cons_zero, List.set_cons_succ]
            refine wpAnyH_take (i := 1) (oi := _) (v := ?_) rfl (by kernel_rfl) (by kernel_rfl) (by kernel_rfl) (fun _ _ _ h => h) (Or.inl ⟨by rfl, ?_⟩) hHeld ?_
            rotate_left
            · (intro w' hSw; (try dsimp only at hSw); go_simp <;> with_reducible rfl)
            try simp only [Act.put, List.getElem_toArray, List.getElem_cons_succ, List.getElem_cons_zero, List.setIfInBounds_toArray, List.set_cons_zero, List.set_cons_succ]
            refine wpAnyH_take (i := 2) (oi := _) (v := ?_) rfl (by kernel_rfl) (by kernel_rfl) (by kernel_rfl) (fun _ _ _ h => h) (Or.inl ⟨by rfl, ?_⟩) hHeld ?_
            rotate_left
            · (intro w' hSw; (try dsimp only at hSw); go_simp <;> with_reducible rfl)
            try simp only [Act.put, List.getElem_toArray, List.getElem_cons_succ, List.getElem_cons_zero, List.setIfInBounds_toArray, List.set_cons_zero, List.set_cons_succ]
            refine wpAnyH_take (i := 3) (oi := _) (v := ?_) rfl (by kernel_rfl) (by kernel_rfl) (by kernel_rfl) (fun _ _ _ h => h) (Or.inl ⟨by rfl, ?_⟩) hHeld ?_
            rotate_left
            · (intro w' hSw; (try dsimp only at hSw); go_simp <;> with_reducible rfl)
            try simp only [Act.put, List.getElem_toArray, List.getElem_cons_succ, List.getElem_cons_zero, List.setIfInBounds_toArray, List.set_cons_zero, List.set_cons_succ]
            refine wpAnyH_ready (rs := [4]) (by kernel_rfl) (by simp) (AllReadyH.cons (o := _) rfl (fun K hK => ?_) AllReadyH.nil)
            try simp only [Act.put, List.getElem_toArray, List.getElem_cons_succ, List.getElem_cons_zero, List.setIfInBounds_toArray, List.set_cons_zero, List.set_cons_succ]
            go_simp
            go_at_call 34
            refine (pick_any R _ 5 _ S.2.2.2.2.2.1 (by omega) (by omega) (by omega)).mono ?_
            rintro e W ⟨s, rfl, s0, s1, R6, T6⟩
            replace S := S.pick R6 T6
            clear R6 T6
            refine hK.out _ _ ⟨S.2.1.reads.1, S.2.1.reads.2.1⟩ (fun hHeld => ?_)
            clear hK K
            try simp only [Act.put, List.getElem_toArray, List.getElem_cons_succ, List.getElem_cons_zero, List.setIfInBounds_toArray, List.set_cons_zero, List.set_cons_succ]
            have k1 : (n : Int) < (c.ts.length : Int) := by omega
            refine wpAnyH_take (i := 5) (oi := _) (v := ?_) rfl (by kernel_rfl) (by kernel_rfl) (by kernel_rfl) (fun _ _ _ h => h) (Or.inl ⟨by rfl, ?_⟩) hHeld ?_
            rotate_left
            · (intro w' hSw; (try dsimp only at hSw); go_simp <;> with_reducible rfl)
            try simp only [Act.put, List.getElem_toArray, List.getElem_cons_succ, List.getElem_cons_zero, List.setIfInBounds_toArray, List.set_cons_zero, List.set_cons_succ]
            refine wpAnyH_take (i := 6) (oi := _) (v := ?_) rfl (by kernel_rfl) (by kernel_rfl) (by kernel_rfl) (fun _ _ _ h => h) (Or.inl ⟨by rfl, ?_⟩) hHeld ?_
            rotate_left
            · (intro w' hSw; (try dsimp only at hSw); go_simp <;> with_reducible rfl)
            try simp only [Act.put, List.getElem_toArray, List.getElem_cons_succ, List.getElem_cons_zero, List.setIfInBounds_toArray, List.set_cons_zero, List.set_cons_succ]
            obtain ⟨q4, q5, q6, o4⟩ := cr_dec S.2.2.2.1 rfl hn s
            obtain ⟨cs, fr, hty⟩ := S.2.2.2.1.head rfl hn
            have n1 := ty_ne S.1 hty (by decide)
            have n6 := ty_ne S.2.1 hty (by decide)
            have x1 := S.1.far (p := ⟨gT, n * 3 + 2, none⟩) n1 (.int .i64 s)
            have x6 := S.2.1.far (p := ⟨gT, n * 3 + 2, none⟩) n6 (.int .i64 s)
            have hRw := S.2.2.2.2.1
            have R7 := S.2.2.2.2.2.1.far (g := gT) (by omega) (n * 3 + 2) (.int .i64 s)
            have T7 := S.2.2.2.2.2.2.set_new (g := gT) q6 (n * 3 + 2) (.int .i64 s)
            have hgw := S.2.2.1
            clear S hty
            refine wpAnyH_ready (rs := [7]) (by kernel_rfl) (by simp) (AllReadyH.cons (o := _) rfl (fun K hK => ?_) AllReadyH.nil)
            try simp only [Act.put, List.getElem_toArray, List.getElem_cons_succ, List.getElem_cons_zero, List.setIfInBounds_toArray, List.set_cons_zero, List.set_cons_succ]
            go_simp
            refine hK.out _ _ ⟨x6.reads.1, x6.reads.2.1⟩ (fun hHeld => ?_)
            clear hK K
            try simp only [Act.put, List.getElem_toArray, List.getElem_cons_succ, List.getElem_cons_zero, List.setIfInBounds_toArray, List.set_cons_zero, List.set_cons_succ]
            refine wpAnyH_done (by kernel_rfl) ?_ _
            clear hHeld q4 q5
            obtain ⟨W, hW⟩ : ∃ x, W.setCell ⟨gT, n * 3 + 2, none⟩ (.int .i64 s) = x := ⟨_, rfl⟩
            rw [hW] at x1 x6 R7 T7 o4 ⊢
            have HSM : Hid (SmC ⟨c.ts.set n ⟨c.ts[n].ps, c.ts[n].vs, s⟩, c.os⟩) := HF.out.set hps hus
            have S : DrC w R g _ (.slice (some ⟨gT, 0, none⟩) c.ts.length ca) (.slice Ab c.os.length cb) col ⟨c.ts.set n ⟨c.ts[n].ps, c.ts[n].vs, s⟩, c.os⟩ W := ⟨x1, x6, hgw, o4, hRw, R7, T7⟩
            clear hW x1 x6 R7 T7 o4 hgw hRw
            obtain ⟨k9, hk9⟩ : ∃ k9 : Crd, k9 = ⟨c.ts.set n ⟨c.ts[n].ps, c.ts[n].vs, s⟩, c.os⟩ := ⟨_, rfl⟩
            rw [← hk9] at S HSM
            clear hk9
            obtain ⟨t0, t1, tf⟩ := id S.1.reads
            have tf0 := tf 0
            have tf1 := tf 1
            obtain ⟨u0, u1, -⟩ := id S.2.1.reads
            have o10 := (S.2.2.2.1.keptT (by decide) (by decide) (by decide) (by decide) (but_set W w.heap.size 0 (.slice (some ⟨gT, 0, none⟩) c.ts.length ca)) (blk_type S.1)).keptT (by decide) (by decide) (by decide) (by decide) (but_set _ w.heap.size 1 (.slice Ab c.os.length cb)) (blk_type (S.1.set0 (.slice (some ⟨gT, 0, none⟩) c.ts.length ca)))
            have R10 := (S.2.2.2.2.2.1.far S.2.2.2.2.1 0 (.slice (some ⟨gT, 0, none⟩) c.ts.length ca)).far S.2.2.2.2.1 1 (.slice Ab c.os.length cb)
            have T10 := (S.2.2.2.2.2.2.set_new (Nat.le_refl w.heap.size) 0 (.slice (some ⟨gT, 0, none⟩) c.ts.length ca)).set_new (Nat.le_refl w.heap.size) 1 (.slice Ab c.os.length cb)
            obtain ⟨p0, p1, -⟩ := ((S.1.set0 (.slice (some ⟨gT, 0, none⟩) c.ts.length ca)).set1 (.slice Ab c.os.length cb)).reads
            clear tf S
            go_wp2
            exact bodyPost_ret (v := .agg #[.slice (some ⟨gT, 0, none⟩) c.ts.length ca, .slice Ab c.os.length cb]) (by simp [results, Try.results33, go_sem, p0, p1]) rfl ⟨_, k9, _, rfl, o10, HSM.out, R10.more (by push_cast; omega), T10⟩
          · have e5 : (d5 == 0) = false := by rw [beq_eq_false_iff_ne]; exact h0
            by_cases h1 : d5 = 1
            · have e6 : (d5 == 1) = true := by rw [h1]; rfl
              clear h0 h1 d50 d51
              have y1f := yf 1
              clear yf
              have oI := S.2.2.2.1.parts.2.1
              have rI := World.ownsRow.alloc oI (.cells #[.int .i64 n] 3)
              have zI := S.size
              have hRw := S.2.2.2.2.1
              have hgw := S.2.2.1
              have R7 := S.2.2.2.2.2.1
              have T7 := S.2.2.2.2.2.2
              have HP := hid (cr_order_ (n := (n : Int)) S.2.2.2.1 S.1 S.2.1 (by omega) (by omega) zI)
              clear S oI
              go_upto_region 30 with (at_builtin; go_must (refine wpList_append_own_at _ rfl _ _ 24 rfl w.heap.size 3 i1 (.int .i64 0) 1 8 Try.underlying24 hj hy0 hy1 hy2 rfl (by decide) (.slice Ab c.os.length cb) c.os.length _ rfl rI ⟨w6.heap.size, 0, none⟩ 1 1 [.int .i64 n] rfl rfl (cell_one_new _ _ _) (one_int _) (by unfold maxLen; omega) (by omega) (by simp; omega) ?_); intro v7 w7 hown hg _ hat; obtain ⟨A7, c7, col7, rfl, ⟨v4, t4⟩, f4, x1, x6, b1, o9⟩ := HP.out _ _ hown hg hat)
              obtain ⟨W, hW⟩ : ∃ x, w7.setCell ⟨g, 1, none⟩ (.slice A7 (c.os.length + 1) c7) = x := ⟨_, rfl⟩
              rw [hW] at x1 x6 b1 o9 ⊢
              replace R7 := R7.below b1 hRw
              replace T7 : But R w W := ⟨b1.os.trans T7.os, b1.tape.trans T7.tape, b1.output.trans T7.output, Nat.le_trans T7.size b1.size, fun j hj hne => (b1.block j hj).trans (T7.block j hj hne)⟩
              have HSM : Hid (SmC ⟨c.ts, c.os ++ [(n : Int)]⟩) := ⟨HF.out.ts, by show (c.os ++ [(n : Int)]).length ≤ 13; simp; omega, HF.out.ps, HF.out.us⟩
              have S : DrC w R g _ (.slice (some ⟨gT, 0, none⟩) c.ts.length ca) (.slice A7 (c.os.length + 1) c7) col7 ⟨c.ts, c.os ++ [(n : Int)]⟩ W := ⟨x1, x6, hgw, o9, hRw, R7, T7⟩
              clear hW x1 x6 b1 R7 T7 o9 hgw hRw t4 f4 HP rI hown hg hat y0 y1 y1f e5 e6
              obtain ⟨k9, hk9⟩ : ∃ k9 : Crd, k9 = ⟨c.ts, c.os ++ [(n : Int)]⟩ := ⟨_, rfl⟩
              rw [← hk9] at S HSM
              clear hk9
              obtain ⟨t0, t1, tf⟩ := id S.1.reads
              have tf0 := tf 0
              have tf1 := tf 1
              obtain ⟨u0, u1, -⟩ := id S.2.1.reads
              have o10 := (S.2.2.2.1.keptT (by decide) (by decide) (by decide) (by decide) (but_set W w.heap.size 0 (.slice (some ⟨gT, 0, none⟩) c.ts.length ca)) (blk_type S.1)).keptT (by decide) (by decide) (by decide) (by decide) (but_set _ w.heap.size 1 (.slice A7 (c.os.length + 1) c7)) (blk_type (S.1.set0 (.slice (some ⟨gT, 0, none⟩) c.ts.length ca)))
              have R10 := (S.2.2.2.2.2.1.far S.2.2.2.2.1 0 (.slice (some ⟨gT, 0, none⟩) c.ts.length ca)).far S.2.2.2.2.1 1 (.slice A7 (c.os.length + 1) c7)
              have T10 := (S.2.2.2.2.2.2.set_new (Nat.le_refl w.heap.size) 0 (.slice (some ⟨gT, 0, none⟩) c.ts.length ca)).set_new (Nat.le_refl w.heap.size) 1 (.slice A7 (c.os.length + 1) c7)
              obtain ⟨p0, p1, -⟩ := ((S.1.set0 (.slice (some ⟨gT, 0, none⟩) c.ts.length ca)).set1 (.slice A7 (c.os.length + 1) c7)).reads
              clear tf S
              go_wp2
              exact bodyPost_ret (v := .agg #[.slice (some ⟨gT, 0, none⟩) c.ts.length ca, .slice A7 (c.os.length + 1) c7]) (by simp [results, Try.results33, go_sem, p0, p1]) rfl ⟨_, k9, _, rfl, o10, HSM.out, R10.more (by push_cast; omega), T10⟩
            · have e6 : (d5 == 1) = false := by rw [beq_eq_false_iff_ne]; exact h1
              by_cases h2 : d5 = 2
              · have e7 : (d5 == 2) = true := by rw [h2]; rfl
                clear h0 h1 h2 d50 d51 yf
                have hvl : 0 < c.ts[n].vs.length := by
                  have hv := HV.out.txs _ (List.getElem_mem hn)
                  rw [hv.len]
                  exact List.length_pos_iff.2 hv.parts.1
                obtain ⟨g2, c9, r0, r1, r2, r3, ⟨cs2, fr2, hty2⟩, HVo⟩ := cr_vote (k := 0) S.2.2.2.1 rfl hn hvl
                have hgT : gT < w6.heap.size := by
                  obtain ⟨cs, fr, hty⟩ := S.2.2.2.1.head rfl hn
                  exact blk_lt hty
                have hg2l : g2 < w6.heap.size := blk_lt hty2
                have hgTB : w.heap.size ≤ gT := (cr_dec S.2.2.2.1 rfl hn 0).2.2.1
                clear r1 r2 HVo hty2
                have hvl2 := hps.2
                obtain ⟨vl, hvle⟩ : ∃ vl, c.ts[n].vs.length = vl := ⟨_, rfl⟩
                have HVL := hid hvle
                rw [hvle] at r0 hvl hvl2
                have k0 : (0 : Int) ≤ (n : Int) := by omega
                have k1 : (n : Int) < (c.ts.length : Int) := by omega
                have k2 : decide ((0 : Int) < (vl : Int)) = true := decide_eq_true (by omega)
                have k3 : (0 : Int) < (vl : Int) := by omega
                clear hvle
                go_wp2_with fail
                refine wp_region_held_drew (S := fun x => (x.cell? ⟨g, 0, none⟩ = some (.slice (some ⟨gT, 0, none⟩) c.ts.length ca) ∧ x.cell? ⟨g, 1, none⟩ = some (.slice Ab c.os.length cb)) ∧ x.cell? ⟨gT, n * 3 + 1, none⟩ = some (.slice (some ⟨g2, 0, none⟩) vl c9)) (by kernel_rfl) ⟨⟨(S.call (Below.refl _ _).drew).2.1.reads.1, (S.call (Below.refl _ _).drew).2.1.reads.2.1⟩, r0⟩ (fun hHeld => ?_)
                have Bd := (Below.refl w6.heap.size w6).drew
                replace S := S.call Bd
                have hRw := S.2.2.2.2.1
                replace hgT := Nat.lt_of_lt_of_le hgT Bd.size
                replace hg2l := Nat.lt_of_lt_of_le hg2l Bd.size
                clear Bd
                obtain ⟨W, hW⟩ : ∃ x, w6.drew = x := ⟨_, rfl⟩
                have r0W : W.cell? ⟨gT, n * 3 + 1, none⟩ = some (.slice (some ⟨g2, 0, none⟩) vl c9) := by rw [← hW]; exact r0
                rw [hW] at S hHeld hgT hg2l ⊢
                clear hW y0 y1 e5 e6 e7 r0
                try simp only [Act.put, List.getElem_toArray, List.getElem_cons_succ, List.getElem_cons_zero, List.setIfInBounds_toArray, List.set_cons_zero, List.set_cons_succ]
                refine wpAnyH_take (i := 0) (oi := _) (v := ?_) rfl (by kernel_rfl) (by kernel_rfl) (by kernel_rfl) (fun _ _ _ h => h) (Or.inl ⟨by rfl, ?_⟩) hHeld ?_
                rotate_left
                · (intro w' hSw; (try dsimp only at hSw); go_simp <;> with_reducible rfl)
                try simp only [Act.put, List.getElem_toArray, List.getElem_cons_succ, List.getElem_cons_zero, List.setIfInBounds_toArray, List.set_cons_zero, List.set_cons_succ]
                refine wpAnyH_take (i := 1) (oi := _) (v := ?_) rfl (by kernel_rfl) (by kernel_rfl) (by kernel_rfl) (fun _ _ _ h => h) (Or.inl ⟨by rfl, ?_⟩) hHeld ?_
                rotate_left
                · (intro w' hSw; (try dsimp only at hSw); go_simp <;> with_reducible rfl)
                try simp only [Act.put, List.getElem_toArray, List.getElem_cons_succ, List.getElem_cons_zero, List.setIfInBounds_toArray, List.set_cons_zero, List.set_cons_succ]
                refine wpAnyH_take (i := 2) (oi := _) (v := ?_) rfl (by kernel_rfl) (by kernel_rfl) (by kernel_rfl) (fun _ _ _ h => h) (Or.inl ⟨by rfl, ?_⟩) hHeld ?_
                rotate_left
                · (intro w' hSw; (try dsimp only at hSw); go_simp <;> with_reducible rfl)
                try simp only [Act.put, List.getElem_toArray, List.getElem_cons_succ, List.getElem_cons_zero, List.setIfInBounds_toArray, List.set_cons_zero, List.set_cons_succ]
                refine wpAnyH_take (i := 3) (oi := _) (v := ?_) rfl (by kernel_rfl) (by kernel_rfl) (by kernel_rfl) (fun _ _ _ h => h) (Or.inl ⟨by rfl, ?_⟩) hHeld ?_
                rotate_left
                · (intro w' hSw; (try dsimp only at hSw); go_simp <;> with_reducible rfl)
                try simp only [Act.put, List.getElem_toArray, List.getElem_cons_succ, List.getElem_cons_zero, List.setIfInBounds_toArray, List.set_cons_zero, List.set_cons_succ]
                refine wpAnyH_take (i := 4) (oi := _) (v := ?_) rfl (by kernel_rfl) (by kernel_rfl) (by kernel_rfl) (fun _ _ _ h => h) (Or.inl ⟨by rfl, ?_⟩) hHeld ?_
                rotate_left
                · (intro w' hSw; (try dsimp only at hSw); go_simp <;> with_reducible rfl)
                try simp only [Act.put, List.getElem_toArray, List.getElem_cons_succ, List.getElem_cons_zero, List.setIfInBounds_toArray, List.set_cons_zero, List.set_cons_succ]
                refine wpAnyH_take (i := 5) (oi := _) (v := ?_) rfl (by kernel_rfl) (by kernel_rfl) (by kernel_rfl) (fun _ _ _ h => h) (Or.inl ⟨by rfl, ?_⟩) hHeld ?_
                rotate_left
                · (intro w' hSw; (try dsimp only at hSw); go_simp <;> with_reducible rfl)
                try simp only [Act.put, List.getElem_toArray, List.getElem_cons_succ, List.getElem_cons_zero, List.setIfInBounds_toArray, List.set_cons_zero, List.set_cons_succ]
                refine wpAnyH_take (i := 6) (oi := _) (v := ?_) rfl (by kernel_rfl) (by kernel_rfl) (by kernel_rfl) (fun _ _ _ h => h) (Or.inl ⟨by rfl, ?_⟩) hHeld ?_
                rotate_left
                · (intro w' hSw; (try dsimp only at hSw); go_simp <;> with_reducible rfl)
                try simp only [Act.put, List.getElem_toArray, List.getElem_cons_succ, List.getElem_cons_zero, List.setIfInBounds_toArray, List.set_cons_zero, List.set_cons_succ]
                refine wpAnyH_ready (rs := [7]) (by kernel_rfl) (by simp) (AllReadyH.cons (o := _) rfl (fun K hK => ?_) AllReadyH.nil)
                try simp only [Act.put, List.getElem_toArray, List.getElem_cons_succ, List.getElem_cons_zero, List.setIfInBounds_toArray, List.set_cons_zero, List.set_cons_succ]
                go_simp
                go_at_call 34
                refine (pick_any R _ 4 _ S.2.2.2.2.2.1 (by omega) (by omega) (by omega)).mono ?_
                rintro e W ⟨s, rfl, s0, s1, R6, T6⟩
                replace S := S.pick R6 T6
                replace r0W := (T6.cell (n * 3 + 1) hgT (by omega)).trans r0W
                clear R6 T6
                refine hK.out _ _ ⟨⟨S.2.1.reads.1, S.2.1.reads.2.1⟩, r0W⟩ (fun hHeld => ?_)
                clear hK K
                try simp only [Act.put, List.getElem_toArray, List.getElem_cons_succ, List.getElem_cons_zero, List.setIfInBounds_toArray, List.set_cons_zero, List.set_cons_succ]
                have e9 : IntKind.i64.wrap (s - 2) = s - 2 := IntWalk.i64_in _ (by omega)
                refine wpAnyH_take (i := 8) (oi := _) (v := ?_) rfl (by kernel_rfl) (by kernel_rfl) (by kernel_rfl) (fun _ _ _ h => h) (Or.inl ⟨by rfl, ?_⟩) hHeld ?_
                rotate_left
                · (intro w' hSw; (try dsimp only at hSw); go_simp <;> with_reducible rfl)
                try simp only [Act.put, List.getElem_toArray, List.getElem_cons_succ, List.getElem_cons_zero, List.setIfInBounds_toArray, List.set_cons_zero, List.set_cons_succ]
                refine wpAnyH_take (i := 9) (oi := _) (v := ?_) rfl (by kernel_rfl) (by kernel_rfl) (by kernel_rfl) (fun _ _ _ h => h) (Or.inl ⟨by rfl, ?_⟩) hHeld ?_
                rotate_left
                · (intro w' hSw; (try dsimp only at hSw); go_simp <;> with_reducible rfl)
                try simp only [Act.put, List.getElem_toArray, List.getElem_cons_succ, List.getElem_cons_zero, List.setIfInBounds_toArray, List.set_cons_zero, List.set_cons_succ]
                obtain ⟨g2', c9', r0, r1, r2, r3, ⟨cs2, fr2, hty2⟩, HVo⟩ := cr_vote (k := 0) S.2.2.2.1 rfl hn (by rw [HVL.out]; exact hvl)
                rw [r0W] at r0
                injection r0 with r0
                injection r0 with r0 r00 r000
                injection r0 with r0
                injection r0 with r0
                subst r0
                clear r00 r000
                have o4 := HVo (s - 2)
                obtain ⟨cs3, fr3, hty3⟩ := S.2.2.2.1.head rfl hn
                have n1 := ty_ne S.1 hty2 (by decide)
                have n6 := ty_ne S.2.1 hty2 (by decide)
                have n7 := ty_ne hty3 hty2 (by decide)
                have x1 := S.1.far (p := ⟨g2, 0, none⟩) n1 (.int .i64 (s - 2))
                have x6 := S.2.1.far (p := ⟨g2, 0, none⟩) n6 (.int .i64 (s - 2))
                have R7 := S.2.2.2.2.2.1.far (g := g2) (by omega) 0 (.int .i64 (s - 2))
                have T7 := S.2.2.2.2.2.2.set_new (g := g2) r3 0 (.int .i64 (s - 2))
                have hgw := S.2.2.1
                have r0X : (W.setCell ⟨g2, 0, none⟩ (.int .i64 (s - 2))).cell? ⟨gT, n * 3 + 1, none⟩ = some (.slice (some ⟨g2, 0, none⟩) vl c9) := (World.cell?_setCell_far W ⟨g2, 0, none⟩ ⟨gT, n * 3 + 1, none⟩ _ (fun e => n7 e.symm)).trans r0W
                clear S hty2 hty3 HVo r0W
                refine wpAnyH_ready (rs := [10]) (by kernel_rfl) (by simp) (AllReadyH.cons (o := _) rfl (fun K hK => ?_) AllReadyH.nil)
                try simp only [Act.put, List.getElem_toArray, List.getElem_cons_succ, List.getElem_cons_zero, List.setIfInBounds_toArray, List.set_cons_zero, List.set_cons_succ]
                go_simp
                refine hK.out _ _ ⟨⟨x6.reads.1, x6.reads.2.1⟩, r0X⟩ (fun hHeld => ?_)
                clear hK K
                try simp only [Act.put, List.getElem_toArray, List.getElem_cons_succ, List.getElem_cons_zero, List.setIfInBounds_toArray, List.set_cons_zero, List.set_cons_succ]
                refine wpAnyH_done (by kernel_rfl) ?_ _
                clear hHeld r0X r1 r2
                obtain ⟨W, hW⟩ : ∃ x, W.setCell ⟨g2, 0, none⟩ (.int .i64 (s - 2)) = x := ⟨_, rfl⟩
                rw [hW] at x1 x6 R7 T7 o4 ⊢
                have HSM : Hid (SmC ⟨c.ts.set n ⟨c.ts[n].ps, c.ts[n].vs.set 0 (s - 2), c.ts[n].d⟩, c.os⟩) := HF.out.set ⟨hps.1, by rw [List.length_set]; exact hps.2⟩ hus
                have S : DrC w R g _ (.slice (some ⟨gT, 0, none⟩) c.ts.length ca) (.slice Ab c.os.length cb) col ⟨c.ts.set n ⟨c.ts[n].ps, c.ts[n].vs.set 0 (s - 2), c.ts[n].d⟩, c.os⟩ W := ⟨x1, x6, hgw, o4, hRw, R7, T7⟩
                clear hW x1 x6 R7 T7 o4 hgw
                obtain ⟨k9, hk9⟩ : ∃ k9 : Crd, k9 = ⟨c.ts.set n ⟨c.ts[n].ps, c.ts[n].vs.set 0 (s - 2), c.ts[n].d⟩, c.os⟩ := ⟨_, rfl⟩
                rw [← hk9] at S HSM
                clear hk9
                obtain ⟨t0, t1, tf⟩ := id S.1.reads
                have tf0 := tf 0
                have tf1 := tf 1
                obtain ⟨u0, u1, -⟩ := id S.2.1.reads
                have o10 := (S.2.2.2.1.keptT (by decide) (by decide) (by decide) (by decide) (but_set W w.heap.size 0 (.slice (some ⟨gT, 0, none⟩) c.ts.length ca)) (blk_type S.1)).keptT (by decide) (by decide) (by decide) (by decide) (but_set _ w.heap.size 1 (.slice Ab c.os.length cb)) (blk_type (S.1.set0 (.slice (some ⟨gT, 0, none⟩) c.ts.length ca)))
                have R10 := (S.2.2.2.2.2.1.far S.2.2.2.2.1 0 (.slice (some ⟨gT, 0, none⟩) c.ts.length ca)).far S.2.2.2.2.1 1 (.slice Ab c.os.length cb)
                have T10 := (S.2.2.2.2.2.2.set_new (Nat.le_refl w.heap.size) 0 (.slice (some ⟨gT, 0, none⟩) c.ts.length ca)).set_new (Nat.le_refl w.heap.size) 1 (.slice Ab c.os.length cb)
                obtain ⟨p0, p1, -⟩ := ((S.1.set0 (.slice (some ⟨gT, 0, none⟩) c.ts.length ca)).set1 (.slice Ab c.os.length cb)).reads
                clear tf S
                go_wp2
                exact bodyPost_ret (v := .agg #[.slice (some ⟨gT, 0, none⟩) c.ts.length ca, .slice Ab c.os.length cb]) (by simp [results, Try.results33, go_sem, p0, p1]) rfl ⟨_, k9, _, rfl, o10, HSM.out, R10.more (by push_cast; omega), T10⟩
              · have e7 : (d5 == 2) = false := by rw [beq_eq_false_iff_ne]; exact h2
                clear h0 h1 h2 d50 d51 yf
                have HSM := HF
                go_upto_region 30 with fail
                obtain ⟨W, hW⟩ : ∃ x, w6 = x := ⟨_, rfl⟩
                rw [hW] at S ⊢
                clear hW y0 y1 e5 e6 e7
                obtain ⟨t0, t1, tf⟩ := id S.1.reads
                have tf0 := tf 0
                have tf1 := tf 1
                obtain ⟨u0, u1, -⟩ := id S.2.1.reads
                have o10 := (S.2.2.2.1.keptT (by decide) (by decide) (by decide) (by decide) (but_set W w.heap.size 0 (.slice (some ⟨gT, 0, none⟩) c.ts.length ca)) (blk_type S.1)).keptT (by decide) (by decide) (by decide) (by decide) (but_set _ w.heap.size 1 (.slice Ab c.os.length cb)) (blk_type (S.1.set0 (.slice (some ⟨gT, 0, none⟩) c.ts.length ca)))
                have R10 := (S.2.2.2.2.2.1.far S.2.2.2.2.1 0 (.slice (some ⟨gT, 0, none⟩) c.ts.length ca)).far S.2.2.2.2.1 1 (.slice Ab c.os.length cb)
                have T10 := (S.2.2.2.2.2.2.set_new (Nat.le_refl w.heap.size) 0 (.slice (some ⟨gT, 0, none⟩) c.ts.length ca)).set_new (Nat.le_refl w.heap.size) 1 (.slice Ab c.os.length cb)
                obtain ⟨p0, p1, -⟩ := ((S.1.set0 (.slice (some ⟨gT, 0, none⟩) c.ts.length ca)).set1 (.slice Ab c.os.length cb)).reads
                clear tf S
                go_wp2
                exact bodyPost_ret (v := .agg #[.slice (some ⟨gT, 0, none⟩) c.ts.length ca, .slice Ab c.os.length cb]) (by simp [results, Try.results33, go_sem, p0, p1]) rfl ⟨_, c, _, rfl, o10, HSM.out, R10.more (by push_cast; omega), T10⟩
end Go.Proofs.Ytjplondblkkpmaa
