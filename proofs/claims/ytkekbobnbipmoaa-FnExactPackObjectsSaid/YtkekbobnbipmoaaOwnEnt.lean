/-
  Lists of entries of the call's own; all of their links and operations lie apart.
-/
import Derived.Test.YtkekbobnbipmoaaPackI
namespace Go.Proofs.Ytkekbobnbipmoaa
open Go.RowKit Wo Pu

theorem two_ne {w : World} {B B' sz sz' n m : Nat} {e e' : TypeId} {v u : Value} {xs ys : List Value} (h : w.ownsRow B e sz v n xs) (h' : w.ownsRow B' e' sz' u m ys) (he : e ≠ e') : ∀ k, v.ownBlock = some k → u.ownBlock ≠ some k := fun k hk hu => by
  rcases h'.2 with ⟨rfl, _⟩ | ⟨g, cap, cur, rfl, _, hh, _⟩
  · cases hu
  · have hg : g = k := by
      have hu' : some g = some k := hu
      injection hu'
    subst hg
    rcases h.2 with ⟨rfl, _⟩ | ⟨g2, cap2, cur2, rfl, _, hh2, _⟩
    · cases hk
    · have hg2 : g2 = g := by
        have hk' : some g2 = some g := hk
        injection hk'
      subst hg2
      rw [hh] at hh2
      injection hh2 with h3
      injection h3 with _ h3
      exact he h3.symm
theorem row_keep {w w' : World} {B B' sz sz' n m : Nat} {e e' : TypeId} {v u : Value} {xs ys : List Value} (h : w.ownsRow B e sz v n xs) (h' : w.ownsRow B' e' sz' u m ys) (he : e ≠ e') (hg : w.grownBy w' u.ownBlock) : w'.ownsRow B e sz v n xs :=
  World.ownsRow.kept h hg (by
    rcases hv : v.ownBlock with _ | k
    · exact .inl rfl
    · exact .inr (fun hu => two_ne h h' he k hv hu.symm))

def flat (ps : List (Value × Value)) : List Value := ps.flatMap fun p => [p.1, p.2]
theorem flat_snoc (ps : List (Value × Value)) (a b : Value) : flat (ps ++ [(a, b)]) = flat ps ++ [a, b] := by simp [flat]
/-- The cells xs are the entries es, with the links and operations ps, below M, all apart. -/
def EIn (w : World) (B M : Nat) (xs : List Value) (es : List Ent) (ps : List (Value × Value)) : Prop :=
  ps.length = es.length ∧ (∀ j (h : j < es.length) (h2 : j < ps.length), xs[j * 4]? = some (.int .i64 es[j].kd) ∧ xs[j * 4 + 1]? = some ps[j].1 ∧ xs[j * 4 + 2]? = some (.int .i64 es[j].b) ∧ xs[j * 4 + 3]? = some ps[j].2 ∧
    Own w B ps[j].1 es[j].zs ∧ OwnOps w B ps[j].2 es[j].ops) ∧ (flat ps).Pairwise Ap2 ∧ ∀ u ∈ flat ps, ∀ g, u.ownBlock = some g → g < M
def OwnEnts (w : World) (B M : Nat) (v : Value) (es : List Ent) : Prop := ∃ xs ps, w.ownsRow B 33 4 v es.length xs ∧ EIn w B M xs es ps
theorem EIn.below {w w' : World} {B M : Nat} {xs : List Value} {es : List Ent} {ps : List (Value × Value)} (h : EIn w B M xs es ps) (hb : Below w.heap.size w w') : EIn w' B M xs es ps := by
  obtain ⟨h1, h2, h3, h4⟩ := h
  refine ⟨h1, fun j hj hj2 => ?_, h3, h4⟩
  obtain ⟨a, b, c, d, e, f⟩ := h2 j hj hj2
  exact ⟨a, b, c, d, e.below hb (Nat.le_refl _), f.below hb⟩
theorem OwnEnts.below {w w' : World} {B M : Nat} {v : Value} {es : List Ent} (h : OwnEnts w B M v es) (hb : Below w.heap.size w w') : OwnEnts w' B M v es := by
  obtain ⟨xs, ps, h1, h2⟩ := h
  exact ⟨xs, ps, own_below h1 hb (Nat.le_refl _), h2.below hb⟩
theorem EIn.base {w : World} {B B' M : Nat} {xs : List Value} {es : List Ent} {ps : List (Value × Value)} (h : EIn w B M xs es ps) (hB : B' ≤ B) : EIn w B' M xs es ps := by
  obtain ⟨h1, h2, h3, h4⟩ := h
  refine ⟨h1, fun j hj hj2 => ?_, h3, h4⟩
  obtain ⟨a, b, c, d, e, f⟩ := h2 j hj hj2
  exact ⟨a, b, c, d, e.base hB, f.base hB⟩
theorem OwnEnts.base {w : World} {B B' M : Nat} {v : Value} {es : List Ent} (h : OwnEnts w B M v es) (hB : B' ≤ B) : OwnEnts w B' M v es := by
  obtain ⟨xs, ps, ⟨h1, h1'⟩, h2⟩ := h
  refine ⟨xs, ps, ⟨h1, ?_⟩, h2.base hB⟩
  rcases h1' with h1' | ⟨g, cap, cur, hv, hb, hr⟩
  · exact .inl h1'
  · exact .inr ⟨g, cap, cur, hv, by omega, hr⟩
theorem EIn.grown {w w' : World} {B B' M sz n : Nat} {t : TypeId} {u : Value} {xs ys : List Value} {es : List Ent} {ps : List (Value × Value)} (h : EIn w B M xs es ps) (h' : w.ownsRow B' t sz u n ys) (ht : 3 ≠ t) (ht2 : 99 ≠ t) (hg : w.grownBy w' u.ownBlock) : EIn w' B M xs es ps := by
  obtain ⟨h1, h2, h3, h4⟩ := h
  refine ⟨h1, fun j hj hj2 => ?_, h3, h4⟩
  obtain ⟨a, b, c, d, e, f⟩ := h2 j hj hj2
  exact ⟨a, b, c, d, row_keep e h' ht hg, row_keep f h' ht2 hg⟩
theorem EIn.nil_ (w : World) (B M : Nat) : EIn w B M [] [] [] := ⟨rfl, fun j hj => absurd hj (by simp), List.Pairwise.nil, fun u hu => by cases hu⟩
theorem EIn.low {w : World} {B M : Nat} {xs : List Value} {es : List Ent} {ps : List (Value × Value)} (h : EIn w B M xs es ps) : EIn w B w.heap.size xs es ps := by
  obtain ⟨h1, h2, h3, h4⟩ := h
  refine ⟨h1, h2, h3, fun u hu g hg => ?_⟩
  obtain ⟨p, hp, hpu⟩ := List.mem_flatMap.1 hu
  obtain ⟨j, hj, rfl⟩ := List.mem_iff_getElem.1 hp
  obtain ⟨_, _, _, _, e, f⟩ := h2 j (by omega) hj
  simp only [List.mem_cons, List.not_mem_nil, or_false] at hpu
  rcases hpu with rfl | rfl
  · exact (World.ownsRow.lt e g hg).2
  · exact (World.ownsRow.lt f g hg).2
theorem ent_cells (k b : Int) (A A' : Option Addr) (n c n' c' : Nat) : ∀ u ∈ [Value.int .i64 k, .slice A n c, .int .i64 b, .slice A' n' c'], u.oneCell' = true := by
  intro u hu
  simp only [List.mem_cons, List.not_mem_nil, or_false] at hu
  rcases hu with rfl | rfl | rfl | rfl <;> rfl
/-- One entry more. -/
theorem EIn.app {w w1 : World} {B M : Nat} {v v' lv ov : Value} {xs : List Value} {es : List Ent} {ps : List (Value × Value)} {e : Ent} (h : EIn w B M xs es ps) (hrow : w.ownsRow B 33 4 v es.length xs) (hl : Own w B lv e.zs) (ho : OwnOps w B ov e.ops) (hap : Ap2 lv ov)
    (hlM : ∀ g, lv.ownBlock = some g → M ≤ g) (hoM : ∀ g, ov.ownBlock = some g → M ≤ g) (hown : w1.ownsRow B 33 4 v' (es.length + 1) (xs ++ [.int .i64 e.kd, lv, .int .i64 e.b, ov]))
    (hg : (w.alloc (.cells #[.int .i64 e.kd, lv, .int .i64 e.b, ov] 33)).grownBy w1 v.ownBlock) : OwnEnts w1 B w1.heap.size v' (es ++ [e]) := by
  have al := (Below.refl w.heap.size w).alloc (Nat.le_refl _) (.cells #[.int .i64 e.kd, lv, .int .i64 e.b, ov] 33)
  have hxl : xs.length = es.length * 4 := hrow.1
  have hrow2 := own_below hrow al (Nat.le_refl _)
  have h2 := (h.below al).grown hrow2 (by decide) (by decide) hg
  have hl2 : Own w1 B lv e.zs := row_keep (hl.below al (Nat.le_refl _)) hrow2 (by decide) hg
  have ho2 : OwnOps w1 B ov e.ops := row_keep (ho.below al) hrow2 (by decide) hg
  obtain ⟨p1, p2, p3, p4⟩ := h2
  refine ⟨_, ps ++ [(lv, ov)], by simpa using hown, EIn.low (M := w1.heap.size) ⟨by simp [p1], fun j hj hj2 => ?_, ?_, ?_⟩⟩
  · rw [List.length_append, List.length_singleton] at hj hj2
    by_cases hlt : j < es.length
    · obtain ⟨a, b, c, d, f, g⟩ := p2 j hlt (by omega)
      rw [List.getElem_append_left hlt, List.getElem_append_left (by omega)]
      exact ⟨by rw [List.getElem?_append_left (by omega)]; exact a, by rw [List.getElem?_append_left (by omega)]; exact b, by rw [List.getElem?_append_left (by omega)]; exact c, by rw [List.getElem?_append_left (by omega)]; exact d, f, g⟩
    · have hj' : j = es.length := by omega
      subst hj'
      rw [List.getElem_append_right (Nat.le_refl _), List.getElem_append_right (by omega)]
      simp only [p1, Nat.sub_self, List.getElem_singleton]
      refine ⟨?_, ?_, ?_, ?_, hl2, ho2⟩
      · rw [List.getElem?_append_right (by omega), hxl, Nat.sub_self]; rfl
      · rw [List.getElem?_append_right (by omega), hxl, show es.length * 4 + 1 - es.length * 4 = 1 from by omega]; rfl
      · rw [List.getElem?_append_right (by omega), hxl, show es.length * 4 + 2 - es.length * 4 = 2 from by omega]; rfl
      · rw [List.getElem?_append_right (by omega), hxl, show es.length * 4 + 3 - es.length * 4 = 3 from by omega]; rfl
  · rw [flat_snoc, List.pairwise_append]
    refine ⟨p3, List.Pairwise.cons (fun y hy => by rw [List.mem_singleton.1 hy]; exact hap) (List.pairwise_singleton _ _), fun a ha b hb g hga hgb => ?_⟩
    have := p4 a ha g hga
    simp only [List.mem_cons, List.not_mem_nil, or_false] at hb
    rcases hb with rfl | rfl
    · have := hlM g hgb; omega
    · have := hoM g hgb; omega
  · intro u hu g hg2
    rw [flat_snoc] at hu
    rcases List.mem_append.1 hu with hu | hu
    · have := p4 u hu g hg2
      obtain ⟨q, hq, hqu⟩ := List.mem_flatMap.1 hu
      obtain ⟨j, hj, rfl⟩ := List.mem_iff_getElem.1 hq
      obtain ⟨_, _, _, _, f, f2⟩ := p2 j (by omega) hj
      simp only [List.mem_cons, List.not_mem_nil, or_false] at hqu
      rcases hqu with rfl | rfl
      · exact (World.ownsRow.lt f g hg2).2
      · exact (World.ownsRow.lt f2 g hg2).2
    · simp only [List.mem_cons, List.not_mem_nil, or_false] at hu
      rcases hu with rfl | rfl
      · exact (World.ownsRow.lt hl2 g hg2).2
      · exact (World.ownsRow.lt ho2 g hg2).2
theorem OwnEnts.form {w : World} {B M : Nat} {v : Value} {es : List Ent} (h : OwnEnts w B M v es) : ∃ (A : Option Addr) (c : Nat), v = .slice A es.length c ∧ Ents w w.heap.size A es ∧ es.length ≤ c := by
  obtain ⟨xs, ps, h1, p1, p2, _, _⟩ := h
  have h1' := h1
  rcases h1.2 with ⟨rfl, h0⟩ | ⟨g, cap, cur, rfl, hB, hh, hn, hm, hcs, htk⟩
  · exact ⟨none, 0, by rw [h0], .inl (List.eq_nil_of_length_eq_zero h0), by omega⟩
  · refine ⟨some ⟨g, 0, none⟩, cap, rfl, .inr ⟨_, rfl, (World.ownsRow.lt h1' g rfl).2, fun i hi => ?_⟩, hn⟩
    obtain ⟨q0, q1, q2, q3, q4, q5⟩ := p2 i hi (by omega)
    obtain ⟨A1, c1, e1, r1⟩ := q4.form
    obtain ⟨A2, c2, e2, r2, _⟩ := q5.form
    rw [e1] at q1
    rw [e2] at q3
    have hc := World.ownsRow.cells h1' (g := g) rfl
    have e : ∀ d, (((⟨g, 0, none⟩ : Addr).add (i * 4)).add d) = (⟨g, 0, none⟩ : Addr).add (i * 4 + d) := fun d => add_add _ _ _
    exact ⟨A1, c1, A2, c2, hc _ _ q0, by rw [e]; exact hc _ _ q1, by rw [e]; exact hc _ _ q2, by rw [e]; exact hc _ _ q3, r1, r2⟩
theorem OwnEnts.ents {w : World} {B M n c : Nat} {A : Option Addr} {es : List Ent} (h : OwnEnts w B M (.slice A n c) es) : Ents w w.heap.size A es := by
  obtain ⟨A2, c2, hv, ho, _⟩ := h.form
  injection hv with h1 h2 h3
  subst h1
  exact ho
theorem info_ent : (Try.prog.info? 33).map (fun i => (i.zero, i.size, i.bytes)) = some (some (.agg #[.int .i64 0, .slice none 0 0, .int .i64 0, .slice none 0 0]), 4, 64) := by kernel_rfl
theorem four_at (w : World) (g : Nat) (v0 v1 v2 v3 : Value) (t : TypeId) (hg : g = w.heap.size) : ∀ j u, [v0, v1, v2, v3][j]? = some u → (w.alloc (.cells #[v0, v1, v2, v3] t)).cell? ((⟨g, 0, none⟩ : Addr).add j) = some u := by
  subst hg
  exact World.news_of_block (cs := #[v0, v1, v2, v3]) (heap_alloc_new w _)
/-- Behind it: a pack, if it can be made. -/
def Maked (list : List Ob) (w : World) (e : Ending) (w' : World) : Prop := ∃ v, e = .returned (.tuple #[v, .bool (makeB list)]) ∧ OwnEnts w' w.heap.size w'.heap.size v (packM list) ∧ Below w.heap.size w w'
theorem Maked.no_ {list : List Ob} {w w' : World} (h : makeB list = false) (hb : Below w.heap.size w w') : Maked list w (.returned (.tuple #[.slice (some ⟨w'.heap.size, 0, none⟩) 0 0, .bool false])) (w'.alloc (.cells #[] 33)) := by
  refine ⟨_, by rw [h], ?_, hb.alloc hb.size _⟩
  rw [packM_no h]
  exact ⟨[], [], nil_own hb.size _ _, EIn.nil_ _ _ _⟩
end Go.Proofs.Ytkekbobnbipmoaa
