/-
  Walk of the draw of an object.
-/
import Derived.Test.YtblknnifccmpkaaG4C
import Derived.Deep.DeepCutAuto
import Derived.Deep.CutBlock
import Derived.Deep.RegionLaw
namespace Go.Proofs.Ytblknnifccmpkaa
open Go.RowKit Wo Pu

/-- Block g is just these three cells. -/
def Blk (w : World) (g : Nat) (t : TypeId) (v0 v1 v2 : Value) : Prop := w.heap[g]? = some (.cells #[v0, v1, v2] t (0, 0))
section
variable {w w' : World} {g : Nat} {t : TypeId} {v0 v1 v2 : Value}
theorem Blk.lt (h : Blk w g t v0 v1 v2) : g < w.heap.size := by
  rcases Nat.lt_or_ge g w.heap.size with h1 | h1
  · exact h1
  · unfold Blk at h; rw [Array.getElem?_eq_none h1] at h; cases h
theorem Blk.reads (h : Blk w g t v0 v1 v2) : w.cell? ⟨g, 0, none⟩ = some v0 ∧ w.cell? ⟨g, 1, none⟩ = some v1 ∧ w.cell? ⟨g, 2, none⟩ = some v2 ∧ ∀ o, w.frozen? ⟨g, o, none⟩ = false := by
  unfold Blk at h
  exact ⟨by simp [World.cell?, h], by simp [World.cell?, h], by simp [World.cell?, h], fun o => by simp [World.frozen?, h]⟩
theorem Blk.new_ (w : World) (t : TypeId) (v0 v1 v2 : Value) : Blk (w.alloc (.cells #[v0, v1, v2] t)) w.heap.size t v0 v1 v2 := heap_alloc_new w _
theorem Blk.below {C : Nat} (h : Blk w g t v0 v1 v2) (hb : Below C w w') (hC : g < C) : Blk w' g t v0 v1 v2 := (hb.block g hC).trans h
theorem Blk.but {R : Nat} (h : Blk w g t v0 v1 v2) (hb : But R w w') (hR : g ≠ R) : Blk w' g t v0 v1 v2 := (hb.block g h.lt (fun e => hR (by injection e))).trans h
theorem Blk.far (h : Blk w g t v0 v1 v2) {p : Addr} (hp : g ≠ p.block) (u : Value) : Blk (w.setCell p u) g t v0 v1 v2 := (Below.heap_setCell w p u g hp).trans h
theorem Blk.set0 (h : Blk w g t v0 v1 v2) (u : Value) : Blk (w.setCell ⟨g, 0, none⟩ u) g t u v1 v2 := by unfold Blk at h ⊢; simp [World.setCell, Array.getElem?_modify, h]
theorem Blk.set1 (h : Blk w g t v0 v1 v2) (u : Value) : Blk (w.setCell ⟨g, 1, none⟩ u) g t v0 u v2 := by unfold Blk at h ⊢; simp [World.setCell, Array.getElem?_modify, h]
theorem Blk.set2 (h : Blk w g t v0 v1 v2) (u : Value) : Blk (w.setCell ⟨g, 2, none⟩ u) g t v0 v1 u := by unfold Blk at h ⊢; simp [World.setCell, Array.getElem?_modify, h]
theorem Own.base {B B' : Nat} {v : Value} {zs : List Int} (h : Own w B v zs) (hB : B' ≤ B) : Own w B' v zs := by
  obtain ⟨h1, h2⟩ := h
  refine ⟨h1, ?_⟩
  rcases h2 with h2 | ⟨g', cap, cur, hv, hb, hr⟩
  · exact .inl h2
  · exact .inr ⟨g', cap, cur, hv, by omega, hr⟩
theorem Own.far {B : Nat} {v : Value} {zs : List Int} (h : Own w B v zs) (hg : Blk w g 38 v0 v1 v2) (o : Nat) (u : Value) : Own (w.setCell ⟨g, o, none⟩ u) B v zs := by
  obtain ⟨h1, h2⟩ := h
  refine ⟨h1, ?_⟩
  rcases h2 with h2 | ⟨g', cap, cur, hv, hB, hh, hr⟩
  · exact .inl h2
  · refine .inr ⟨g', cap, cur, hv, hB, ?_, hr⟩
    rw [Below.heap_setCell _ _ _ _ (fun e => ?_)]
    · exact hh
    · have e' : g' = g := e
      subst e'
      unfold Blk at hg
      rw [hh] at hg
      injection hg with hg
      injection hg with _ hg
      exact absurd hg (by decide)
theorem Own.ne_ {B : Nat} {v : Value} {zs : List Int} (h : Own w B v zs) (hg : Blk w g 38 v0 v1 v2) : v.ownBlock ≠ some g := by
  obtain ⟨h1, h2⟩ := h
  rcases h2 with ⟨rfl, _⟩ | ⟨g', cap, cur, rfl, hB, hh, hr⟩
  · simp [Value.ownBlock]
  · intro e
    have e' : g' = g := by simpa [Value.ownBlock] using e
    subst e'
    unfold Blk at hg
    rw [hh] at hg
    injection hg with hg
    injection hg with _ hg
    exact absurd hg (by decide)
theorem Blk.grown {row : Option Nat} (h : Blk w g t v0 v1 v2) (hb : w.grownBy w' row) (hg : some g ≠ row) : Blk w' g t v0 v1 v2 := (hb.block g h.lt hg).trans h
theorem But.set_new {R : Nat} {a : World} (h : But R a w) (hB : a.heap.size ≤ g) (o : Nat) (u : Value) : But R a (w.setCell ⟨g, o, none⟩ u) :=
  ⟨h.os, h.tape, h.output, by simpa [World.setCell] using h.size, fun k hk hne => (Below.heap_setCell w _ u k (by show k ≠ g; omega)).trans (h.block k hk hne)⟩
theorem Rd.far {R : Nat} {q : Int} (h : Rd w R q) (hR : R < g) (o : Nat) (u : Value) : Rd (w.setCell ⟨g, o, none⟩ u) R q :=
  h.below ((Below.refl g w).setCell (p := ⟨g, o, none⟩) (Nat.le_refl g) u) hR
end

/-- An object as it is being drawn: in block g; block g4 waits for the result. -/
def ObSt (R g4 g : Nat) (q : Int) (w : World) (wx : World) : Prop :=
  ∃ (kd : Int) (A : Option Addr) (c : Nat) (zs : List Int) (s : ByteArray) (u0 u1 u2 : Value), Blk wx g 38 (.int .i64 kd) (.slice A zs.length c) (.string s) ∧ Own wx w.heap.size (.slice A zs.length c) zs ∧ zs.length ≤ 991 ∧ s.size ≤ 9 ∧
    Rd wx R q ∧ But R w wx ∧ Blk wx g4 38 u0 u1 u2
theorem ObSt.more {R g4 g : Nat} {q q' : Int} {w wx : World} (h : ObSt R g4 g q w wx) (hq : q ≤ q') : ObSt R g4 g q' w wx := by
  obtain ⟨kd, A, c, zs, s, u0, u1, u2, h1, h2, h3, h4, h5, h6⟩ := h
  exact ⟨kd, A, c, zs, s, u0, u1, u2, h1, h2, h3, h4, h5.more hq, h6⟩
/-- An object has been drawn. -/
def ObDrawn (R : Nat) (q : Int) (w : World) (e : Ending) (w' : World) : Prop :=
  ∃ (kd : Int) (A : Option Addr) (c : Nat) (zs : List Int) (s : ByteArray), e = .returned (ob kd A zs.length c s) ∧ Own w' w.heap.size (.slice A zs.length c) zs ∧ zs.length ≤ 992 ∧ s.size ≤ 9 ∧ Rd w' R q ∧ But R w w'

/-- A list of the draw's own, in a block from C on, beside what is in W. -/
def LSt (R C m : Nat) (q : Int) (W : World) (v : Value) (wx : World) : Prop := ∃ L : List Int, Own wx C v L ∧ L.length ≤ m ∧ Rd wx R q ∧ But R W wx
theorem LSt.more {R C m m' : Nat} {q q' : Int} {W : World} {v : Value} {wx : World} (h : LSt R C m q W v wx) (hm : m ≤ m') (hq : q ≤ q') : LSt R C m' q' W v wx := by
  obtain ⟨L, h1, h2, h3, h4⟩ := h
  exact ⟨L, h1, by omega, h3.more hq, h4⟩
/-- What the list is behind an append of one number. -/
theorem LSt.app {R C m : Nat} {q x : Int} {W wx w1 : World} {v v' : Value} {L : List Int} (ho : Own wx C v L) (hl : L.length ≤ m) (hR : Rd wx R q) (hb : But R W wx) (hC : C = W.heap.size) (hRC : R < C)
    (hown : w1.ownsRow C 3 1 v' (L.length + 1) (ints L ++ [.int .i64 x])) (hg : (wx.alloc (.cells #[.int .i64 x] 3)).grownBy w1 v.ownBlock) : LSt R C (m + 1) q W v' w1 := by
  have hz := hb.size
  have a1 := (Below.refl wx.heap.size wx).alloc (Nat.le_refl _) (.cells #[.int .i64 x] 3)
  refine ⟨L ++ [x], Own.app hown, by simp; omega, ?_, ?_⟩
  · have hbC : Below C wx w1 := ((Below.refl C wx).alloc (by omega) (.cells #[.int .i64 x] 3)).grown hg (by simp; omega) ho.lt
    exact hR.below hbC hRC
  · exact World.grownBy.andThen (hb.trans (.of_below a1)) hg (fun j hj => .inl (by have := ho.lt j hj; omega))

set_option maxRecDepth 100000 in
set_option maxHeartbeats 4000000 in
theorem l91Object_any (R : Nat) (q : Int) (A : Option Addr) (c : Nat) (ids : List Int) (w : World) (hR : Rd w R q) (hq : q ≤ 800000000) (hi : Own w (R + 1) (.slice A ids.length c) ids) (hl : ids.length ≤ 1000) :
    Calls Try.prog 97 #[.pointer (some ⟨R, 0, none⟩), .slice A ids.length c] w (ObDrawn R (q + 2000) w) := by
  have hRl := hR.lt
  go_enter Try.func97, Try.ntmps97
  go_wp2_with fail
  have a0 := (Below.refl w.heap.size w).alloc (Nat.le_refl _) (.cells #[.int .i64 0, .slice none 0 0, .string ⟨#[]⟩] 38)
  have u0 := Blk.new_ w 38 (.int .i64 0) (.slice none 0 0) (.string ⟨#[]⟩)
  refine (pick_any R q 3 _ (hR.below a0 hRl) (by omega) (by omega) (by omega)).mono ?_
  rintro e w1 ⟨n1, rfl, b0, b1, hR1, hT1⟩
  have u1 := u0.but hT1 (by omega)
  have T1 := (But.of_below (R := R) a0).trans hT1
  clear hT1 u0 a0
  go_wp2_with fail
  have a1 := (Below.refl w1.heap.size w1).alloc (Nat.le_refl _) (.cells #[] 3)
  have o1 : Own (w1.alloc (.cells #[] 3)) w.heap.size (.slice (some ⟨w1.heap.size, 0, none⟩) 0 0) [] := .nil_new T1.size
  refine (l91Text_any R (q + 1) _ (hR1.below a1 hR1.lt) (by omega)).mono ?_
  rintro e w2 ⟨s, rfl, hs, hR2, hT2⟩
  have T2 := (T1.trans (.of_below a1)).trans hT2
  have o2 := o1.but hT2 hRl
  have u2 := (u1.below a1 u1.lt).but hT2 (by omega)
  clear o1 u1 a1 hT2 hR1 T1
  have z2 := u2.lt
  go_upto_if 17 with fail
  have a2 := (Below.refl w2.heap.size w2).alloc (Nat.le_refl _) (.cells #[.int .i64 (1 + n1), .slice (some ⟨w1.heap.size, 0, none⟩) 0 0, .string s] 38)
  have st : ObSt R w.heap.size w2.heap.size (q + 1 + 20) w (w2.alloc (.cells #[.int .i64 (1 + n1), .slice (some ⟨w1.heap.size, 0, none⟩) 0 0, .string s] 38)) :=
    ⟨_, _, _, [], s, _, _, _, Blk.new_ w2 _ _ _ _, o2.below a2 (Nat.le_refl _), by simp, hs, hR2.below a2 hR2.lt, T2.trans (.of_below a2), u2.below a2 u2.lt⟩
  go_cut [6, 7] (fun _ _ wx => ObSt R w.heap.size w2.heap.size (q + 1500) w wx)
  case first =>
    by_cases h0 : n1 = 0
    · have e0 : (1 + n1 != 1) = false := by rw [h0]; rfl
      clear h0
      go_wp2_with fail
      go_meet
      exact st.more (by omega)
    · have e0 : (1 + n1 != 1) = true := by rw [bne_iff_ne]; omega
      obtain ⟨W, hW⟩ : ∃ W, W = w2.alloc (.cells #[.int .i64 (1 + n1), .slice (some ⟨w1.heap.size, 0, none⟩) 0 0, .string s] 38) := ⟨_, rfl⟩
      have hWz : W.heap.size = w2.heap.size + 1 := by rw [hW]; simp
      rw [← hW] at st a2
      have hL0 : Own W (R + 1) (.slice A ids.length c) ids := (hi.but T2 (by omega)).below a2 (Nat.le_refl _)
      have hRW : Rd W R (q + 1 + 20) := hR2.below a2 hR2.lt
      go_upto_block 0 with fail
      rw [← hW]
      have aW := (Below.refl W.heap.size W).alloc (Nat.le_refl _) (.cells #[] 3)
      have l0 : LSt R (w2.heap.size + 1) 0 (q + 21) W (.slice (some ⟨w2.heap.size + 1, 0, none⟩) 0 0) (W.alloc (.cells #[] 3)) := by
        refine ⟨[], ?_, Nat.le_refl _, (hRW.more (by omega)).below aW hRW.lt, .of_below aW⟩
        have := Own.nil_new (w := W) (B := w2.heap.size + 1) (by omega)
        rw [hWz] at this
        exact this
      clear hW hRW aW a2 e0 h0
      generalize Value.bool (1 + n1 != 1) = t17
      generalize Value.int .i64 (1 + n1) = t10
      go_cut [6, 7] (fun v _ wx => LSt R (w2.heap.size + 1) 4 (q + 1100) W v wx)
      case first =>
        go_wp2_with fail
        go_loopw [6, 7] (fun v i wr => ∃ k : Nat, k ≤ ids.length ∧ i = .int .i64 k ∧ LSt R (w2.heap.size + 1) 4 (q + 21 + k) W v wr) (fun _ i _ => ids.length - (intOf i).toNat)
        case atStart => exact ⟨0, Nat.zero_le _, rfl, l0.more (by omega) (by omega)⟩
        case round =>
          clear l0 st
          obtain ⟨k, hk, rfl, L, ho, hL, hRk, hB⟩ := hrel
          obtain ⟨AL, cL, rfl, hrow⟩ := ho.form
          have hlm : (L.length : Int) ≤ 4 := by omega
          by_cases hlt : k < ids.length
          · by_cases h4 : L.length < 4
            · go_wp2_with fail
              refine (pick_any R _ 3 _ hRk (by omega) (by omega) (by omega)).mono ?_
              rintro e w9 ⟨x, rfl, x0, x1, hR9, hT9⟩
              have hB9 := hB.trans hT9
              have ho9 := ho.but hT9 (by omega)
              have z9 := hB9.size
              by_cases e9 : x = 0
              · have e0 : (x == 0) = true := by rw [e9]; rfl
                clear e9
                obtain ⟨ad, rfl, _, hc9⟩ := ((hL0.but hB9 (by omega)).row).int_ hlt
                obtain ⟨i0, hi, hz0, hz1, hz2⟩ := info_of info_int
                go_wp2_with (at_builtin; go_must (refine wpList_append_own _ rfl _ _ 36 rfl (w2.heap.size + 1) 3 i0 (.int .i64 0) 1 8 Try.underlying36 hi hz0 hz1 hz2 rfl (by decide) _ _ _ rfl (World.ownsRow.alloc ho9 _) ⟨w9.heap.size, 0, none⟩ 1 1 [.int .i64 ids[k]] rfl rfl (cell_one_new _ _ _) (one_int _) (by unfold maxLen; omega) (by omega) (by simp; omega) ?_); intro v' wa hown hg _)
                have l1 := LSt.app ho9 (Nat.le_of_lt_succ h4) hR9 hB9 hWz.symm (by omega) hown hg
                clear hown hg
                go_wp2
                go_roundw
                case rel => exact ⟨k + 1, by omega, by go_num, l1.more (by omega) (by omega)⟩
                case measure => simp [intOf]; omega
              · have e0 : (x == 0) = false := by rw [beq_eq_false_iff_ne]; exact e9
                clear e9
                go_wp2
                go_roundw
                case rel => exact ⟨k + 1, by omega, by go_num, L, ho9, hL, hR9.more (by omega), hB9⟩
                case measure => simp [intOf]; omega
            · go_wp2
              go_meet
              exact ⟨L, ho, hL, hRk.more (by omega), hB⟩
          · go_wp2
            go_meet
            exact ⟨L, ho, hL, hRk.more (by omega), hB⟩
      case rest =>
        clear l0
        obtain ⟨L, ho, hL, hRk, hB⟩ := hcut
        go_wp2_with fail
        refine (pick_any R _ 8 _ hRk (by omega) (by omega) (by omega)).mono ?_
        rintro e w9 ⟨x, rfl, x0, x1, hR9, hT9⟩
        have hB9 := hB.trans hT9
        have ho9 := ho.but hT9 (by omega)
        have z9 := hB9.size
        clear hRk hB ho hT9
        go_upto_if 42 with fail
        go_cut [6] (fun v wx => LSt R (w2.heap.size + 1) 5 (q + 1110) W v wx)
        case first =>
          by_cases e9 : x = 0
          · have e0 : (x == 0) = true := by rw [e9]; rfl
            clear e9
            obtain ⟨AL, cL, rfl, hrow⟩ := ho9.form
            obtain ⟨i0, hi, hz0, hz1, hz2⟩ := info_of info_int
            go_wp2_with fail
            refine (pick_any R _ 99 _ hR9 (by omega) (by omega) (by omega)).mono ?_
            rintro e wb ⟨y, rfl, y0, y1, hRb, hTb⟩
            have hBb := hB9.trans hTb
            have hob := ho9.but hTb (by omega)
            have zb := hBb.size
            clear hR9 hB9 ho9 hTb hrow
            go_wp2_with (at_builtin; go_must (refine wpList_append_own _ rfl _ _ 36 rfl (w2.heap.size + 1) 3 i0 (.int .i64 0) 1 8 Try.underlying36 hi hz0 hz1 hz2 rfl (by decide) _ _ _ rfl (World.ownsRow.alloc hob _) ⟨wb.heap.size, 0, none⟩ 1 1 [.int .i64 (10 * y)] rfl rfl (cell_one_new _ _ _) (one_int _) (by unfold maxLen; omega) (by omega) (by simp; omega) ?_); intro v' wa hown hg _)
            have l1 := LSt.app hob hL hRb hBb hWz.symm (by omega) hown hg
            clear hown hg
            go_wp2
            go_meet
            exact l1.more (by omega) (by omega)
          · have e0 : (x == 0) = false := by rw [beq_eq_false_iff_ne]; exact e9
            clear e9
            go_wp2
            go_meet
            exact ⟨L, ho9, by omega, hR9.more (by omega), hB9⟩
        case rest =>
          clear ho9 hR9 hB9 z9 hL x0 x1
          obtain ⟨L, ho, hL, hRk, hB⟩ := hcut
          obtain ⟨AL, cL, rfl, hrow⟩ := ho.form
          go_wp2_with fail
          refine (l1Sorted_any _ AL cL L _ hrow (Nat.le_refl _) (by unfold maxLen; omega)).mono ?_
          rintro e wd ⟨v, rfl, hov, hbd⟩
          have hBd := hB.trans (.of_below hbd)
          have hRd := hRk.below hbd hRk.lt
          obtain ⟨kd, A1, c1, zs, s1, x0, x1, x2, st1, st2, st3, st4, st5, st6, st7⟩ := st
          have zc := hB.size
          clear hrow ho hB hRk hbd
          have sd1 := st1.but hBd (by omega)
          obtain ⟨k0, k1, k2, kf⟩ := sd1.reads
          have kf0 := kf 0
          have kf1 := kf 1
          have kf2 := kf 2
          clear kf
          have hU := st7.but hBd (by omega)
          have hNz := sortedTo_length L 991
          obtain ⟨A2, c2, rfl, _⟩ := hov.form
          generalize sortedTo L 991 = N at *
          have hN' : (N.length : Int) ≤ 991 := by omega
          have hBw := st6.trans hBd
          have hovw := hov.base (B' := w.heap.size) (by omega)
          clear st2 st5 st6 st7 hBd
          by_cases e2 : kd = 2
          · have e0 : (kd == 2) = true := by rw [e2]; rfl
            clear e2
            go_wp2
            go_meet
            exact ⟨kd, A2, c2, N, ⟨#[]⟩, x0, x1, x2, (sd1.set1 _).set2 _, (hovw.far sd1 1 _).far (sd1.set1 _) 2 _, hNz, by decide, ((hRd.far (by omega) 1 _).far (by omega) 2 _).more (by omega), (hBw.set_new (by omega) 1 _).set_new (by omega) 2 _, (hU.far (by simp; omega) _).far (by simp; omega) _⟩
          · have e0 : (kd == 2) = false := by rw [beq_eq_false_iff_ne]; exact e2
            clear e2
            by_cases e3 : N.length = 0
            · have e1 : (((N.length : Nat) : Int) == 0) = true := by rw [e3]; rfl
              clear e3
              go_wp2
              go_meet
              exact ⟨1, A2, c2, N, s1, x0, x1, x2, (sd1.set1 _).set0 _, (hovw.far sd1 1 _).far (sd1.set1 _) 0 _, hNz, st4, ((hRd.far (by omega) 1 _).far (by omega) 0 _).more (by omega), (hBw.set_new (by omega) 1 _).set_new (by omega) 0 _, (hU.far (by simp; omega) _).far (by simp; omega) _⟩
            · have e1 : (((N.length : Nat) : Int) == 0) = false := by rw [beq_eq_false_iff_ne]; omega
              clear e3
              go_wp2
              go_meet
              exact ⟨kd, A2, c2, N, s1, x0, x1, x2, sd1.set1 _, hovw.far sd1 1 _, hNz, st4, (hRd.far (by omega) 1 _).more (by omega), hBw.set_new (by omega) 1 _, hU.far (by simp; omega) _⟩
  case rest =>
    obtain ⟨kd, A1, c1, zs, s1, x0, x1, x2, st1, st2, st3, st4, st5, st6, st7⟩ := hcut
    clear st
    have hz' : (zs.length : Int) ≤ 991 := by omega
    go_wp2_with fail
    refine (pick_any R _ 40 _ st5 (by omega) (by omega) (by omega)).mono ?_
    rintro e w9 ⟨x, rfl, p0, p1, hR9, hT9⟩
    have hB9 := st6.trans hT9
    have s9 := st1.but hT9 (by omega)
    have u9 := st7.but hT9 (by omega)
    have o9 := st2.but hT9 (by omega)
    clear st1 st2 st5 st6 st7 hT9
    obtain ⟨k0, k1, k2, kf⟩ := s9.reads
    have kf0 := kf 0
    have kf1 := kf 1
    obtain ⟨r0, r1, r2, rf⟩ := u9.reads
    have rf0 := rf 0
    have rf1 := rf 1
    have rf2 := rf 2
    clear kf rf
    have hgg : ¬ w2.heap.size = w.heap.size := by omega
    by_cases ex : x = 0
    · subst ex
      go_wp2_with fail
      refine (pick_any R _ 6 _ hR9 (by omega) (by omega) (by omega)).mono ?_
      rintro e wb ⟨y, rfl, y0, y1, hRb, hTb⟩
      have hBb := hB9.trans hTb
      have sb := s9.but hTb (by omega)
      have ub := u9.but hTb (by omega)
      have ob9 := o9.but hTb (by omega)
      clear s9 u9 o9 k0 k1 k2 kf0 kf1 r0 r1 r2 rf0 rf1 rf2 hTb hB9 hR9
      obtain ⟨k0, k1, k2, kf⟩ := sb.reads
      have kf0 := kf 0
      obtain ⟨r0, r1, r2, rf⟩ := ub.reads
      have rf0 := rf 0
      have rf1 := rf 1
      have rf2 := rf 2
      clear kf rf
      go_wp2
      have hgw : w2.heap.size ≠ w.heap.size := hgg
      refine bodyPost_ret (v := ob (y - 1) A1 zs.length c1 s1) (by simp [results, Try.results97, go_sem, ob, r0, r1, r2]) rfl ⟨y - 1, A1, c1, zs, s1, rfl, ?_, by omega, st4, ?_, ?_⟩
      · have un := ub.far (p := ⟨w2.heap.size, 0, none⟩) hgw.symm (.int .i64 (y - 1))
        exact (((ob9.far sb 0 _).far un 0 _).far (un.set0 _) 1 _).far ((un.set0 _).set1 _) 2 _
      · exact ((((hRb.far (by omega) 0 _).far hRl 0 _).far hRl 1 _).far hRl 2 _).more (by omega)
      · exact (((hBb.set_new (by omega) 0 _).set_new (Nat.le_refl _) 0 _).set_new (Nat.le_refl _) 1 _).set_new (Nat.le_refl _) 2 _
    · by_cases ex1 : x = 1
      · subst ex1
        obtain ⟨i0, hi, hz0, hz1, hz2⟩ := info_of info_int
        have hRd : Rd w9.drew R (q + 1500 + 1) := hR9
        have sd : Blk w9.drew w2.heap.size 38 (.int .i64 kd) (.slice A1 zs.length c1) (.string s1) := s9
        have ud : Blk w9.drew w.heap.size 38 x0 x1 x2 := u9
        have od : Own w9.drew w.heap.size (.slice A1 zs.length c1) zs := o9
        have hBd : But R w w9.drew := hB9.trans (.of_below (Below.refl _ _).drew)
        clear hR9 s9 u9 o9 hB9 r0 r1 r2 rf0 rf1 rf2 k0 k2
        go_wp2_with fail
        go_region_law
          (first
            | (go_simp; go_at_call 108; go_must (refine (l91Id_any R _ _ hRd (by omega)).mono ?_); rintro e wb ⟨y, rfl, y0, y1, hRb, hTb⟩; have hBb := hBd.trans hTb; have sb := sd.but hTb (by omega); have ub := ud.but hTb (by omega); have ob9 := od.but hTb (by omega); obtain ⟨_, kb1, _, _⟩ := sb.reads; have lwb := sb.lt)
            | (refine step_append_lies _ (by rfl) _ _ _ (by rfl) w.heap.size 3 i0 _ 1 8 Try.underlying36 hi hz0 hz1 hz2 rfl (by omega) (.slice A1 zs.length c1) zs.length (ints zs) (by rfl) (World.ownsRow.alloc ob9 _) ⟨wb.heap.size, 0, none⟩ 1 1 [.int .i64 y] (by rfl) (by rfl) (cell_one_new _ _ _) (one_int _) (by omega) (by unfold maxLen; omega) (by omega) (by simp; have := hBb.size; omega) (wb.heap.size + 1) (by simp) ?_; intro gg cap wc hown hgrow hat hlt; have al := (Below.refl wb.heap.size wb).alloc (Nat.le_refl _) (.cells #[.int .i64 y] 3); have sc := (sb.below al sb.lt).grown hgrow (Ne.symm (ob9.ne_ sb)); obtain ⟨_, kc1, _, kcf⟩ := sc.reads; have kcf1 := kcf 1; clear kcf))
        all_goals
          have uc := (ub.below al ub.lt).grown hgrow (Ne.symm (ob9.ne_ ub))
          obtain ⟨r0, r1, r2, rf⟩ := uc.reads
          have rf0 := rf 0
          have rf1 := rf 1
          have rf2 := rf 2
          clear rf
          have oc : Own wc w.heap.size (.slice (some ⟨gg, 0, none⟩) (zs.length + 1) cap) (zs ++ [y]) := Own.app hown
          have hBc : But R w wc := World.grownBy.andThen (hBb.trans (.of_below al)) hgrow (fun k hk => .inl (ob9.lt k hk))
          have hRc : Rd wc R (q + 1500 + 1 + 3) := hRb.below (((Below.refl w.heap.size wb).alloc (by have := hBb.size; omega) (.cells #[.int .i64 y] 3)).grown hgrow (by simp; have := hBb.size; omega) ob9.lt) hRl
          clear hown hgrow hat al
          go_wp2
          refine bodyPost_ret (v := ob kd (some ⟨gg, 0, none⟩) (zs ++ [y]).length cap s1) (by simp [results, Try.results97, go_sem, ob, r0, r1, r2]) rfl ⟨kd, some ⟨gg, 0, none⟩, cap, zs ++ [y], s1, rfl, ?_, by simp; omega, st4, ?_, ?_⟩
          · have un := uc.far (p := ⟨w2.heap.size, 1, none⟩) (fun e => hgg e.symm) (.slice (some ⟨gg, 0, none⟩) (zs.length + 1) cap)
            have e := (((oc.far sc 1 (.slice (some ⟨gg, 0, none⟩) (zs.length + 1) cap)).far un 0 (.int .i64 kd)).far (un.set0 _) 1 (.slice (some ⟨gg, 0, none⟩) (zs.length + 1) cap)).far ((un.set0 _).set1 _) 2 (.string s1)
            have e2 : (zs ++ [y]).length = zs.length + 1 := by simp
            rw [e2]
            exact e
          · exact ((((hRc.far (by omega) 1 _).far hRl 0 _).far hRl 1 _).far hRl 2 _).more (by omega)
          · exact (((hBc.set_new (by omega) 1 _).set_new (Nat.le_refl _) 0 _).set_new (Nat.le_refl _) 1 _).set_new (Nat.le_refl _) 2 _
      · have e0 : (x == 0) = false := by rw [beq_eq_false_iff_ne]; exact ex
        have e1 : (x == 1) = false := by rw [beq_eq_false_iff_ne]; exact ex1
        clear ex ex1
        go_wp2
        refine bodyPost_ret (v := ob kd A1 zs.length c1 s1) (by simp [results, Try.results97, go_sem, ob, r0, r1, r2]) rfl ⟨kd, A1, c1, zs, s1, rfl, ?_, by omega, st4, ?_, ?_⟩
        · exact ((o9.far u9 0 _).far (u9.set0 _) 1 _).far ((u9.set0 _).set1 _) 2 _
        · exact (((hR9.far hRl 0 _).far hRl 1 _).far hRl 2 _).more (by omega)
        · exact ((hB9.set_new (Nat.le_refl _) 0 _).set_new (Nat.le_refl _) 1 _).set_new (Nat.le_refl _) 2 _
end Go.Proofs.Ytblknnifccmpkaa
