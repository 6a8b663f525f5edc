/- The coordinator with the slices $SA and $SB is stored as the answer, with the word $BB. -/
/-
  Walks: drawn shards.
-/
import Derived.Test.YteeffchnbkkpfabDoorShdH
import Derived.Test.YteeffchnbkkpfabDoorG5C
namespace Go.Proofs.YteeffchnbkkpfabDoor
open Go.RowKit Wo Pu Rf Lk Sh

/-- Records with few updates. -/
def SmR (rs : List Rec) : Prop := ∀ r ∈ rs, r.us.length ≤ 4
theorem SmR.nil : SmR [] := fun r hr => by cases hr
theorem SmR.snoc {rs : List Rec} {r : Rec} (h : SmR rs) (hr : r.us.length ≤ 4) : SmR (rs ++ [r]) := fun x hx => by
  rcases List.mem_append.1 hx with hx | hx
  · exact h x hx
  · rw [List.mem_singleton] at hx; subst hx; exact hr
theorem SmR.fit {rs : List Rec} (h : SmR rs) (hl : rs.length ≤ 1048576) : FitR rs := ⟨hl, fun r hr => by have := h r hr; omega⟩
theorem SmR.drop1 {rs : List Rec} (h : SmR rs) : SmR (rs.drop 1) := fun r hr => h r (List.mem_of_mem_drop hr)
theorem voted_small {rs xs : List Rec} {t : Int} {us : List Up} {b : Bool} (h : Voted rs t us xs b) (hr : SmR rs) (hu : us.length ≤ 4) : SmR xs := by
  cases h with
  | bad _ => exact .nil
  | known _ _ _ _ => exact hr
  | yes _ _ _ _ _ => exact hr.snoc hu
  | no _ _ _ _ _ _ => exact hr.snoc (Nat.zero_le _)
  | full _ _ _ _ _ => exact hr
theorem decided_small {rs xs : List Rec} {t k : Int} {b : Bool} (h : Decided rs t k xs b) (hr : SmR rs) : SmR xs := by
  cases h with
  | bad _ => exact .nil
  | known _ _ _ => exact hr
  | yes _ _ _ _ => exact hr.snoc (Nat.zero_le _)
  | no _ _ _ _ => exact hr
theorem Blk1.but {w w' : World} {R g : Nat} {T : TypeId} {v : Value} (h : Blk1 w g T v) (hb : But R w w') (hg : g ≠ R) : Blk1 w' g T v := (hb.block g h.lt (fun e => hg (by injection e))).trans h
theorem Blk2s.but {w w' : World} {R g : Nat} {T : TypeId} {v u : Value} (h : Blk2s w g T v u) (hb : But R w w') (hg : g ≠ R) : Blk2s w' g T v u := (hb.block g h.lt (fun e => hg (by injection e))).trans h
/-- A row of four numbers is not in the reader. -/
theorem row4_ne {w : World} {B R : Nat} {q : Int} {A : Option Addr} {zs : List Int} (h : Row w B A (ints zs)) (hl : zs.length = 4) (hR : Rd w R q) : ∀ ad, A = some ad → ad.block ≠ R := by
  intro ad e e2
  obtain ⟨A', c', ns, p, hh, -⟩ := hR
  rcases h with h | ⟨ad', e', hb, hc⟩
  · have : zs.length = 0 := by rw [← ints_length zs, h]; rfl
    omega
  · rw [e] at e'
    injection e' with e'
    subst e'
    have h2 : (ints zs)[2]? = some (.int .i64 zs[2]) := by unfold ints; rw [List.getElem?_map, List.getElem?_eq_getElem (by omega)]; rfl
    have h0 := hc 2 _ h2
    unfold World.cell? at h0
    rw [add_block, e2, hh] at h0
    simp only at h0
    split at h0
    · cases h0
    · rw [show (ad.add 2).off = ad.off + 2 from rfl] at h0
      simp at h0
theorem row_but4 {w w' : World} {B R : Nat} {A : Option Addr} {xs : List Value} (h : Row w B A xs) (hb : But R w w') (hB : B ≤ w.heap.size) (hne : ∀ ad, A = some ad → ad.block ≠ R) : Row w' B A xs := by
  rcases h with h | ⟨ad, e, hbl, hc⟩
  · exact .inl h
  · refine .inr ⟨ad, e, hbl, fun j v hj => ?_⟩
    rw [← hc j v hj]
    exact World.cell?_of_block (by rw [add_block]; exact hb.block ad.block (by omega) fun e2 => hne ad e (by injection e2))
/-- A drawn shard: of the call's own, or the tail of such. -/
def DrSh (w : World) (B : Nat) (v : Value) (rs : List Rec) : Prop := ∃ A c rs0, OwnRecs w B (.slice A (List.length rs0) c) rs0 ∧ rs0.length ≤ c ∧
  ((v = shV A rs0.length c ∧ rs = rs0) ∨ (∃ ad ad' c', A = some ad ∧ v = shV (some ad') rs.length c' ∧ rs = rs0.drop 1 ∧ (rs = [] ∨ ad' = ad.add 3) ∧ rs.length ≤ c'))
theorem DrSh.but {w w' : World} {B R : Nat} {v : Value} {rs : List Rec} (h : DrSh w B v rs) (hb : But R w w') (hR : R < B) : DrSh w' B v rs := by
  obtain ⟨A, c, rs0, h1, h2, h3⟩ := h
  exact ⟨A, c, rs0, h1.but hb hR, h2, h3⟩
theorem DrSh.below {w w' : World} {B : Nat} {v : Value} {rs : List Rec} (h : DrSh w B v rs) (hb : Below w.heap.size w w') : DrSh w' B v rs := by
  obtain ⟨A, c, rs0, h1, h2, h3⟩ := h
  exact ⟨A, c, rs0, h1.below hb, h2, h3⟩
theorem DrSh.shd {w : World} {B : Nat} {v : Value} {rs : List Rec} (h : DrSh w B v rs) : Shd w w.heap.size v rs := by
  obtain ⟨A, c, rs0, h1, h2, h3⟩ := h
  obtain ⟨A', c', e', h4, _⟩ := h1.form
  injection e' with e1 _ e3
  subst e1
  rcases h3 with ⟨rfl, rfl⟩ | ⟨ad, ad', c', rfl, rfl, rfl, h5, h6⟩
  · exact ⟨A, c, rfl, h4, h2⟩
  · refine ⟨some ad', c', rfl, ?_, h6⟩
    rcases h5 with h5 | rfl
    · rw [h5]; exact .inl rfl
    · exact h4.tail
def ShDrawn (R : Nat) (q : Int) (w : World) (e : Ending) (w' : World) : Prop := ∃ v rs, e = .returned v ∧ DrSh w' w.heap.size v rs ∧ rs.length ≤ 31 ∧ SmR rs ∧ Rd w' R (q + 3000) ∧ But R w w'
/-- What the loop has laid: the result's box, the shard's, a valid shard of few updates. -/
def DrE (w : World) (R : Nat) (q : Int) (A : Option Addr) (c : Nat) (rs : List Rec) (wr : World) : Prop :=
  Blk1 wr w.heap.size 25 (.slice none 0 0) ∧ Blk1 wr (w.heap.size + 1 + 1) 25 (.slice A rs.length c) ∧ OwnRecs wr w.heap.size (.slice A rs.length c) rs ∧ R < w.heap.size ∧ Rd wr R q ∧ But R w wr
section
variable {w wr w' : World} {R c : Nat} {q q' : Int} {A : Option Addr} {rs : List Rec}
theorem DrE.call (h : DrE w R q A c rs wr) (hb : Below wr.heap.size wr w') : DrE w R q A c rs w' := by
  obtain ⟨h1, h2, h3, h4, h5, h6⟩ := h
  exact ⟨h1.later hb, h2.later hb, h3.below hb, h4, h5.below hb h5.lt, h6.trans (.of_below hb)⟩
theorem DrE.pick (h : DrE w R q A c rs wr) (hR : Rd w' R q') (hT : But R wr w') : DrE w R q' A c rs w' := by
  obtain ⟨h1, h2, h3, h4, h5, h6⟩ := h
  exact ⟨h1.but hT (by omega), h2.but hT (by omega), h3.but hT h4, h4, hR, h6.trans hT⟩
theorem DrE.more (h : DrE w R q A c rs wr) (hq : q ≤ q') : DrE w R q' A c rs wr := by
  obtain ⟨h1, h2, h3, h4, h5, h6⟩ := h
  exact ⟨h1, h2, h3, h4, h5.more hq, h6⟩
theorem DrE.stored (h : DrE w R q A c rs wr) {g : Nat} {v0 : Value} (hx : Blk1 wr g 25 v0) (hg : w.heap.size + 1 + 1 < g) (u : Value) : DrE w R q A c rs (wr.setCell ⟨g, 0, none⟩ u) := by
  obtain ⟨h1, h2, h3, h4, h5, h6⟩ := h
  exact ⟨h1.far (by show w.heap.size ≠ g; omega) u, h2.far (by show w.heap.size + 1 + 1 ≠ g; omega) u, h3.keptT (by decide) (by decide) (but_set wr g 0 u) (blk_type hx), h4, h5.far (by omega) 0 u, h6.set_new (by omega) 0 u⟩
theorem DrE.next {A9 : Option Addr} {c9 : Nat} {xs : List Rec} (h : DrE w R q A c rs wr) (o : OwnRecs wr w.heap.size (.slice A9 xs.length c9) xs) : DrE w R q A9 c9 xs (wr.setCell ⟨w.heap.size + 1 + 1, 0, none⟩ (.slice A9 xs.length c9)) := by
  obtain ⟨h1, h2, h3, h4, h5, h6⟩ := h
  exact ⟨h1.far (by show w.heap.size ≠ w.heap.size + 1 + 1; omega) _, h2.set0 _, o.keptT (by decide) (by decide) (but_set wr _ 0 _) (blk_type h2), h4, h5.far (by omega) 0 _, h6.set_new (by omega) 0 _⟩
theorem DrE.app {r : Rec} {v' : Value} {ys : List Value} {w8 : World} {A5 : Option Addr} {c5 : Nat} (h : DrE w R q A c rs wr) (har : ∀ j (hj : j < rs.length), RecIs wr w.heap.size ys j rs[j]) (hrow : wr.ownsRow w.heap.size 33 3 (.slice A rs.length c) rs.length ys)
    (o5 : OwnUps wr w.heap.size (.slice A5 r.us.length c5) r.us) (hc5 : r.us.length ≤ c5)
    (hown : w8.ownsRow w.heap.size 33 3 v' (rs.length + 1) (ys ++ [.int .i64 r.k, .int .i64 r.t, .slice A5 r.us.length c5])) (hg : (wr.alloc (.cells #[.int .i64 r.k, .int .i64 r.t, .slice A5 r.us.length c5] 33)).grownBy w8 (Value.slice A rs.length c).ownBlock) :
    ∃ A9 c9, v' = .slice A9 (rs.length + 1) c9 ∧ (w8.cell? ⟨w.heap.size + 1 + 1, 0, none⟩ = some (.slice A rs.length c) ∧ w8.frozen? ⟨w.heap.size + 1 + 1, 0, none⟩ = false) ∧ DrE w R q A9 c9 (rs ++ [r]) (w8.setCell ⟨w.heap.size + 1 + 1, 0, none⟩ (.slice A9 (rs.length + 1) c9)) := by
  obtain ⟨h1, h2, h3, h4, h5, h6⟩ := h
  have al := (Below.refl wr.heap.size wr).alloc (Nat.le_refl _) (.cells #[.int .i64 r.k, .int .i64 r.t, .slice A5 r.us.length c5] 33)
  have hrow' := World.ownsRow.alloc hrow (.cells #[.int .i64 r.k, .int .i64 r.t, .slice A5 r.us.length c5] 33)
  have oa := OwnRecs.app har hc5 o5 hrow hown hg
  have hlt := World.ownsRow.lt hrow'
  have k1 := (h1.later al).grown hg (blk_ne_row (h1.later al) hrow' (by decide))
  have k2 := (h2.later al).grown hg (blk_ne_row (h2.later al) hrow' (by decide))
  have hsz : w.heap.size ≤ wr.heap.size := h6.size
  have b8 : Below w.heap.size wr w8 := ((Below.refl w.heap.size wr).alloc hsz _).grown hg (by simp; omega) (fun j hj => (hlt j hj).1)
  have R8 := h5.below b8 h4
  have T8 : But R w w8 := World.grownBy.andThen (h6.trans (.of_below al)) hg (fun j hj => .inl (hlt j hj).1)
  obtain ⟨A9, c9, e, -, -⟩ := oa.form
  rw [List.length_append, List.length_singleton] at e
  subst e
  refine ⟨A9, c9, rfl, ⟨k2.reads.1, k2.reads.2 0⟩, k1.far (by show w.heap.size ≠ w.heap.size + 1 + 1; omega) _, ?_, ?_, h4, R8.far (by omega) 0 _, T8.set_new (by omega) 0 _⟩
  · rw [List.length_append, List.length_singleton]
    exact k2.set0 _
  · rw [List.length_append, List.length_singleton]
    exact oa.keptT (by decide) (by decide) (but_set w8 _ 0 _) (blk_type k2)
theorem DrE.size (h : DrE w R q A c rs wr) : w.heap.size + 1 + 1 < wr.heap.size := h.2.1.lt
end
/- A number has been drawn. -/
/- What the next box holds becomes the shard. -/
/- The region's store into the next box, and the second word. -/
/- The tail is told. -/
/- The orders of the region that appends a record. -/
set_option linter.unusedSimpArgs false in
set_option maxRecDepth 100000 in
set_option maxHeartbeats 16000000 in
theorem l92Shard_any (R : Nat) (q : Int) (w : World) (hR : Rd w R q) (hq : q ≤ 600000000) :
    Calls Tryd.prog 50 #[.pointer (some ⟨R, 0, none⟩)] w (ShDrawn R q w) := by
  obtain ⟨i0, hi, hz0, hz1, hz2⟩ := info_of info_rec
  have hRl := hR.lt
  have al := (((Below.refl w.heap.size w).alloc (Nat.le_refl _) (.cells #[.slice none 0 0] 25)).alloc (by simp) (.cells #[] 33)).alloc (by simp; omega) (.cells #[.slice (some ⟨w.heap.size + 1, 0, none⟩) 0 0] 25)
  have x0 := ((Blk1.new_ w 25 (.slice none 0 0)).alloc (.cells #[] 33)).alloc (.cells #[.slice (some ⟨w.heap.size + 1, 0, none⟩) 0 0] 25)
  have x1 := Blk1.new_ ((w.alloc (.cells #[.slice none 0 0] 25)).alloc (.cells #[] 33)) 25 (.slice (some ⟨w.heap.size + 1, 0, none⟩) 0 0)
  have o1 := (OwnRecs.nil_new (w := w.alloc (.cells #[.slice none 0 0] 25)) (B := w.heap.size) (by simp)).below ((Below.refl _ _).alloc (Nat.le_refl _) (.cells #[.slice (some ⟨w.heap.size + 1, 0, none⟩) 0 0] 25))
  rw [World.size_alloc, World.size_alloc] at x1
  rw [World.size_alloc] at o1
  have S0 : DrE w R q (some ⟨w.heap.size + 1, 0, none⟩) 0 [] _ := ⟨x0, x1, o1, hRl, hR.below al hRl, .of_below al⟩
  clear x0 x1 o1 al
  go_enter Tryd.func50, Tryd.ntmps50
  go_upto_region 2 with fail
  obtain ⟨w1, hw1⟩ : ∃ w1, ((w.alloc (.cells #[.slice none 0 0] 25)).alloc (.cells #[] 33)).alloc (.cells #[.slice (some ⟨w.heap.size + 1, 0, none⟩) 0 0] 25) = w1 := ⟨_, rfl⟩
  rw [hw1] at S0 ⊢
  clear hw1
  go_wp2_with fail
  refine (pick_any R q 16 w1 S0.2.2.2.2.1 (by omega) (by omega) (by omega)).mono ?_
  rintro e w2 ⟨n, rfl, n0, n1, R2, T2⟩
  have S2 := S0.pick R2 T2
  clear S0 R2 T2
  go_wp2_with fail
  refine (pick_any R _ 10 w2 S2.2.2.2.2.1 (by omega) (by omega) (by omega)).mono ?_
  rintro e w3 ⟨d, rfl, d0, d1, R3, T3⟩
  have S3 := S2.pick R3 T3
  clear S2 R3 T3
  by_cases hd : d = 0
  · have e0 : (d == 0) = true := by rw [hd]; rfl
    go_upto_region 5 with fail
    clear e0 hd
    go_wp2_with fail
    go_loopw [5] (fun i wr => ∃ (k : Nat) (rs : List Rec) (A : Option Addr) (c : Nat), k ≤ 40 ∧ i = .int .i64 k ∧ Hid (Vld rs ∧ SmR rs) ∧ DrE w R (q + 10 + 60 * k) A c rs wr) (fun i _ => 40 - (intOf i).toNat)
    case atStart => exact ⟨0, [], _, _, Nat.zero_le _, rfl, ⟨⟨⟨_, .nil⟩, Nat.zero_le _⟩, .nil⟩, S3.more (by omega)⟩
    case round =>
      clear S3
      obtain ⟨k, rs, A, c, hk, rfl, HV, S⟩ := hrel
      obtain ⟨y0, -⟩ := id S.2.1.reads
      by_cases hlt : (k : Int) < 40
      · obtain ⟨A', c', e', hr4, hc⟩ := S.2.2.1.form
        injection e' with e1 _ e3
        subst e1 e3
        have CR := hid (l21Recover_any A c rs wr hr4 hc (HV.out.2.fit (by have := HV.out.1.2; omega)))
        clear hr4
        go_wp2_with fail
        refine CR.out.mono ?_
        rintro e w4 ⟨st, b1, HR, v4, rfl, s4, d4⟩
        replace S := S.call d4
        obtain ⟨A6, c6, A7, c7, rfl, r6, -⟩ := s4
        unfold stV
        have ne6 := row4_ne r6 HR.1.len.1 S.2.2.2.2.1
        have al := (Below.refl w4.heap.size w4).alloc (Nat.le_refl _) (.cells #[.slice A6 st.refs.length c6, .slice A7 st.locks.length c7] 37)
        have xb := Blk2s.new_ w4 37 (.slice A6 st.refs.length c6) (.slice A7 st.locks.length c7)
        have hg4 := S.size
        have hRl4 := S.2.2.2.1
        replace S := S.call al
        replace r6 := r6.below al (Nat.le_refl _)
        clear CR HR d4 y0
        go_upto_region 9 with fail
        obtain ⟨w5, hw5⟩ : ∃ w5, w4.alloc (.cells #[.slice A6 st.refs.length c6, .slice A7 st.locks.length c7] 37) = w5 := ⟨_, rfl⟩
        rw [hw5] at al xb S r6 ⊢
        clear hw5 al
        have zx := xb.lt
        obtain ⟨y0, -⟩ := id S.2.1.reads
        go_wp2_with fail
        refine (pick_any R _ 12 w5 S.2.2.2.2.1 (by omega) (by omega) (by omega)).mono ?_
        rintro e w6 ⟨t, rfl, t0, t1, R6, T6⟩
        replace xb := xb.but T6 (by omega)
        replace r6 := row_but4 r6 T6 (Nat.le_of_lt zx) ne6
        replace S := S.pick R6 T6
        replace zx := xb.lt
        clear y0 R6 T6
        obtain ⟨y0, -⟩ := id S.2.1.reads
        go_wp2_with fail
        refine (pick_any R _ 2 w6 S.2.2.2.2.1 (by omega) (by omega) (by omega)).mono ?_
        rintro e w7 ⟨d2, rfl, d20, d21, R7, T7⟩
        replace xb := xb.but T7 (by omega)
        replace r6 := row_but4 r6 T7 (Nat.le_of_lt zx) ne6
        replace S := S.pick R7 T7
        replace zx := xb.lt
        clear y0 R7 T7
        obtain ⟨y0, -⟩ := id S.2.1.reads
        by_cases h2 : d2 = 0
        · have e2 : (d2 == 0) = true := by rw [h2]; rfl
          clear h2
          go_wp2_with fail
          refine (pick_any R _ 4 w7 S.2.2.2.2.1 (by omega) (by omega) (by omega)).mono ?_
          rintro e w8 ⟨t', rfl, t0', t1', R8, T8⟩
          replace xb := xb.but T8 (by omega)
          replace r6 := row_but4 r6 T8 (Nat.le_of_lt zx) ne6
          replace S := S.pick R8 T8
          replace zx := xb.lt
          clear y0 R8 T8
          obtain ⟨y0, -⟩ := id S.2.1.reads
          have al := (Below.refl (w8).heap.size w8).alloc (Nat.le_refl _) (.cells #[.slice A rs.length c] 25)
          have xn := Blk1.new_ w8 25 (.slice A rs.length c)
          have hgn := S.size
          have zw := zx
          replace S := S.call al
          replace xb := xb.alloc (.cells #[.slice A rs.length c] 25)
          replace r6 := r6.below al (Nat.le_of_lt zx)
          go_upto_region 13 with fail
          obtain ⟨wn, hwn⟩ : ∃ wn, (w8).alloc (.cells #[.slice A rs.length c] 25) = wn := ⟨_, rfl⟩
          rw [hwn] at al xb xn S r6 ⊢
          clear hwn al y0
          replace zx := xb.lt
          obtain ⟨y0, -⟩ := id S.2.1.reads
          go_wp2_with fail
          refine (pick_any R _ 2 wn S.2.2.2.2.1 (by omega) (by omega) (by omega)).mono ?_
          rintro e wp ⟨d3, rfl, d30, d31, Rp, Tp⟩
          replace xn := xn.but Tp (by omega)
          replace xb := xb.but Tp (by omega)
          replace r6 := row_but4 r6 Tp (Nat.le_of_lt zx) ne6
          replace S := S.pick Rp Tp
          replace zx := xb.lt
          clear y0 Rp Tp
          obtain ⟨y0, -⟩ := id S.2.1.reads
          by_cases h3 : d3 = 0
          · have e3 : (d3 == 0) = true := by rw [h3]; rfl
            clear h3
            go_wp2_with fail
            have HKP : Hid (∀ x, But R wp x → x.cell? ⟨w.heap.size + 1 + 1, 0, none⟩ = some (.slice A rs.length c) ∧ x.cell? ⟨w4.heap.size, 0, none⟩ = some (.slice A6 st.refs.length c6)) := fun x hx => ⟨(S.2.1.but hx (by omega)).reads.1, (xb.but hx (by omega)).reads.1⟩
            have Bd := (Below.refl wp.heap.size wp).drew
            have Dwd : But R wp wp.drew := .of_below Bd
            refine wp_region_held_drew (S := fun x => x.cell? ⟨w.heap.size + 1 + 1, 0, none⟩ = some (.slice A rs.length c) ∧ x.cell? ⟨w4.heap.size, 0, none⟩ = some (.slice A6 st.refs.length c6)) (by kernel_rfl) (HKP.out _ Dwd) (fun hHeld => ?_)
            replace S := S.call Bd
            replace xn := xn.later Bd
            replace r6 := r6.below Bd (Nat.le_of_lt zx)
            have zd : w4.heap.size < wp.drew.heap.size := zx
            obtain ⟨wd, hwd⟩ : ∃ wd, wp.drew = wd := ⟨_, rfl⟩
            rw [hwd] at hHeld Dwd Bd S xn r6 zd ⊢
            clear hwd y0
            refine wpAnyH_take (i := 0) (oi := _) (v := ?_) rfl (by kernel_rfl) (by kernel_rfl) (by kernel_rfl) (fun _ _ _ h => h) (Or.inl ⟨by rfl, ?_⟩) hHeld ?_
            rotate_left
            · (intro w' hSw; (try dsimp only at hSw); go_simp <;> with_reducible rfl)
            try simp only [Act.put, List.getElem_toArray, List.getElem_cons_succ, List.getElem_cons_zero, List.setIfInBounds_toArray, List.set_cons_zero, List.set_cons_succ]
            refine wpAnyH_take (i := 1) (oi := _) (v := ?_) rfl (by kernel_rfl) (by kernel_rfl) (by kernel_rfl) (fun _ _ _ h => h) (Or.inl ⟨by rfl, ?_⟩) hHeld ?_
            rotate_left
            · (intro w' hSw; (try dsimp only at hSw); go_simp <;> with_reducible rfl)
            try simp only [Act.put, List.getElem_toArray, List.getElem_cons_succ, List.getElem_cons_zero, List.setIfInBounds_toArray, List.set_cons_zero, List.set_cons_succ]
            refine wpAnyH_take (i := 2) (oi := _) (v := ?_) rfl (by kernel_rfl) (by kernel_rfl) (by kernel_rfl) (fun _ _ _ h => h) (Or.inl ⟨by rfl, ?_⟩) hHeld ?_
            rotate_left
            · (intro w' hSw; (try dsimp only at hSw); go_simp <;> with_reducible rfl)
            try simp only [Act.put, List.getElem_toArray, List.getElem_cons_succ, List.getElem_cons_zero, List.setIfInBounds_toArray, List.set_cons_zero, List.set_cons_succ]
            refine wpAnyH_take (i := 3) (oi := _) (v := ?_) rfl (by kernel_rfl) (by kernel_rfl) (by kernel_rfl) (fun _ _ _ h => h) (Or.inl ⟨by rfl, ?_⟩) hHeld ?_
            rotate_left
            · (intro w' hSw; (try dsimp only at hSw); go_simp <;> with_reducible rfl)
            try simp only [Act.put, List.getElem_toArray, List.getElem_cons_succ, List.getElem_cons_zero, List.setIfInBounds_toArray, List.set_cons_zero, List.set_cons_succ]
            refine wpAnyH_take (i := 4) (oi := _) (v := ?_) rfl (by kernel_rfl) (by kernel_rfl) (by kernel_rfl) (fun _ _ _ h => h) (Or.inl ⟨by rfl, ?_⟩) hHeld ?_
            rotate_left
            · (intro w' hSw; (try dsimp only at hSw); go_simp <;> with_reducible rfl)
            try simp only [Act.put, List.getElem_toArray, List.getElem_cons_succ, List.getElem_cons_zero, List.setIfInBounds_toArray, List.set_cons_zero, List.set_cons_succ]
            refine wpAnyH_ready (rs := [5]) (by kernel_rfl) (by simp) (AllReadyH.cons (o := _) rfl (fun K hK => ?_) AllReadyH.nil)
            try simp only [Act.put, List.getElem_toArray, List.getElem_cons_succ, List.getElem_cons_zero, List.setIfInBounds_toArray, List.set_cons_zero, List.set_cons_succ]
            go_simp
            go_at_call 60
            refine (l92Updates_any R _ A6 c6 st.refs wd S.2.2.2.2.1 (by omega) (r6.more (Nat.le_of_lt zd)) ne6).mono ?_
            rintro e we ⟨vu, us, rfl, ou, hu4, Re, Te⟩
            replace S := S.pick Re Te
            replace xn := xn.but Te (by omega)
            have De := Dwd.trans Te
            obtain ⟨Au, cu, rfl, ru, hcu⟩ := ou.form
            obtain ⟨A', c', e', hr5, hc5⟩ := S.2.2.1.form
            injection e' with e1 _ e3
            subst e1 e3
            obtain ⟨xs, b2, hv⟩ := voted_ex rs t' us
            have CP := hid (specShardPrepare_is xs b2 _ rs t' Au cu us we ⟨A, c, rfl, hr5, hc5⟩ (HV.out.2.fit (by have := HV.out.1.2; omega)) ru (by omega) hv)
            have HX : Hid (Vld xs ∧ SmR xs) := ⟨voted_valid hv, voted_small hv HV.out.2 hu4⟩
            clear hv hr5 Te Re ou ru r6
            refine hK.out _ _ (HKP.out _ De) (fun hHeld => ?_)
            clear hK K
            try simp only [Act.put, List.getElem_toArray, List.getElem_cons_succ, List.getElem_cons_zero, List.setIfInBounds_toArray, List.set_cons_zero, List.set_cons_succ]
            refine wpAnyH_ready (rs := [6]) (by kernel_rfl) (by simp) (AllReadyH.cons (o := _) rfl (fun K hK => ?_) AllReadyH.nil)
            try simp only [Act.put, List.getElem_toArray, List.getElem_cons_succ, List.getElem_cons_zero, List.setIfInBounds_toArray, List.set_cons_zero, List.set_cons_succ]
            go_simp
            go_at_call 23
            refine CP.out.mono ?_
            rintro e wf ⟨vf, rfl, of, df⟩
            have zf := S.size
            replace S := S.call df
            replace xn := xn.later df
            obtain ⟨A9, c9, rfl, o9, hc9⟩ := of
            unfold shV
            replace o9 := o9.base (B' := w.heap.size) (by omega)
            have Df := De.trans (.of_below df)
            clear CP df De Dwd
            refine hK.out _ _ (HKP.out _ Df) (fun hHeld => ?_)
            clear hK K
            try simp only [Act.put, List.getElem_toArray, List.getElem_cons_succ, List.getElem_cons_zero, List.setIfInBounds_toArray, List.set_cons_zero, List.set_cons_succ]
            refine wpAnyH_take (i := 7) (oi := _) (v := ?_) rfl (by kernel_rfl) (by kernel_rfl) (by kernel_rfl) (fun _ _ _ h => h) (Or.inl ⟨by rfl, ?_⟩) hHeld ?_
            rotate_left
            · (intro w' hSw; (try dsimp only at hSw); go_simp <;> with_reducible rfl)
            try simp only [Act.put, List.getElem_toArray, List.getElem_cons_succ, List.getElem_cons_zero, List.setIfInBounds_toArray, List.set_cons_zero, List.set_cons_succ]
            refine wpAnyH_take (i := 8) (oi := _) (v := ?_) rfl (by kernel_rfl) (by kernel_rfl) (by kernel_rfl) (fun _ _ _ h => h) (Or.inl ⟨by rfl, ?_⟩) hHeld ?_
            rotate_left
            · (intro w' hSw; (try dsimp only at hSw); go_simp <;> with_reducible rfl)
            try simp only [Act.put, List.getElem_toArray, List.getElem_cons_succ, List.getElem_cons_zero, List.setIfInBounds_toArray, List.set_cons_zero, List.set_cons_succ]
            obtain ⟨z0, zff⟩ := id xn.reads
            have zf0 := zff 0
            have xbf := (xb.but Df (by omega)).far (p := ⟨(w8).heap.size, 0, none⟩) (by show w4.heap.size ≠ (w8).heap.size; omega) (.slice A9 xs.length c9)
            have S9 := S.stored xn hgn (.slice A9 xs.length c9)
            have o8 := o9.keptT (by decide) (by decide) (but_set wf (w8).heap.size 0 (.slice A9 xs.length c9)) (blk_type xn)
            have x8 := xn.set0 (.slice A9 xs.length c9)
            have HSn := hid (⟨S9.2.1.reads.1, xbf.reads.1⟩ : _ ∧ _)
            clear zff xbf
            refine wpAnyH_ready (rs := [9, 10]) (by kernel_rfl) (by simp) (AllReadyH.cons (o := _) rfl (fun K hK => ?_) (AllReadyH.cons (o := _) rfl (fun K hK => ?_) AllReadyH.nil))
            · skip
              try simp only [Act.put, List.getElem_toArray, List.getElem_cons_succ, List.getElem_cons_zero, List.setIfInBounds_toArray, List.set_cons_zero, List.set_cons_succ]
              go_simp
              refine hK.out _ _ (HKP.out _ Df) (fun hHeld => ?_)
              clear hK K
              try simp only [Act.put, List.getElem_toArray, List.getElem_cons_succ, List.getElem_cons_zero, List.setIfInBounds_toArray, List.set_cons_zero, List.set_cons_succ]
              refine wpAnyH_ready (rs := [10]) (by kernel_rfl) (by simp) (AllReadyH.cons (o := _) rfl (fun K hK => ?_) AllReadyH.nil)
              try simp only [Act.put, List.getElem_toArray, List.getElem_cons_succ, List.getElem_cons_zero, List.setIfInBounds_toArray, List.set_cons_zero, List.set_cons_succ]
              go_simp
              refine hK.out _ _ HSn.out (fun hHeld => ?_)
              clear hK K
              try simp only [Act.put, List.getElem_toArray, List.getElem_cons_succ, List.getElem_cons_zero, List.setIfInBounds_toArray, List.set_cons_zero, List.set_cons_succ]
              refine wpAnyH_done (by kernel_rfl) ?_ _
              clear S xn o9 z0 zf0 hHeld HSn HKP
              obtain ⟨wz, hwz⟩ : ∃ wz, (wf).setCell ⟨(w8).heap.size, 0, none⟩ (.slice A9 xs.length c9) = wz := ⟨_, rfl⟩
              rw [hwz] at S9 o8 x8 ⊢
              have S := S9
              have o9 := o8
              have xn := x8
              clear S9 o8 x8 hwz
              have sh9 := (OwnSh.mk_ o9).shd
              have CW := hid (specShardValid_is true _ xs wz sh9 (HX.out.2.fit (by have := HX.out.1.2; omega)) ⟨fun _ => HX.out.1, fun _ => rfl⟩)
              obtain ⟨u0, -⟩ := id xn.reads
              clear sh9
              go_wp2_with fail
              refine CW.out.mono ?_
              rintro e wg ⟨rfl, dg⟩
              replace S := S.call dg
              replace xn := xn.later dg
              replace o9 := o9.below dg
              clear CW dg u0
              obtain ⟨u0, -⟩ := id xn.reads
              obtain ⟨y0, yf⟩ := id S.2.1.reads
              have yf0 := yf 0
              have S9 := S.next o9
              have hk40 : k + 1 ≤ 40 := by omega
              clear yf xn o9 S
              go_wp2
              go_roundw
              case rel => exact ⟨k + 1, xs, A9, c9, hk40, by go_num, HX, S9.more (by push_cast; omega)⟩
              case measure => simp [intOf]; omega
            · skip
              try simp only [Act.put, List.getElem_toArray, List.getElem_cons_succ, List.getElem_cons_zero, List.setIfInBounds_toArray, List.set_cons_zero, List.set_cons_succ]
              go_simp
              refine hK.out _ _ HSn.out (fun hHeld => ?_)
              clear hK K
              try simp only [Act.put, List.getElem_toArray, List.getElem_cons_succ, List.getElem_cons_zero, List.setIfInBounds_toArray, List.set_cons_zero, List.set_cons_succ]
              refine wpAnyH_take (i := 9) (oi := _) (v := ?_) rfl (by kernel_rfl) (by kernel_rfl) (by kernel_rfl) (fun _ _ _ h => h) (Or.inl ⟨by rfl, ?_⟩) hHeld ?_
              rotate_left
              · (intro w' hSw; (try dsimp only at hSw); go_simp <;> with_reducible rfl)
              try simp only [Act.put, List.getElem_toArray, List.getElem_cons_succ, List.getElem_cons_zero, List.setIfInBounds_toArray, List.set_cons_zero, List.set_cons_succ]
              refine wpAnyH_done (by kernel_rfl) ?_ _
              clear S xn o9 z0 zf0 hHeld HSn HKP
              obtain ⟨wz, hwz⟩ : ∃ wz, (wf).setCell ⟨(w8).heap.size, 0, none⟩ (.slice A9 xs.length c9) = wz := ⟨_, rfl⟩
              rw [hwz] at S9 o8 x8 ⊢
              have S := S9
              have o9 := o8
              have xn := x8
              clear S9 o8 x8 hwz
              have sh9 := (OwnSh.mk_ o9).shd
              have CW := hid (specShardValid_is true _ xs wz sh9 (HX.out.2.fit (by have := HX.out.1.2; omega)) ⟨fun _ => HX.out.1, fun _ => rfl⟩)
              obtain ⟨u0, -⟩ := id xn.reads
              clear sh9
              go_wp2_with fail
              refine CW.out.mono ?_
              rintro e wg ⟨rfl, dg⟩
              replace S := S.call dg
              replace xn := xn.later dg
              replace o9 := o9.below dg
              clear CW dg u0
              obtain ⟨u0, -⟩ := id xn.reads
              obtain ⟨y0, yf⟩ := id S.2.1.reads
              have yf0 := yf 0
              have S9 := S.next o9
              have hk40 : k + 1 ≤ 40 := by omega
              clear yf xn o9 S
              go_wp2
              go_roundw
              case rel => exact ⟨k + 1, xs, A9, c9, hk40, by go_num, HX, S9.more (by push_cast; omega)⟩
              case measure => simp [intOf]; omega
          · have e3 : (d3 == 0) = false := by rw [beq_eq_false_iff_ne]; exact h3
            clear h3
            go_wp2_with fail
            have HKP : Hid (∀ x, But R wp x → x.cell? ⟨w.heap.size + 1 + 1, 0, none⟩ = some (.slice A rs.length c) ∧ x.cell? ⟨w4.heap.size, 0, none⟩ = some (.slice A6 st.refs.length c6)) := fun x hx => ⟨(S.2.1.but hx (by omega)).reads.1, (xb.but hx (by omega)).reads.1⟩
            have Bd := (Below.refl wp.heap.size wp).drew
            have Dwd : But R wp wp.drew := .of_below Bd
            refine wp_region_held_drew (S := fun x => x.cell? ⟨w.heap.size + 1 + 1, 0, none⟩ = some (.slice A rs.length c) ∧ x.cell? ⟨w4.heap.size, 0, none⟩ = some (.slice A6 st.refs.length c6)) (by kernel_rfl) (HKP.out _ Dwd) (fun hHeld => ?_)
            replace S := S.call Bd
            replace xn := xn.later Bd
            replace r6 := r6.below Bd (Nat.le_of_lt zx)
            obtain ⟨wd, hwd⟩ : ∃ wd, wp.drew = wd := ⟨_, rfl⟩
            rw [hwd] at hHeld Dwd Bd S xn r6 ⊢
            clear hwd y0 r6 ne6
            refine wpAnyH_take (i := 0) (oi := _) (v := ?_) rfl (by kernel_rfl) (by kernel_rfl) (by kernel_rfl) (fun _ _ _ h => h) (Or.inl ⟨by rfl, ?_⟩) hHeld ?_
            rotate_left
            · (intro w' hSw; (try dsimp only at hSw); go_simp <;> with_reducible rfl)
            try simp only [Act.put, List.getElem_toArray, List.getElem_cons_succ, List.getElem_cons_zero, List.setIfInBounds_toArray, List.set_cons_zero, List.set_cons_succ]
            refine wpAnyH_take (i := 1) (oi := _) (v := ?_) rfl (by kernel_rfl) (by kernel_rfl) (by kernel_rfl) (fun _ _ _ h => h) (Or.inl ⟨by rfl, ?_⟩) hHeld ?_
            rotate_left
            · (intro w' hSw; (try dsimp only at hSw); go_simp <;> with_reducible rfl)
            try simp only [Act.put, List.getElem_toArray, List.getElem_cons_succ, List.getElem_cons_zero, List.setIfInBounds_toArray, List.set_cons_zero, List.set_cons_succ]
            refine wpAnyH_take (i := 2) (oi := _) (v := ?_) rfl (by kernel_rfl) (by kernel_rfl) (by kernel_rfl) (fun _ _ _ h => h) (Or.inl ⟨by rfl, ?_⟩) hHeld ?_
            rotate_left
            · (intro w' hSw; (try dsimp only at hSw); go_simp <;> with_reducible rfl)
            try simp only [Act.put, List.getElem_toArray, List.getElem_cons_succ, List.getElem_cons_zero, List.setIfInBounds_toArray, List.set_cons_zero, List.set_cons_succ]
            refine wpAnyH_ready (rs := [3]) (by kernel_rfl) (by simp) (AllReadyH.cons (o := _) rfl (fun K hK => ?_) AllReadyH.nil)
            try simp only [Act.put, List.getElem_toArray, List.getElem_cons_succ, List.getElem_cons_zero, List.setIfInBounds_toArray, List.set_cons_zero, List.set_cons_succ]
            go_simp
            go_at_call 59
            refine (pick_any R _ 3 wd S.2.2.2.2.1 (by omega) (by omega) (by omega)).mono ?_
            rintro e we ⟨d4, rfl, d40, d41, Re, Te⟩
            replace S := S.pick Re Te
            replace xn := xn.but Te (by omega)
            have De := Dwd.trans Te
            obtain ⟨A', c', e', hr5, hc5⟩ := S.2.2.1.form
            injection e' with e1 _ e3
            subst e1 e3
            obtain ⟨cm, hcm⟩ : ∃ cm, decide (0 < d4) = cm := ⟨_, rfl⟩
            obtain ⟨kk, hkk⟩ : ∃ kk : Int, kk = if cm then 2 else 3 := ⟨_, rfl⟩
            obtain ⟨xs, b2, hv⟩ := decided_ex rs t' kk
            have CP := hid (specShardDecide_is xs b2 _ rs t' kk cm we ⟨A, c, rfl, hr5, hc5⟩ (HV.out.2.fit (by have := HV.out.1.2; omega)) hkk hv)
            have HX : Hid (Vld xs ∧ SmR xs) := ⟨decided_valid hv, decided_small hv HV.out.2⟩
            clear hv hr5 Te Re hkk
            refine hK.out _ _ (HKP.out _ De) (fun hHeld => ?_)
            clear hK K
            try simp only [Act.put, List.getElem_toArray, List.getElem_cons_succ, List.getElem_cons_zero, List.setIfInBounds_toArray, List.set_cons_zero, List.set_cons_succ]
            refine wpAnyH_take (i := 4) (oi := _) (v := ?_) rfl (by kernel_rfl) (by kernel_rfl) (by kernel_rfl) (fun _ _ _ h => h) (Or.inl ⟨by rfl, ?_⟩) hHeld ?_
            rotate_left
            · (intro w' hSw; (try dsimp only at hSw); go_simp <;> with_reducible rfl)
            try simp only [Act.put, List.getElem_toArray, List.getElem_cons_succ, List.getElem_cons_zero, List.setIfInBounds_toArray, List.set_cons_zero, List.set_cons_succ]
            refine wpAnyH_ready (rs := [5]) (by kernel_rfl) (by simp) (AllReadyH.cons (o := _) rfl (fun K hK => ?_) AllReadyH.nil)
            try simp only [Act.put, List.getElem_toArray, List.getElem_cons_succ, List.getElem_cons_zero, List.setIfInBounds_toArray, List.set_cons_zero, List.set_cons_succ]
            go_simp
            go_at_call 28
            refine CP.out.mono ?_
            rintro e wf ⟨vf, rfl, of, df⟩
            have zf := S.size
            replace S := S.call df
            replace xn := xn.later df
            obtain ⟨A9, c9, rfl, o9, hc9⟩ := of
            unfold shV
            replace o9 := o9.base (B' := w.heap.size) (by omega)
            have Df := De.trans (.of_below df)
            clear CP df De Dwd
            refine hK.out _ _ (HKP.out _ Df) (fun hHeld => ?_)
            clear hK K
            try simp only [Act.put, List.getElem_toArray, List.getElem_cons_succ, List.getElem_cons_zero, List.setIfInBounds_toArray, List.set_cons_zero, List.set_cons_succ]
            refine wpAnyH_take (i := 6) (oi := _) (v := ?_) rfl (by kernel_rfl) (by kernel_rfl) (by kernel_rfl) (fun _ _ _ h => h) (Or.inl ⟨by rfl, ?_⟩) hHeld ?_
            rotate_left
            · (intro w' hSw; (try dsimp only at hSw); go_simp <;> with_reducible rfl)
            try simp only [Act.put, List.getElem_toArray, List.getElem_cons_succ, List.getElem_cons_zero, List.setIfInBounds_toArray, List.set_cons_zero, List.set_cons_succ]
            refine wpAnyH_take (i := 7) (oi := _) (v := ?_) rfl (by kernel_rfl) (by kernel_rfl) (by kernel_rfl) (fun _ _ _ h => h) (Or.inl ⟨by rfl, ?_⟩) hHeld ?_
            rotate_left
            · (intro w' hSw; (try dsimp only at hSw); go_simp <;> with_reducible rfl)
            try simp only [Act.put, List.getElem_toArray, List.getElem_cons_succ, List.getElem_cons_zero, List.setIfInBounds_toArray, List.set_cons_zero, List.set_cons_succ]
            obtain ⟨z0, zff⟩ := id xn.reads
            have zf0 := zff 0
            have xbf := (xb.but Df (by omega)).far (p := ⟨(w8).heap.size, 0, none⟩) (by show w4.heap.size ≠ (w8).heap.size; omega) (.slice A9 xs.length c9)
            have S9 := S.stored xn hgn (.slice A9 xs.length c9)
            have o8 := o9.keptT (by decide) (by decide) (but_set wf (w8).heap.size 0 (.slice A9 xs.length c9)) (blk_type xn)
            have x8 := xn.set0 (.slice A9 xs.length c9)
            have HSn := hid (⟨S9.2.1.reads.1, xbf.reads.1⟩ : _ ∧ _)
            clear zff xbf
            refine wpAnyH_ready (rs := [8, 9]) (by kernel_rfl) (by simp) (AllReadyH.cons (o := _) rfl (fun K hK => ?_) (AllReadyH.cons (o := _) rfl (fun K hK => ?_) AllReadyH.nil))
            · skip
              try simp only [Act.put, List.getElem_toArray, List.getElem_cons_succ, List.getElem_cons_zero, List.setIfInBounds_toArray, List.set_cons_zero, List.set_cons_succ]
              go_simp
              refine hK.out _ _ (HKP.out _ Df) (fun hHeld => ?_)
              clear hK K
              try simp only [Act.put, List.getElem_toArray, List.getElem_cons_succ, List.getElem_cons_zero, List.setIfInBounds_toArray, List.set_cons_zero, List.set_cons_succ]
              refine wpAnyH_ready (rs := [9]) (by kernel_rfl) (by simp) (AllReadyH.cons (o := _) rfl (fun K hK => ?_) AllReadyH.nil)
              try simp only [Act.put, List.getElem_toArray, List.getElem_cons_succ, List.getElem_cons_zero, List.setIfInBounds_toArray, List.set_cons_zero, List.set_cons_succ]
              go_simp
              refine hK.out _ _ HSn.out (fun hHeld => ?_)
              clear hK K
              try simp only [Act.put, List.getElem_toArray, List.getElem_cons_succ, List.getElem_cons_zero, List.setIfInBounds_toArray, List.set_cons_zero, List.set_cons_succ]
              refine wpAnyH_done (by kernel_rfl) ?_ _
              clear S xn o9 z0 zf0 hHeld HSn HKP
              obtain ⟨wz, hwz⟩ : ∃ wz, (wf).setCell ⟨(w8).heap.size, 0, none⟩ (.slice A9 xs.length c9) = wz := ⟨_, rfl⟩
              rw [hwz] at S9 o8 x8 ⊢
              have S := S9
              have o9 := o8
              have xn := x8
              clear S9 o8 x8 hwz
              have sh9 := (OwnSh.mk_ o9).shd
              have CW := hid (specShardValid_is true _ xs wz sh9 (HX.out.2.fit (by have := HX.out.1.2; omega)) ⟨fun _ => HX.out.1, fun _ => rfl⟩)
              obtain ⟨u0, -⟩ := id xn.reads
              clear sh9
              go_wp2_with fail
              refine CW.out.mono ?_
              rintro e wg ⟨rfl, dg⟩
              replace S := S.call dg
              replace xn := xn.later dg
              replace o9 := o9.below dg
              clear CW dg u0
              obtain ⟨u0, -⟩ := id xn.reads
              obtain ⟨y0, yf⟩ := id S.2.1.reads
              have yf0 := yf 0
              have S9 := S.next o9
              have hk40 : k + 1 ≤ 40 := by omega
              clear yf xn o9 S
              go_wp2
              go_roundw
              case rel => exact ⟨k + 1, xs, A9, c9, hk40, by go_num, HX, S9.more (by push_cast; omega)⟩
              case measure => simp [intOf]; omega
            · skip
              try simp only [Act.put, List.getElem_toArray, List.getElem_cons_succ, List.getElem_cons_zero, List.setIfInBounds_toArray, List.set_cons_zero, List.set_cons_succ]
              go_simp
              refine hK.out _ _ HSn.out (fun hHeld => ?_)
              clear hK K
              try simp only [Act.put, List.getElem_toArray, List.getElem_cons_succ, List.getElem_cons_zero, List.setIfInBounds_toArray, List.set_cons_zero, List.set_cons_succ]
              refine wpAnyH_take (i := 8) (oi := _) (v := ?_) rfl (by kernel_rfl) (by kernel_rfl) (by kernel_rfl) (fun _ _ _ h => h) (Or.inl ⟨by rfl, ?_⟩) hHeld ?_
              rotate_left
              · (intro w' hSw; (try dsimp only at hSw); go_simp <;> with_reducible rfl)
              try simp only [Act.put, List.getElem_toArray, List.getElem_cons_succ, List.getElem_cons_zero, List.setIfInBounds_toArray, List.set_cons_zero, List.set_cons_succ]
              refine wpAnyH_done (by kernel_rfl) ?_ _
              clear S xn o9 z0 zf0 hHeld HSn HKP
              obtain ⟨wz, hwz⟩ : ∃ wz, (wf).setCell ⟨(w8).heap.size, 0, none⟩ (.slice A9 xs.length c9) = wz := ⟨_, rfl⟩
              rw [hwz] at S9 o8 x8 ⊢
              have S := S9
              have o9 := o8
              have xn := x8
              clear S9 o8 x8 hwz
              have sh9 := (OwnSh.mk_ o9).shd
              have CW := hid (specShardValid_is true _ xs wz sh9 (HX.out.2.fit (by have := HX.out.1.2; omega)) ⟨fun _ => HX.out.1, fun _ => rfl⟩)
              obtain ⟨u0, -⟩ := id xn.reads
              clear sh9
              go_wp2_with fail
              refine CW.out.mono ?_
              rintro e wg ⟨rfl, dg⟩
              replace S := S.call dg
              replace xn := xn.later dg
              replace o9 := o9.below dg
              clear CW dg u0
              obtain ⟨u0, -⟩ := id xn.reads
              obtain ⟨y0, yf⟩ := id S.2.1.reads
              have yf0 := yf 0
              have S9 := S.next o9
              have hk40 : k + 1 ≤ 40 := by omega
              clear yf xn o9 S
              go_wp2
              go_roundw
              case rel => exact ⟨k + 1, xs, A9, c9, hk40, by go_num, HX, S9.more (by push_cast; omega)⟩
              case measure => simp [intOf]; omega
        · have e2 : (d2 == 0) = false := by rw [beq_eq_false_iff_ne]; exact h2
          clear h2
          have al := (Below.refl (w7).heap.size w7).alloc (Nat.le_refl _) (.cells #[.slice A rs.length c] 25)
          have xn := Blk1.new_ w7 25 (.slice A rs.length c)
          have hgn := S.size
          have zw := zx
          replace S := S.call al
          replace xb := xb.alloc (.cells #[.slice A rs.length c] 25)
          replace r6 := r6.below al (Nat.le_of_lt zx)
          go_upto_region 13 with fail
          obtain ⟨wn, hwn⟩ : ∃ wn, (w7).alloc (.cells #[.slice A rs.length c] 25) = wn := ⟨_, rfl⟩
          rw [hwn] at al xb xn S r6 ⊢
          clear hwn al y0
          replace zx := xb.lt
          obtain ⟨y0, -⟩ := id S.2.1.reads
          go_wp2_with fail
          refine (pick_any R _ 2 wn S.2.2.2.2.1 (by omega) (by omega) (by omega)).mono ?_
          rintro e wp ⟨d3, rfl, d30, d31, Rp, Tp⟩
          replace xn := xn.but Tp (by omega)
          replace xb := xb.but Tp (by omega)
          replace r6 := row_but4 r6 Tp (Nat.le_of_lt zx) ne6
          replace S := S.pick Rp Tp
          replace zx := xb.lt
          clear y0 Rp Tp
          obtain ⟨y0, -⟩ := id S.2.1.reads
          by_cases h3 : d3 = 0
          · have e3 : (d3 == 0) = true := by rw [h3]; rfl
            clear h3
            go_wp2_with fail
            have HKP : Hid (∀ x, But R wp x → x.cell? ⟨w.heap.size + 1 + 1, 0, none⟩ = some (.slice A rs.length c) ∧ x.cell? ⟨w4.heap.size, 0, none⟩ = some (.slice A6 st.refs.length c6)) := fun x hx => ⟨(S.2.1.but hx (by omega)).reads.1, (xb.but hx (by omega)).reads.1⟩
            have Bd := (Below.refl wp.heap.size wp).drew
            have Dwd : But R wp wp.drew := .of_below Bd
            refine wp_region_held_drew (S := fun x => x.cell? ⟨w.heap.size + 1 + 1, 0, none⟩ = some (.slice A rs.length c) ∧ x.cell? ⟨w4.heap.size, 0, none⟩ = some (.slice A6 st.refs.length c6)) (by kernel_rfl) (HKP.out _ Dwd) (fun hHeld => ?_)
            replace S := S.call Bd
            replace xn := xn.later Bd
            replace r6 := r6.below Bd (Nat.le_of_lt zx)
            have zd : w4.heap.size < wp.drew.heap.size := zx
            obtain ⟨wd, hwd⟩ : ∃ wd, wp.drew = wd := ⟨_, rfl⟩
            rw [hwd] at hHeld Dwd Bd S xn r6 zd ⊢
            clear hwd y0
            refine wpAnyH_take (i := 0) (oi := _) (v := ?_) rfl (by kernel_rfl) (by kernel_rfl) (by kernel_rfl) (fun _ _ _ h => h) (Or.inl ⟨by rfl, ?_⟩) hHeld ?_
            rotate_left
            · (intro w' hSw; (try dsimp only at hSw); go_simp <;> with_reducible rfl)
            try simp only [Act.put, List.getElem_toArray, List.getElem_cons_succ, List.getElem_cons_zero, List.setIfInBounds_toArray, List.set_cons_zero, List.set_cons_succ]
            refine wpAnyH_take (i := 1) (oi := _) (v := ?_) rfl (by kernel_rfl) (by kernel_rfl) (by kernel_rfl) (fun _ _ _ h => h) (Or.inl ⟨by rfl, ?_⟩) hHeld ?_
            rotate_left
            · (intro w' hSw; (try dsimp only at hSw); go_simp <;> with_reducible rfl)
            try simp only [Act.put, List.getElem_toArray, List.getElem_cons_succ, List.getElem_cons_zero, List.setIfInBounds_toArray, List.set_cons_zero, List.set_cons_succ]
            refine wpAnyH_take (i := 2) (oi := _) (v := ?_) rfl (by kernel_rfl) (by kernel_rfl) (by kernel_rfl) (fun _ _ _ h => h) (Or.inl ⟨by rfl, ?_⟩) hHeld ?_
            rotate_left
            · (intro w' hSw; (try dsimp only at hSw); go_simp <;> with_reducible rfl)
            try simp only [Act.put, List.getElem_toArray, List.getElem_cons_succ, List.getElem_cons_zero, List.setIfInBounds_toArray, List.set_cons_zero, List.set_cons_succ]
            refine wpAnyH_take (i := 3) (oi := _) (v := ?_) rfl (by kernel_rfl) (by kernel_rfl) (by kernel_rfl) (fun _ _ _ h => h) (Or.inl ⟨by rfl, ?_⟩) hHeld ?_
            rotate_left
            · (intro w' hSw; (try dsimp only at hSw); go_simp <;> with_reducible rfl)
            try simp only [Act.put, List.getElem_toArray, List.getElem_cons_succ, List.getElem_cons_zero, List.setIfInBounds_toArray, List.set_cons_zero, List.set_cons_succ]
            refine wpAnyH_take (i := 4) (oi := _) (v := ?_) rfl (by kernel_rfl) (by kernel_rfl) (by kernel_rfl) (fun _ _ _ h => h) (Or.inl ⟨by rfl, ?_⟩) hHeld ?_
            rotate_left
            · (intro w' hSw; (try dsimp only at hSw); go_simp <;> with_reducible rfl)
            try simp only [Act.put, List.getElem_toArray, List.getElem_cons_succ, List.getElem_cons_zero, List.setIfInBounds_toArray, List.set_cons_zero, List.set_cons_succ]
            refine wpAnyH_ready (rs := [5]) (by kernel_rfl) (by simp) (AllReadyH.cons (o := _) rfl (fun K hK => ?_) AllReadyH.nil)
            try simp only [Act.put, List.getElem_toArray, List.getElem_cons_succ, List.getElem_cons_zero, List.setIfInBounds_toArray, List.set_cons_zero, List.set_cons_succ]
            go_simp
            go_at_call 60
            refine (l92Updates_any R _ A6 c6 st.refs wd S.2.2.2.2.1 (by omega) (r6.more (Nat.le_of_lt zd)) ne6).mono ?_
            rintro e we ⟨vu, us, rfl, ou, hu4, Re, Te⟩
            replace S := S.pick Re Te
            replace xn := xn.but Te (by omega)
            have De := Dwd.trans Te
            obtain ⟨Au, cu, rfl, ru, hcu⟩ := ou.form
            obtain ⟨A', c', e', hr5, hc5⟩ := S.2.2.1.form
            injection e' with e1 _ e3
            subst e1 e3
            obtain ⟨xs, b2, hv⟩ := voted_ex rs t us
            have CP := hid (specShardPrepare_is xs b2 _ rs t Au cu us we ⟨A, c, rfl, hr5, hc5⟩ (HV.out.2.fit (by have := HV.out.1.2; omega)) ru (by omega) hv)
            have HX : Hid (Vld xs ∧ SmR xs) := ⟨voted_valid hv, voted_small hv HV.out.2 hu4⟩
            clear hv hr5 Te Re ou ru r6
            refine hK.out _ _ (HKP.out _ De) (fun hHeld => ?_)
            clear hK K
            try simp only [Act.put, List.getElem_toArray, List.getElem_cons_succ, List.getElem_cons_zero, List.setIfInBounds_toArray, List.set_cons_zero, List.set_cons_succ]
            refine wpAnyH_ready (rs := [6]) (by kernel_rfl) (by simp) (AllReadyH.cons (o := _) rfl (fun K hK => ?_) AllReadyH.nil)
            try simp only [Act.put, List.getElem_toArray, List.getElem_cons_succ, List.getElem_cons_zero, List.setIfInBounds_toArray, List.set_cons_zero, List.set_cons_succ]
            go_simp
            go_at_call 23
            refine CP.out.mono ?_
            rintro e wf ⟨vf, rfl, of, df⟩
            have zf := S.size
            replace S := S.call df
            replace xn := xn.later df
            obtain ⟨A9, c9, rfl, o9, hc9⟩ := of
            unfold shV
            replace o9 := o9.base (B' := w.heap.size) (by omega)
            have Df := De.trans (.of_below df)
            clear CP df De Dwd
            refine hK.out _ _ (HKP.out _ Df) (fun hHeld => ?_)
            clear hK K
            try simp only [Act.put, List.getElem_toArray, List.getElem_cons_succ, List.getElem_cons_zero, List.setIfInBounds_toArray, List.set_cons_zero, List.set_cons_succ]
            refine wpAnyH_take (i := 7) (oi := _) (v := ?_) rfl (by kernel_rfl) (by kernel_rfl) (by kernel_rfl) (fun _ _ _ h => h) (Or.inl ⟨by rfl, ?_⟩) hHeld ?_
            rotate_left
            · (intro w' hSw; (try dsimp only at hSw); go_simp <;> with_reducible rfl)
            try simp only [Act.put, List.getElem_toArray, List.getElem_cons_succ, List.getElem_cons_zero, List.setIfInBounds_toArray, List.set_cons_zero, List.set_cons_succ]
            refine wpAnyH_take (i := 8) (oi := _) (v := ?_) rfl (by kernel_rfl) (by kernel_rfl) (by kernel_rfl) (fun _ _ _ h => h) (Or.inl ⟨by rfl, ?_⟩) hHeld ?_
            rotate_left
            · (intro w' hSw; (try dsimp only at hSw); go_simp <;> with_reducible rfl)
            try simp only [Act.put, List.getElem_toArray, List.getElem_cons_succ, List.getElem_cons_zero, List.setIfInBounds_toArray, List.set_cons_zero, List.set_cons_succ]
            obtain ⟨z0, zff⟩ := id xn.reads
            have zf0 := zff 0
            have xbf := (xb.but Df (by omega)).far (p := ⟨(w7).heap.size, 0, none⟩) (by show w4.heap.size ≠ (w7).heap.size; omega) (.slice A9 xs.length c9)
            have S9 := S.stored xn hgn (.slice A9 xs.length c9)
            have o8 := o9.keptT (by decide) (by decide) (but_set wf (w7).heap.size 0 (.slice A9 xs.length c9)) (blk_type xn)
            have x8 := xn.set0 (.slice A9 xs.length c9)
            have HSn := hid (⟨S9.2.1.reads.1, xbf.reads.1⟩ : _ ∧ _)
            clear zff xbf
            refine wpAnyH_ready (rs := [9, 10]) (by kernel_rfl) (by simp) (AllReadyH.cons (o := _) rfl (fun K hK => ?_) (AllReadyH.cons (o := _) rfl (fun K hK => ?_) AllReadyH.nil))
            · skip
              try simp only [Act.put, List.getElem_toArray, List.getElem_cons_succ, List.getElem_cons_zero, List.setIfInBounds_toArray, List.set_cons_zero, List.set_cons_succ]
              go_simp
              refine hK.out _ _ (HKP.out _ Df) (fun hHeld => ?_)
              clear hK K
              try simp only [Act.put, List.getElem_toArray, List.getElem_cons_succ, List.getElem_cons_zero, List.setIfInBounds_toArray, List.set_cons_zero, List.set_cons_succ]
              refine wpAnyH_ready (rs := [10]) (by kernel_rfl) (by simp) (AllReadyH.cons (o := _) rfl (fun K hK => ?_) AllReadyH.nil)
              try simp only [Act.put, List.getElem_toArray, List.getElem_cons_succ, List.getElem_cons_zero, List.setIfInBounds_toArray, List.set_cons_zero, List.set_cons_succ]
              go_simp
              refine hK.out _ _ HSn.out (fun hHeld => ?_)
              clear hK K
              try simp only [Act.put, List.getElem_toArray, List.getElem_cons_succ, List.getElem_cons_zero, List.setIfInBounds_toArray, List.set_cons_zero, List.set_cons_succ]
              refine wpAnyH_done (by kernel_rfl) ?_ _
              clear S xn o9 z0 zf0 hHeld HSn HKP
              obtain ⟨wz, hwz⟩ : ∃ wz, (wf).setCell ⟨(w7).heap.size, 0, none⟩ (.slice A9 xs.length c9) = wz := ⟨_, rfl⟩
              rw [hwz] at S9 o8 x8 ⊢
              have S := S9
              have o9 := o8
              have xn := x8
              clear S9 o8 x8 hwz
              have sh9 := (OwnSh.mk_ o9).shd
              have CW := hid (specShardValid_is true _ xs wz sh9 (HX.out.2.fit (by have := HX.out.1.2; omega)) ⟨fun _ => HX.out.1, fun _ => rfl⟩)
              obtain ⟨u0, -⟩ := id xn.reads
              clear sh9
              go_wp2_with fail
              refine CW.out.mono ?_
              rintro e wg ⟨rfl, dg⟩
              replace S := S.call dg
              replace xn := xn.later dg
              replace o9 := o9.below dg
              clear CW dg u0
              obtain ⟨u0, -⟩ := id xn.reads
              obtain ⟨y0, yf⟩ := id S.2.1.reads
              have yf0 := yf 0
              have S9 := S.next o9
              have hk40 : k + 1 ≤ 40 := by omega
              clear yf xn o9 S
              go_wp2
              go_roundw
              case rel => exact ⟨k + 1, xs, A9, c9, hk40, by go_num, HX, S9.more (by push_cast; omega)⟩
              case measure => simp [intOf]; omega
            · skip
              try simp only [Act.put, List.getElem_toArray, List.getElem_cons_succ, List.getElem_cons_zero, List.setIfInBounds_toArray, List.set_cons_zero, List.set_cons_succ]
              go_simp
              refine hK.out _ _ HSn.out (fun hHeld => ?_)
              clear hK K
              try simp only [Act.put, List.getElem_toArray, List.getElem_cons_succ, List.getElem_cons_zero, List.setIfInBounds_toArray, List.set_cons_zero, List.set_cons_succ]
              refine wpAnyH_take (i := 9) (oi := _) (v := ?_) rfl (by kernel_rfl) (by kernel_rfl) (by kernel_rfl) (fun _ _ _ h => h) (Or.inl ⟨by rfl, ?_⟩) hHeld ?_
              rotate_left
              · (intro w' hSw; (try dsimp only at hSw); go_simp <;> with_reducible rfl)
              try simp only [Act.put, List.getElem_toArray, List.getElem_cons_succ, List.getElem_cons_zero, List.setIfInBounds_toArray, List.set_cons_zero, List.set_cons_succ]
              refine wpAnyH_done (by kernel_rfl) ?_ _
              clear S xn o9 z0 zf0 hHeld HSn HKP
              obtain ⟨wz, hwz⟩ : ∃ wz, (wf).setCell ⟨(w7).heap.size, 0, none⟩ (.slice A9 xs.length c9) = wz := ⟨_, rfl⟩
              rw [hwz] at S9 o8 x8 ⊢
              have S := S9
              have o9 := o8
              have xn := x8
              clear S9 o8 x8 hwz
              have sh9 := (OwnSh.mk_ o9).shd
              have CW := hid (specShardValid_is true _ xs wz sh9 (HX.out.2.fit (by have := HX.out.1.2; omega)) ⟨fun _ => HX.out.1, fun _ => rfl⟩)
              obtain ⟨u0, -⟩ := id xn.reads
              clear sh9
              go_wp2_with fail
              refine CW.out.mono ?_
              rintro e wg ⟨rfl, dg⟩
              replace S := S.call dg
              replace xn := xn.later dg
              replace o9 := o9.below dg
              clear CW dg u0
              obtain ⟨u0, -⟩ := id xn.reads
              obtain ⟨y0, yf⟩ := id S.2.1.reads
              have yf0 := yf 0
              have S9 := S.next o9
              have hk40 : k + 1 ≤ 40 := by omega
              clear yf xn o9 S
              go_wp2
              go_roundw
              case rel => exact ⟨k + 1, xs, A9, c9, hk40, by go_num, HX, S9.more (by push_cast; omega)⟩
              case measure => simp [intOf]; omega
          · have e3 : (d3 == 0) = false := by rw [beq_eq_false_iff_ne]; exact h3
            clear h3
            go_wp2_with fail
            have HKP : Hid (∀ x, But R wp x → x.cell? ⟨w.heap.size + 1 + 1, 0, none⟩ = some (.slice A rs.length c) ∧ x.cell? ⟨w4.heap.size, 0, none⟩ = some (.slice A6 st.refs.length c6)) := fun x hx => ⟨(S.2.1.but hx (by omega)).reads.1, (xb.but hx (by omega)).reads.1⟩
            have Bd := (Below.refl wp.heap.size wp).drew
            have Dwd : But R wp wp.drew := .of_below Bd
            refine wp_region_held_drew (S := fun x => x.cell? ⟨w.heap.size + 1 + 1, 0, none⟩ = some (.slice A rs.length c) ∧ x.cell? ⟨w4.heap.size, 0, none⟩ = some (.slice A6 st.refs.length c6)) (by kernel_rfl) (HKP.out _ Dwd) (fun hHeld => ?_)
            replace S := S.call Bd
            replace xn := xn.later Bd
            replace r6 := r6.below Bd (Nat.le_of_lt zx)
            obtain ⟨wd, hwd⟩ : ∃ wd, wp.drew = wd := ⟨_, rfl⟩
            rw [hwd] at hHeld Dwd Bd S xn r6 ⊢
            clear hwd y0 r6 ne6
            refine wpAnyH_take (i := 0) (oi := _) (v := ?_) rfl (by kernel_rfl) (by kernel_rfl) (by kernel_rfl) (fun _ _ _ h => h) (Or.inl ⟨by rfl, ?_⟩) hHeld ?_
            rotate_left
            · (intro w' hSw; (try dsimp only at hSw); go_simp <;> with_reducible rfl)
            try simp only [Act.put, List.getElem_toArray, List.getElem_cons_succ, List.getElem_cons_zero, List.setIfInBounds_toArray, List.set_cons_zero, List.set_cons_succ]
            refine wpAnyH_take (i := 1) (oi := _) (v := ?_) rfl (by kernel_rfl) (by kernel_rfl) (by kernel_rfl) (fun _ _ _ h => h) (Or.inl ⟨by rfl, ?_⟩) hHeld ?_
            rotate_left
            · (intro w' hSw; (try dsimp only at hSw); go_simp <;> with_reducible rfl)
            try simp only [Act.put, List.getElem_toArray, List.getElem_cons_succ, List.getElem_cons_zero, List.setIfInBounds_toArray, List.set_cons_zero, List.set_cons_succ]
            refine wpAnyH_take (i := 2) (oi := _) (v := ?_) rfl (by kernel_rfl) (by kernel_rfl) (by kernel_rfl) (fun _ _ _ h => h) (Or.inl ⟨by rfl, ?_⟩) hHeld ?_
            rotate_left
            · (intro w' hSw; (try dsimp only at hSw); go_simp <;> with_reducible rfl)
            try simp only [Act.put, List.getElem_toArray, List.getElem_cons_succ, List.getElem_cons_zero, List.setIfInBounds_toArray, List.set_cons_zero, List.set_cons_succ]
            refine wpAnyH_ready (rs := [3]) (by kernel_rfl) (by simp) (AllReadyH.cons (o := _) rfl (fun K hK => ?_) AllReadyH.nil)
            try simp only [Act.put, List.getElem_toArray, List.getElem_cons_succ, List.getElem_cons_zero, List.setIfInBounds_toArray, List.set_cons_zero, List.set_cons_succ]
            go_simp
            go_at_call 59
            refine (pick_any R _ 3 wd S.2.2.2.2.1 (by omega) (by omega) (by omega)).mono ?_
            rintro e we ⟨d4, rfl, d40, d41, Re, Te⟩
            replace S := S.pick Re Te
            replace xn := xn.but Te (by omega)
            have De := Dwd.trans Te
            obtain ⟨A', c', e', hr5, hc5⟩ := S.2.2.1.form
            injection e' with e1 _ e3
            subst e1 e3
            obtain ⟨cm, hcm⟩ : ∃ cm, decide (0 < d4) = cm := ⟨_, rfl⟩
            obtain ⟨kk, hkk⟩ : ∃ kk : Int, kk = if cm then 2 else 3 := ⟨_, rfl⟩
            obtain ⟨xs, b2, hv⟩ := decided_ex rs t kk
            have CP := hid (specShardDecide_is xs b2 _ rs t kk cm we ⟨A, c, rfl, hr5, hc5⟩ (HV.out.2.fit (by have := HV.out.1.2; omega)) hkk hv)
            have HX : Hid (Vld xs ∧ SmR xs) := ⟨decided_valid hv, decided_small hv HV.out.2⟩
            clear hv hr5 Te Re hkk
            refine hK.out _ _ (HKP.out _ De) (fun hHeld => ?_)
            clear hK K
            try simp only [Act.put, List.getElem_toArray, List.getElem_cons_succ, List.getElem_cons_zero, List.setIfInBounds_toArray, List.set_cons_zero, List.set_cons_succ]
            refine wpAnyH_take (i := 4) (oi := _) (v := ?_) rfl (by kernel_rfl) (by kernel_rfl) (by kernel_rfl) (fun _ _ _ h => h) (Or.inl ⟨by rfl, ?_⟩) hHeld ?_
            rotate_left
            · (intro w' hSw; (try dsimp only at hSw); go_simp <;> with_reducible rfl)
            try simp only [Act.put, List.getElem_toArray, List.getElem_cons_succ, List.getElem_cons_zero, List.setIfInBounds_toArray, List.set_cons_zero, List.set_cons_succ]
            refine wpAnyH_ready (rs := [5]) (by kernel_rfl) (by simp) (AllReadyH.cons (o := _) rfl (fun K hK => ?_) AllReadyH.nil)
            try simp only [Act.put, List.getElem_toArray, List.getElem_cons_succ, List.getElem_cons_zero, List.setIfInBounds_toArray, List.set_cons_zero, List.set_cons_succ]
            go_simp
            go_at_call 28
            refine CP.out.mono ?_
            rintro e wf ⟨vf, rfl, of, df⟩
            have zf := S.size
            replace S := S.call df
            replace xn := xn.later df
            obtain ⟨A9, c9, rfl, o9, hc9⟩ := of
            unfold shV
            replace o9 := o9.base (B' := w.heap.size) (by omega)
            have Df := De.trans (.of_below df)
            clear CP df De Dwd
            refine hK.out _ _ (HKP.out _ Df) (fun hHeld => ?_)
            clear hK K
            try simp only [Act.put, List.getElem_toArray, List.getElem_cons_succ, List.getElem_cons_zero, List.setIfInBounds_toArray, List.set_cons_zero, List.set_cons_succ]
            refine wpAnyH_take (i := 6) (oi := _) (v := ?_) rfl (by kernel_rfl) (by kernel_rfl) (by kernel_rfl) (fun _ _ _ h => h) (Or.inl ⟨by rfl, ?_⟩) hHeld ?_
            rotate_left
            · (intro w' hSw; (try dsimp only at hSw); go_simp <;> with_reducible rfl)
            try simp only [Act.put, List.getElem_toArray, List.getElem_cons_succ, List.getElem_cons_zero, List.setIfInBounds_toArray, List.set_cons_zero, List.set_cons_succ]
            refine wpAnyH_take (i := 7) (oi := _) (v := ?_) rfl (by kernel_rfl) (by kernel_rfl) (by kernel_rfl) (fun _ _ _ h => h) (Or.inl ⟨by rfl, ?_⟩) hHeld ?_
            rotate_left
            · (intro w' hSw; (try dsimp only at hSw); go_simp <;> with_reducible rfl)
            try simp only [Act.put, List.getElem_toArray, List.getElem_cons_succ, List.getElem_cons_zero, List.setIfInBounds_toArray, List.set_cons_zero, List.set_cons_succ]
            obtain ⟨z0, zff⟩ := id xn.reads
            have zf0 := zff 0
            have xbf := (xb.but Df (by omega)).far (p := ⟨(w7).heap.size, 0, none⟩) (by show w4.heap.size ≠ (w7).heap.size; omega) (.slice A9 xs.length c9)
            have S9 := S.stored xn hgn (.slice A9 xs.length c9)
            have o8 := o9.keptT (by decide) (by decide) (but_set wf (w7).heap.size 0 (.slice A9 xs.length c9)) (blk_type xn)
            have x8 := xn.set0 (.slice A9 xs.length c9)
            have HSn := hid (⟨S9.2.1.reads.1, xbf.reads.1⟩ : _ ∧ _)
            clear zff xbf
            refine wpAnyH_ready (rs := [8, 9]) (by kernel_rfl) (by simp) (AllReadyH.cons (o := _) rfl (fun K hK => ?_) (AllReadyH.cons (o := _) rfl (fun K hK => ?_) AllReadyH.nil))
            · skip
              try simp only [Act.put, List.getElem_toArray, List.getElem_cons_succ, List.getElem_cons_zero, List.setIfInBounds_toArray, List.set_cons_zero, List.set_cons_succ]
              go_simp
              refine hK.out _ _ (HKP.out _ Df) (fun hHeld => ?_)
              clear hK K
              try simp only [Act.put, List.getElem_toArray, List.getElem_cons_succ, List.getElem_cons_zero, List.setIfInBounds_toArray, List.set_cons_zero, List.set_cons_succ]
              refine wpAnyH_ready (rs := [9]) (by kernel_rfl) (by simp) (AllReadyH.cons (o := _) rfl (fun K hK => ?_) AllReadyH.nil)
              try simp only [Act.put, List.getElem_toArray, List.getElem_cons_succ, List.getElem_cons_zero, List.setIfInBounds_toArray, List.set_cons_zero, List.set_cons_succ]
              go_simp
              refine hK.out _ _ HSn.out (fun hHeld => ?_)
              clear hK K
              try simp only [Act.put, List.getElem_toArray, List.getElem_cons_succ, List.getElem_cons_zero, List.setIfInBounds_toArray, List.set_cons_zero, List.set_cons_succ]
              refine wpAnyH_done (by kernel_rfl) ?_ _
              clear S xn o9 z0 zf0 hHeld HSn HKP
              obtain ⟨wz, hwz⟩ : ∃ wz, (wf).setCell ⟨(w7).heap.size, 0, none⟩ (.slice A9 xs.length c9) = wz := ⟨_, rfl⟩
              rw [hwz] at S9 o8 x8 ⊢
              have S := S9
              have o9 := o8
              have xn := x8
              clear S9 o8 x8 hwz
              have sh9 := (OwnSh.mk_ o9).shd
              have CW := hid (specShardValid_is true _ xs wz sh9 (HX.out.2.fit (by have := HX.out.1.2; omega)) ⟨fun _ => HX.out.1, fun _ => rfl⟩)
              obtain ⟨u0, -⟩ := id xn.reads
              clear sh9
              go_wp2_with fail
              refine CW.out.mono ?_
              rintro e wg ⟨rfl, dg⟩
              replace S := S.call dg
              replace xn := xn.later dg
              replace o9 := o9.below dg
              clear CW dg u0
              obtain ⟨u0, -⟩ := id xn.reads
              obtain ⟨y0, yf⟩ := id S.2.1.reads
              have yf0 := yf 0
              have S9 := S.next o9
              have hk40 : k + 1 ≤ 40 := by omega
              clear yf xn o9 S
              go_wp2
              go_roundw
              case rel => exact ⟨k + 1, xs, A9, c9, hk40, by go_num, HX, S9.more (by push_cast; omega)⟩
              case measure => simp [intOf]; omega
            · skip
              try simp only [Act.put, List.getElem_toArray, List.getElem_cons_succ, List.getElem_cons_zero, List.setIfInBounds_toArray, List.set_cons_zero, List.set_cons_succ]
              go_simp
              refine hK.out _ _ HSn.out (fun hHeld => ?_)
              clear hK K
              try simp only [Act.put, List.getElem_toArray, List.getElem_cons_succ, List.getElem_cons_zero, List.setIfInBounds_toArray, List.set_cons_zero, List.set_cons_succ]
              refine wpAnyH_take (i := 8) (oi := _) (v := ?_) rfl (by kernel_rfl) (by kernel_rfl) (by kernel_rfl) (fun _ _ _ h => h) (Or.inl ⟨by rfl, ?_⟩) hHeld ?_
              rotate_left
              · (intro w' hSw; (try dsimp only at hSw); go_simp <;> with_reducible rfl)
              try simp only [Act.put, List.getElem_toArray, List.getElem_cons_succ, List.getElem_cons_zero, List.setIfInBounds_toArray, List.set_cons_zero, List.set_cons_succ]
              refine wpAnyH_done (by kernel_rfl) ?_ _
              clear S xn o9 z0 zf0 hHeld HSn HKP
              obtain ⟨wz, hwz⟩ : ∃ wz, (wf).setCell ⟨(w7).heap.size, 0, none⟩ (.slice A9 xs.length c9) = wz := ⟨_, rfl⟩
              rw [hwz] at S9 o8 x8 ⊢
              have S := S9
              have o9 := o8
              have xn := x8
              clear S9 o8 x8 hwz
              have sh9 := (OwnSh.mk_ o9).shd
              have CW := hid (specShardValid_is true _ xs wz sh9 (HX.out.2.fit (by have := HX.out.1.2; omega)) ⟨fun _ => HX.out.1, fun _ => rfl⟩)
              obtain ⟨u0, -⟩ := id xn.reads
              clear sh9
              go_wp2_with fail
              refine CW.out.mono ?_
              rintro e wg ⟨rfl, dg⟩
              replace S := S.call dg
              replace xn := xn.later dg
              replace o9 := o9.below dg
              clear CW dg u0
              obtain ⟨u0, -⟩ := id xn.reads
              obtain ⟨y0, yf⟩ := id S.2.1.reads
              have yf0 := yf 0
              have S9 := S.next o9
              have hk40 : k + 1 ≤ 40 := by omega
              clear yf xn o9 S
              go_wp2
              go_roundw
              case rel => exact ⟨k + 1, xs, A9, c9, hk40, by go_num, HX, S9.more (by push_cast; omega)⟩
              case measure => simp [intOf]; omega
      · go_wp2_with fail
        refine (pick_any R _ 16 wr S.2.2.2.2.1 (by omega) (by omega) (by omega)).mono ?_
        rintro e w4 ⟨d5, rfl, d50, d51, R4, T4⟩
        replace S := S.pick R4 T4
        clear y0 R4 T4
        obtain ⟨y0, yf⟩ := id S.2.1.reads
        obtain ⟨z0, zff⟩ := id S.1.reads
        have zf0 := zff 0
        have hlen : rs.length ≤ 30 := HV.out.1.2
        have hl31 : rs.length ≤ 31 := by omega
        clear zff
        have key : d5 = 0 ∨ d5 = 1 ∨ (d5 ≠ 0 ∧ d5 ≠ 1) := by omega
        rcases key with rfl | rfl | ⟨h50, h51⟩
        · go_wp2_with fail
          have Bd := (Below.refl w4.heap.size w4).drew
          refine wp_region_held_drew (S := fun _ => True) (by kernel_rfl) trivial (fun hHeld => ?_)
          replace S := S.call Bd
          obtain ⟨wd, hwd⟩ : ∃ wd, w4.drew = wd := ⟨_, rfl⟩
          rw [hwd] at S ⊢
          clear hwd y0 yf z0 zf0 Bd
          obtain ⟨y0, -⟩ := id S.2.1.reads
          refine wpAnyH_take (i := 0) (oi := _) (v := ?_) rfl (by kernel_rfl) (by kernel_rfl) (by kernel_rfl) (fun _ _ _ h => h) (Or.inl ⟨by rfl, ?_⟩) hHeld ?_
          rotate_left
          · (intro w' hSw; (try dsimp only at hSw); go_simp <;> with_reducible rfl)
          try simp only [Act.put, List.getElem_toArray, List.getElem_cons_succ, List.getElem_cons_zero, List.setIfInBounds_toArray, List.set_cons_zero, List.set_cons_succ]
          refine wpAnyH_take (i := 2) (oi := _) (v := ?_) rfl (by kernel_rfl) (by kernel_rfl) (by kernel_rfl) (fun _ _ _ h => h) (Or.inl ⟨by rfl, ?_⟩) hHeld ?_
          rotate_left
          · (intro w' hSw; (try dsimp only at hSw); go_simp <;> with_reducible rfl)
          try simp only [Act.put, List.getElem_toArray, List.getElem_cons_succ, List.getElem_cons_zero, List.setIfInBounds_toArray, List.set_cons_zero, List.set_cons_succ]
          refine wpAnyH_take (i := 4) (oi := _) (v := ?_) rfl (by kernel_rfl) (by kernel_rfl) (by kernel_rfl) (fun _ _ _ h => h) (Or.inl ⟨by rfl, ?_⟩) hHeld ?_
          rotate_left
          · (intro w' hSw; (try dsimp only at hSw); go_simp <;> with_reducible rfl)
          try simp only [Act.put, List.getElem_toArray, List.getElem_cons_succ, List.getElem_cons_zero, List.setIfInBounds_toArray, List.set_cons_zero, List.set_cons_succ]
          refine wpAnyH_ready (rs := [1, 3]) (by kernel_rfl) (by simp) (AllReadyH.cons (o := _) rfl (fun K hK => ?_) (AllReadyH.cons (o := _) rfl (fun K hK => ?_) AllReadyH.nil))
          · skip
            try simp only [Act.put, List.getElem_toArray, List.getElem_cons_succ, List.getElem_cons_zero, List.setIfInBounds_toArray, List.set_cons_zero, List.set_cons_succ]
            go_simp
            refine hK.out _ _ trivial (fun hHeld => ?_)
            clear hK K
            try simp only [Act.put, List.getElem_toArray, List.getElem_cons_succ, List.getElem_cons_zero, List.setIfInBounds_toArray, List.set_cons_zero, List.set_cons_succ]
            refine wpAnyH_ready (rs := [3]) (by kernel_rfl) (by simp) (AllReadyH.cons (o := _) rfl (fun K hK => ?_) AllReadyH.nil)
            try simp only [Act.put, List.getElem_toArray, List.getElem_cons_succ, List.getElem_cons_zero, List.setIfInBounds_toArray, List.set_cons_zero, List.set_cons_succ]
            go_simp
            go_at_call 59
            refine (pick_any R _ 5 wd S.2.2.2.2.1 (by omega) (by omega) (by omega)).mono ?_
            rintro e we ⟨d6, rfl, d60, d61, Re, Te⟩
            replace S := S.pick Re Te
            clear Re Te y0
            obtain ⟨y0, -⟩ := id S.2.1.reads
            refine hK.out _ _ trivial (fun hHeld => ?_)
            clear hK K
            try simp only [Act.put, List.getElem_toArray, List.getElem_cons_succ, List.getElem_cons_zero, List.setIfInBounds_toArray, List.set_cons_zero, List.set_cons_succ]
            refine wpAnyH_ready (rs := [5]) (by kernel_rfl) (by simp) (AllReadyH.cons (o := _) rfl (fun K hK => ?_) AllReadyH.nil)
            try simp only [Act.put, List.getElem_toArray, List.getElem_cons_succ, List.getElem_cons_zero, List.setIfInBounds_toArray, List.set_cons_zero, List.set_cons_succ]
            go_simp
            go_at_call 59
            refine (pick_any R _ 13 we S.2.2.2.2.1 (by omega) (by omega) (by omega)).mono ?_
            rintro e wf ⟨d7, rfl, d70, d71, Rf, Tf⟩
            replace S := S.pick Rf Tf
            clear Rf Tf y0
            obtain ⟨y0, -⟩ := id S.2.1.reads
            refine hK.out _ _ trivial (fun hHeld => ?_)
            clear hK K
            try simp only [Act.put, List.getElem_toArray, List.getElem_cons_succ, List.getElem_cons_zero, List.setIfInBounds_toArray, List.set_cons_zero, List.set_cons_succ]
            refine wpAnyH_take (i := 6) (oi := _) (v := ?_) rfl (by kernel_rfl) (by kernel_rfl) (by kernel_rfl) (fun _ _ _ h => h) (Or.inl ⟨by rfl, ?_⟩) hHeld ?_
            rotate_left
            · (intro w' hSw; (try dsimp only at hSw); go_simp <;> with_reducible rfl)
            try simp only [Act.put, List.getElem_toArray, List.getElem_cons_succ, List.getElem_cons_zero, List.setIfInBounds_toArray, List.set_cons_zero, List.set_cons_succ]
            obtain ⟨ys, hrow, har⟩ := id S.2.2.1
            have oA := World.ownsRow.alloc hrow (.cells #[.int .i64 d6, .int .i64 d7, .slice none 0 0] 33)
            have rA := row_threeR wf (.int .i64 d6) (.int .i64 d7) (.slice none 0 0) 33
            have y9 := hid (S.call ((Below.refl wf.heap.size wf).alloc (Nat.le_refl _) (.cells #[.int .i64 d6, .int .i64 d7, .slice none 0 0] 33))).2.1.reads.1
            refine wpAnyH_ready (rs := [7]) (by kernel_rfl) (by simp) (AllReadyH.cons (o := _) rfl (fun K hK => ?_) AllReadyH.nil)
            try simp only [Act.put, List.getElem_toArray, List.getElem_cons_succ, List.getElem_cons_zero, List.setIfInBounds_toArray, List.set_cons_zero, List.set_cons_succ]
            go_simp
            refine hK.out _ _ trivial (fun hHeld => ?_)
            clear hK K
            try simp only [Act.put, List.getElem_toArray, List.getElem_cons_succ, List.getElem_cons_zero, List.setIfInBounds_toArray, List.set_cons_zero, List.set_cons_succ]
            clear y0
            have y0 := y9.out
            refine wpAnyH_ready (rs := [8]) (by kernel_rfl) (by simp) (AllReadyH.cons (o := _) rfl (fun K hK => ?_) AllReadyH.nil)
            try simp only [Act.put, List.getElem_toArray, List.getElem_cons_succ, List.getElem_cons_zero, List.setIfInBounds_toArray, List.set_cons_zero, List.set_cons_succ]
            rw [if_pos (by rfl)]
            refine op_append_row1 _ (by rfl) _ _ 23 (by rfl) w.heap.size 33 i0 (.agg #[.int .i64 0, .int .i64 0, .slice none 0 0]) 3 40 Tryd.underlying23 hi hz0 hz1 hz2 rfl (by decide) (.slice A rs.length c) rs.length ys (by rfl) oA _ (some ⟨wf.heap.size, 0, none⟩) 1 1 [.int .i64 d6, .int .i64 d7, .slice none 0 0] (by rfl) rA rfl (rec_cells _ _ _ _ _) (by unfold maxLen; omega) (by omega) (by have := S.size; simp; omega) ?_
            intro v8 W8 hown hg
            obtain ⟨A9, c9, rfl, ⟨k1, kf⟩, F⟩ := S.app (r := ⟨d6, d7, []⟩) (A5 := none) (c5 := 0) har hrow (OwnUps.nil_none _ _) (Nat.le_refl _) hown hg
            clear hown hg oA rA hrow har y0 y9
            refine hK.out _ _ trivial (fun hHeld => ?_)
            clear hK K
            try simp only [Act.put, List.getElem_toArray, List.getElem_cons_succ, List.getElem_cons_zero, List.setIfInBounds_toArray, List.set_cons_zero, List.set_cons_succ]
            refine wpAnyH_take (i := 9) (oi := _) (v := ?_) rfl (by kernel_rfl) (by kernel_rfl) (by kernel_rfl) (fun _ _ _ h => h) (Or.inl ⟨by rfl, ?_⟩) hHeld ?_
            rotate_left
            · (intro w' hSw; (try dsimp only at hSw); go_simp <;> with_reducible rfl)
            try simp only [Act.put, List.getElem_toArray, List.getElem_cons_succ, List.getElem_cons_zero, List.setIfInBounds_toArray, List.set_cons_zero, List.set_cons_succ]
            refine wpAnyH_ready (rs := [10]) (by kernel_rfl) (by simp) (AllReadyH.cons (o := _) rfl (fun K hK => ?_) AllReadyH.nil)
            try simp only [Act.put, List.getElem_toArray, List.getElem_cons_succ, List.getElem_cons_zero, List.setIfInBounds_toArray, List.set_cons_zero, List.set_cons_succ]
            go_simp
            refine hK.out _ _ trivial (fun hHeld => ?_)
            clear hK K
            try simp only [Act.put, List.getElem_toArray, List.getElem_cons_succ, List.getElem_cons_zero, List.setIfInBounds_toArray, List.set_cons_zero, List.set_cons_succ]
            refine wpAnyH_done (by kernel_rfl) ?_ _
            obtain ⟨W9, hW9⟩ : ∃ W9, W8.setCell ⟨w.heap.size + 1 + 1, 0, none⟩ (.slice A9 (rs.length + 1) c9) = W9 := ⟨_, rfl⟩
            rw [hW9] at F ⊢
            clear hW9 k1 kf S hHeld
            have S := F
            clear F
            obtain ⟨rs9, hrs9⟩ : ∃ x, rs ++ [⟨d6, d7, []⟩] = x := ⟨_, rfl⟩
            have hl9 : rs.length + 1 = rs9.length := by rw [← hrs9]; simp
            have hl31 : rs9.length ≤ 31 := by omega
            have HS9 : Hid (SmR rs9) := hrs9 ▸ HV.out.2.snoc (Nat.zero_le _)
            rw [hrs9] at S
            rw [hl9]
            clear hrs9 hl9
            obtain ⟨y0, -⟩ := id S.2.1.reads
            obtain ⟨z0, zff⟩ := id S.1.reads
            have zf0 := zff 0
            clear zff
            have hc9 := S.2.2.1.form
            obtain ⟨A', c', e', -, hc⟩ := hc9
            injection e' with e1 _ e3
            subst e1 e3
            obtain ⟨p0, -⟩ := (S.1.set0 (.slice A9 rs9.length c9)).reads
            have o9 := S.2.2.1.keptT (by decide) (by decide) (but_set W9 w.heap.size 0 (.slice A9 rs9.length c9)) (blk_type S.1)
            have R9 := S.2.2.2.2.1.far (g := w.heap.size) S.2.2.2.1 0 (.slice A9 rs9.length c9)
            have T9 := S.2.2.2.2.2.set_new (Nat.le_refl _) 0 (.slice A9 rs9.length c9)
            clear S
            go_wp2
            exact bodyPost_ret (v := .agg #[.slice A9 rs9.length c9]) (by simp [results, Tryd.results50, go_sem, p0]) rfl ⟨_, rs9, rfl, ⟨A9, c9, rs9, o9, hc, .inl ⟨rfl, rfl⟩⟩, hl31, HS9.out, R9.more (by omega), T9⟩
          · skip
            try simp only [Act.put, List.getElem_toArray, List.getElem_cons_succ, List.getElem_cons_zero, List.setIfInBounds_toArray, List.set_cons_zero, List.set_cons_succ]
            go_simp
            go_at_call 59
            refine (pick_any R _ 5 wd S.2.2.2.2.1 (by omega) (by omega) (by omega)).mono ?_
            rintro e we ⟨d6, rfl, d60, d61, Re, Te⟩
            replace S := S.pick Re Te
            clear Re Te y0
            obtain ⟨y0, -⟩ := id S.2.1.reads
            refine hK.out _ _ trivial (fun hHeld => ?_)
            clear hK K
            try simp only [Act.put, List.getElem_toArray, List.getElem_cons_succ, List.getElem_cons_zero, List.setIfInBounds_toArray, List.set_cons_zero, List.set_cons_succ]
            refine wpAnyH_ready (rs := [1, 5]) (by kernel_rfl) (by simp) (AllReadyH.cons (o := _) rfl (fun K hK => ?_) (AllReadyH.cons (o := _) rfl (fun K hK => ?_) AllReadyH.nil))
            · skip
              try simp only [Act.put, List.getElem_toArray, List.getElem_cons_succ, List.getElem_cons_zero, List.setIfInBounds_toArray, List.set_cons_zero, List.set_cons_succ]
              go_simp
              refine hK.out _ _ trivial (fun hHeld => ?_)
              clear hK K
              try simp only [Act.put, List.getElem_toArray, List.getElem_cons_succ, List.getElem_cons_zero, List.setIfInBounds_toArray, List.set_cons_zero, List.set_cons_succ]
              refine wpAnyH_ready (rs := [5]) (by kernel_rfl) (by simp) (AllReadyH.cons (o := _) rfl (fun K hK => ?_) AllReadyH.nil)
              try simp only [Act.put, List.getElem_toArray, List.getElem_cons_succ, List.getElem_cons_zero, List.setIfInBounds_toArray, List.set_cons_zero, List.set_cons_succ]
              go_simp
              go_at_call 59
              refine (pick_any R _ 13 we S.2.2.2.2.1 (by omega) (by omega) (by omega)).mono ?_
              rintro e wf ⟨d7, rfl, d70, d71, Rf, Tf⟩
              replace S := S.pick Rf Tf
              clear Rf Tf y0
              obtain ⟨y0, -⟩ := id S.2.1.reads
              refine hK.out _ _ trivial (fun hHeld => ?_)
              clear hK K
              try simp only [Act.put, List.getElem_toArray, List.getElem_cons_succ, List.getElem_cons_zero, List.setIfInBounds_toArray, List.set_cons_zero, List.set_cons_succ]
              refine wpAnyH_take (i := 6) (oi := _) (v := ?_) rfl (by kernel_rfl) (by kernel_rfl) (by kernel_rfl) (fun _ _ _ h => h) (Or.inl ⟨by rfl, ?_⟩) hHeld ?_
              rotate_left
              · (intro w' hSw; (try dsimp only at hSw); go_simp <;> with_reducible rfl)
              try simp only [Act.put, List.getElem_toArray, List.getElem_cons_succ, List.getElem_cons_zero, List.setIfInBounds_toArray, List.set_cons_zero, List.set_cons_succ]
              obtain ⟨ys, hrow, har⟩ := id S.2.2.1
              have oA := World.ownsRow.alloc hrow (.cells #[.int .i64 d6, .int .i64 d7, .slice none 0 0] 33)
              have rA := row_threeR wf (.int .i64 d6) (.int .i64 d7) (.slice none 0 0) 33
              have y9 := hid (S.call ((Below.refl wf.heap.size wf).alloc (Nat.le_refl _) (.cells #[.int .i64 d6, .int .i64 d7, .slice none 0 0] 33))).2.1.reads.1
              refine wpAnyH_ready (rs := [7]) (by kernel_rfl) (by simp) (AllReadyH.cons (o := _) rfl (fun K hK => ?_) AllReadyH.nil)
              try simp only [Act.put, List.getElem_toArray, List.getElem_cons_succ, List.getElem_cons_zero, List.setIfInBounds_toArray, List.set_cons_zero, List.set_cons_succ]
              go_simp
              refine hK.out _ _ trivial (fun hHeld => ?_)
              clear hK K
              try simp only [Act.put, List.getElem_toArray, List.getElem_cons_succ, List.getElem_cons_zero, List.setIfInBounds_toArray, List.set_cons_zero, List.set_cons_succ]
              clear y0
              have y0 := y9.out
              refine wpAnyH_ready (rs := [8]) (by kernel_rfl) (by simp) (AllReadyH.cons (o := _) rfl (fun K hK => ?_) AllReadyH.nil)
              try simp only [Act.put, List.getElem_toArray, List.getElem_cons_succ, List.getElem_cons_zero, List.setIfInBounds_toArray, List.set_cons_zero, List.set_cons_succ]
              rw [if_pos (by rfl)]
              refine op_append_row1 _ (by rfl) _ _ 23 (by rfl) w.heap.size 33 i0 (.agg #[.int .i64 0, .int .i64 0, .slice none 0 0]) 3 40 Tryd.underlying23 hi hz0 hz1 hz2 rfl (by decide) (.slice A rs.length c) rs.length ys (by rfl) oA _ (some ⟨wf.heap.size, 0, none⟩) 1 1 [.int .i64 d6, .int .i64 d7, .slice none 0 0] (by rfl) rA rfl (rec_cells _ _ _ _ _) (by unfold maxLen; omega) (by omega) (by have := S.size; simp; omega) ?_
              intro v8 W8 hown hg
              obtain ⟨A9, c9, rfl, ⟨k1, kf⟩, F⟩ := S.app (r := ⟨d6, d7, []⟩) (A5 := none) (c5 := 0) har hrow (OwnUps.nil_none _ _) (Nat.le_refl _) hown hg
              clear hown hg oA rA hrow har y0 y9
              refine hK.out _ _ trivial (fun hHeld => ?_)
              clear hK K
              try simp only [Act.put, List.getElem_toArray, List.getElem_cons_succ, List.getElem_cons_zero, List.setIfInBounds_toArray, List.set_cons_zero, List.set_cons_succ]
              refine wpAnyH_take (i := 9) (oi := _) (v := ?_) rfl (by kernel_rfl) (by kernel_rfl) (by kernel_rfl) (fun _ _ _ h => h) (Or.inl ⟨by rfl, ?_⟩) hHeld ?_
              rotate_left
              · (intro w' hSw; (try dsimp only at hSw); go_simp <;> with_reducible rfl)
              try simp only [Act.put, List.getElem_toArray, List.getElem_cons_succ, List.getElem_cons_zero, List.setIfInBounds_toArray, List.set_cons_zero, List.set_cons_succ]
              refine wpAnyH_ready (rs := [10]) (by kernel_rfl) (by simp) (AllReadyH.cons (o := _) rfl (fun K hK => ?_) AllReadyH.nil)
              try simp only [Act.put, List.getElem_toArray, List.getElem_cons_succ, List.getElem_cons_zero, List.setIfInBounds_toArray, List.set_cons_zero, List.set_cons_succ]
              go_simp
              refine hK.out _ _ trivial (fun hHeld => ?_)
              clear hK K
              try simp only [Act.put, List.getElem_toArray, List.getElem_cons_succ, List.getElem_cons_zero, List.setIfInBounds_toArray, List.set_cons_zero, List.set_cons_succ]
              refine wpAnyH_done (by kernel_rfl) ?_ _
              obtain ⟨W9, hW9⟩ : ∃ W9, W8.setCell ⟨w.heap.size + 1 + 1, 0, none⟩ (.slice A9 (rs.length + 1) c9) = W9 := ⟨_, rfl⟩
              rw [hW9] at F ⊢
              clear hW9 k1 kf S hHeld
              have S := F
              clear F
              obtain ⟨rs9, hrs9⟩ : ∃ x, rs ++ [⟨d6, d7, []⟩] = x := ⟨_, rfl⟩
              have hl9 : rs.length + 1 = rs9.length := by rw [← hrs9]; simp
              have hl31 : rs9.length ≤ 31 := by omega
              have HS9 : Hid (SmR rs9) := hrs9 ▸ HV.out.2.snoc (Nat.zero_le _)
              rw [hrs9] at S
              rw [hl9]
              clear hrs9 hl9
              obtain ⟨y0, -⟩ := id S.2.1.reads
              obtain ⟨z0, zff⟩ := id S.1.reads
              have zf0 := zff 0
              clear zff
              have hc9 := S.2.2.1.form
              obtain ⟨A', c', e', -, hc⟩ := hc9
              injection e' with e1 _ e3
              subst e1 e3
              obtain ⟨p0, -⟩ := (S.1.set0 (.slice A9 rs9.length c9)).reads
              have o9 := S.2.2.1.keptT (by decide) (by decide) (but_set W9 w.heap.size 0 (.slice A9 rs9.length c9)) (blk_type S.1)
              have R9 := S.2.2.2.2.1.far (g := w.heap.size) S.2.2.2.1 0 (.slice A9 rs9.length c9)
              have T9 := S.2.2.2.2.2.set_new (Nat.le_refl _) 0 (.slice A9 rs9.length c9)
              clear S
              go_wp2
              exact bodyPost_ret (v := .agg #[.slice A9 rs9.length c9]) (by simp [results, Tryd.results50, go_sem, p0]) rfl ⟨_, rs9, rfl, ⟨A9, c9, rs9, o9, hc, .inl ⟨rfl, rfl⟩⟩, hl31, HS9.out, R9.more (by omega), T9⟩
            · skip
              try simp only [Act.put, List.getElem_toArray, List.getElem_cons_succ, List.getElem_cons_zero, List.setIfInBounds_toArray, List.set_cons_zero, List.set_cons_succ]
              go_simp
              go_at_call 59
              refine (pick_any R _ 13 we S.2.2.2.2.1 (by omega) (by omega) (by omega)).mono ?_
              rintro e wf ⟨d7, rfl, d70, d71, Rf, Tf⟩
              replace S := S.pick Rf Tf
              clear Rf Tf y0
              obtain ⟨y0, -⟩ := id S.2.1.reads
              refine hK.out _ _ trivial (fun hHeld => ?_)
              clear hK K
              try simp only [Act.put, List.getElem_toArray, List.getElem_cons_succ, List.getElem_cons_zero, List.setIfInBounds_toArray, List.set_cons_zero, List.set_cons_succ]
              refine wpAnyH_take (i := 6) (oi := _) (v := ?_) rfl (by kernel_rfl) (by kernel_rfl) (by kernel_rfl) (fun _ _ _ h => h) (Or.inl ⟨by rfl, ?_⟩) hHeld ?_
              rotate_left
              · (intro w' hSw; (try dsimp only at hSw); go_simp <;> with_reducible rfl)
              try simp only [Act.put, List.getElem_toArray, List.getElem_cons_succ, List.getElem_cons_zero, List.setIfInBounds_toArray, List.set_cons_zero, List.set_cons_succ]
              obtain ⟨ys, hrow, har⟩ := id S.2.2.1
              have oA := World.ownsRow.alloc hrow (.cells #[.int .i64 d6, .int .i64 d7, .slice none 0 0] 33)
              have rA := row_threeR wf (.int .i64 d6) (.int .i64 d7) (.slice none 0 0) 33
              have y9 := hid (S.call ((Below.refl wf.heap.size wf).alloc (Nat.le_refl _) (.cells #[.int .i64 d6, .int .i64 d7, .slice none 0 0] 33))).2.1.reads.1
              refine wpAnyH_ready (rs := [1, 7]) (by kernel_rfl) (by simp) (AllReadyH.cons (o := _) rfl (fun K hK => ?_) (AllReadyH.cons (o := _) rfl (fun K hK => ?_) AllReadyH.nil))
              · skip
                try simp only [Act.put, List.getElem_toArray, List.getElem_cons_succ, List.getElem_cons_zero, List.setIfInBounds_toArray, List.set_cons_zero, List.set_cons_succ]
                go_simp
                refine hK.out _ _ trivial (fun hHeld => ?_)
                clear hK K
                try simp only [Act.put, List.getElem_toArray, List.getElem_cons_succ, List.getElem_cons_zero, List.setIfInBounds_toArray, List.set_cons_zero, List.set_cons_succ]
                refine wpAnyH_ready (rs := [7]) (by kernel_rfl) (by simp) (AllReadyH.cons (o := _) rfl (fun K hK => ?_) AllReadyH.nil)
                try simp only [Act.put, List.getElem_toArray, List.getElem_cons_succ, List.getElem_cons_zero, List.setIfInBounds_toArray, List.set_cons_zero, List.set_cons_succ]
                go_simp
                refine hK.out _ _ trivial (fun hHeld => ?_)
                clear hK K
                try simp only [Act.put, List.getElem_toArray, List.getElem_cons_succ, List.getElem_cons_zero, List.setIfInBounds_toArray, List.set_cons_zero, List.set_cons_succ]
                clear y0
                have y0 := y9.out
                refine wpAnyH_ready (rs := [8]) (by kernel_rfl) (by simp) (AllReadyH.cons (o := _) rfl (fun K hK => ?_) AllReadyH.nil)
                try simp only [Act.put, List.getElem_toArray, List.getElem_cons_succ, List.getElem_cons_zero, List.setIfInBounds_toArray, List.set_cons_zero, List.set_cons_succ]
                rw [if_pos (by rfl)]
                refine op_append_row1 _ (by rfl) _ _ 23 (by rfl) w.heap.size 33 i0 (.agg #[.int .i64 0, .int .i64 0, .slice none 0 0]) 3 40 Tryd.underlying23 hi hz0 hz1 hz2 rfl (by decide) (.slice A rs.length c) rs.length ys (by rfl) oA _ (some ⟨wf.heap.size, 0, none⟩) 1 1 [.int .i64 d6, .int .i64 d7, .slice none 0 0] (by rfl) rA rfl (rec_cells _ _ _ _ _) (by unfold maxLen; omega) (by omega) (by have := S.size; simp; omega) ?_
                intro v8 W8 hown hg
                obtain ⟨A9, c9, rfl, ⟨k1, kf⟩, F⟩ := S.app (r := ⟨d6, d7, []⟩) (A5 := none) (c5 := 0) har hrow (OwnUps.nil_none _ _) (Nat.le_refl _) hown hg
                clear hown hg oA rA hrow har y0 y9
                refine hK.out _ _ trivial (fun hHeld => ?_)
                clear hK K
                try simp only [Act.put, List.getElem_toArray, List.getElem_cons_succ, List.getElem_cons_zero, List.setIfInBounds_toArray, List.set_cons_zero, List.set_cons_succ]
                refine wpAnyH_take (i := 9) (oi := _) (v := ?_) rfl (by kernel_rfl) (by kernel_rfl) (by kernel_rfl) (fun _ _ _ h => h) (Or.inl ⟨by rfl, ?_⟩) hHeld ?_
                rotate_left
                · (intro w' hSw; (try dsimp only at hSw); go_simp <;> with_reducible rfl)
                try simp only [Act.put, List.getElem_toArray, List.getElem_cons_succ, List.getElem_cons_zero, List.setIfInBounds_toArray, List.set_cons_zero, List.set_cons_succ]
                refine wpAnyH_ready (rs := [10]) (by kernel_rfl) (by simp) (AllReadyH.cons (o := _) rfl (fun K hK => ?_) AllReadyH.nil)
                try simp only [Act.put, List.getElem_toArray, List.getElem_cons_succ, List.getElem_cons_zero, List.setIfInBounds_toArray, List.set_cons_zero, List.set_cons_succ]
                go_simp
                refine hK.out _ _ trivial (fun hHeld => ?_)
                clear hK K
                try simp only [Act.put, List.getElem_toArray, List.getElem_cons_succ, List.getElem_cons_zero, List.setIfInBounds_toArray, List.set_cons_zero, List.set_cons_succ]
                refine wpAnyH_done (by kernel_rfl) ?_ _
                obtain ⟨W9, hW9⟩ : ∃ W9, W8.setCell ⟨w.heap.size + 1 + 1, 0, none⟩ (.slice A9 (rs.length + 1) c9) = W9 := ⟨_, rfl⟩
                rw [hW9] at F ⊢
                clear hW9 k1 kf S hHeld
                have S := F
                clear F
                obtain ⟨rs9, hrs9⟩ : ∃ x, rs ++ [⟨d6, d7, []⟩] = x := ⟨_, rfl⟩
                have hl9 : rs.length + 1 = rs9.length := by rw [← hrs9]; simp
                have hl31 : rs9.length ≤ 31 := by omega
                have HS9 : Hid (SmR rs9) := hrs9 ▸ HV.out.2.snoc (Nat.zero_le _)
                rw [hrs9] at S
                rw [hl9]
                clear hrs9 hl9
                obtain ⟨y0, -⟩ := id S.2.1.reads
                obtain ⟨z0, zff⟩ := id S.1.reads
                have zf0 := zff 0
                clear zff
                have hc9 := S.2.2.1.form
                obtain ⟨A', c', e', -, hc⟩ := hc9
                injection e' with e1 _ e3
                subst e1 e3
                obtain ⟨p0, -⟩ := (S.1.set0 (.slice A9 rs9.length c9)).reads
                have o9 := S.2.2.1.keptT (by decide) (by decide) (but_set W9 w.heap.size 0 (.slice A9 rs9.length c9)) (blk_type S.1)
                have R9 := S.2.2.2.2.1.far (g := w.heap.size) S.2.2.2.1 0 (.slice A9 rs9.length c9)
                have T9 := S.2.2.2.2.2.set_new (Nat.le_refl _) 0 (.slice A9 rs9.length c9)
                clear S
                go_wp2
                exact bodyPost_ret (v := .agg #[.slice A9 rs9.length c9]) (by simp [results, Tryd.results50, go_sem, p0]) rfl ⟨_, rs9, rfl, ⟨A9, c9, rs9, o9, hc, .inl ⟨rfl, rfl⟩⟩, hl31, HS9.out, R9.more (by omega), T9⟩
              · skip
                try simp only [Act.put, List.getElem_toArray, List.getElem_cons_succ, List.getElem_cons_zero, List.setIfInBounds_toArray, List.set_cons_zero, List.set_cons_succ]
                go_simp
                refine hK.out _ _ trivial (fun hHeld => ?_)
                clear hK K
                try simp only [Act.put, List.getElem_toArray, List.getElem_cons_succ, List.getElem_cons_zero, List.setIfInBounds_toArray, List.set_cons_zero, List.set_cons_succ]
                clear y0
                have y0 := y9.out
                refine wpAnyH_ready (rs := [1]) (by kernel_rfl) (by simp) (AllReadyH.cons (o := _) rfl (fun K hK => ?_) AllReadyH.nil)
                try simp only [Act.put, List.getElem_toArray, List.getElem_cons_succ, List.getElem_cons_zero, List.setIfInBounds_toArray, List.set_cons_zero, List.set_cons_succ]
                go_simp
                refine hK.out _ _ trivial (fun hHeld => ?_)
                clear hK K
                try simp only [Act.put, List.getElem_toArray, List.getElem_cons_succ, List.getElem_cons_zero, List.setIfInBounds_toArray, List.set_cons_zero, List.set_cons_succ]
                refine wpAnyH_ready (rs := [8]) (by kernel_rfl) (by simp) (AllReadyH.cons (o := _) rfl (fun K hK => ?_) AllReadyH.nil)
                try simp only [Act.put, List.getElem_toArray, List.getElem_cons_succ, List.getElem_cons_zero, List.setIfInBounds_toArray, List.set_cons_zero, List.set_cons_succ]
                rw [if_pos (by rfl)]
                refine op_append_row1 _ (by rfl) _ _ 23 (by rfl) w.heap.size 33 i0 (.agg #[.int .i64 0, .int .i64 0, .slice none 0 0]) 3 40 Tryd.underlying23 hi hz0 hz1 hz2 rfl (by decide) (.slice A rs.length c) rs.length ys (by rfl) oA _ (some ⟨wf.heap.size, 0, none⟩) 1 1 [.int .i64 d6, .int .i64 d7, .slice none 0 0] (by rfl) rA rfl (rec_cells _ _ _ _ _) (by unfold maxLen; omega) (by omega) (by have := S.size; simp; omega) ?_
                intro v8 W8 hown hg
                obtain ⟨A9, c9, rfl, ⟨k1, kf⟩, F⟩ := S.app (r := ⟨d6, d7, []⟩) (A5 := none) (c5 := 0) har hrow (OwnUps.nil_none _ _) (Nat.le_refl _) hown hg
                clear hown hg oA rA hrow har y0 y9
                refine hK.out _ _ trivial (fun hHeld => ?_)
                clear hK K
                try simp only [Act.put, List.getElem_toArray, List.getElem_cons_succ, List.getElem_cons_zero, List.setIfInBounds_toArray, List.set_cons_zero, List.set_cons_succ]
                refine wpAnyH_take (i := 9) (oi := _) (v := ?_) rfl (by kernel_rfl) (by kernel_rfl) (by kernel_rfl) (fun _ _ _ h => h) (Or.inl ⟨by rfl, ?_⟩) hHeld ?_
                rotate_left
                · (intro w' hSw; (try dsimp only at hSw); go_simp <;> with_reducible rfl)
                try simp only [Act.put, List.getElem_toArray, List.getElem_cons_succ, List.getElem_cons_zero, List.setIfInBounds_toArray, List.set_cons_zero, List.set_cons_succ]
                refine wpAnyH_ready (rs := [10]) (by kernel_rfl) (by simp) (AllReadyH.cons (o := _) rfl (fun K hK => ?_) AllReadyH.nil)
                try simp only [Act.put, List.getElem_toArray, List.getElem_cons_succ, List.getElem_cons_zero, List.setIfInBounds_toArray, List.set_cons_zero, List.set_cons_succ]
                go_simp
                refine hK.out _ _ trivial (fun hHeld => ?_)
                clear hK K
                try simp only [Act.put, List.getElem_toArray, List.getElem_cons_succ, List.getElem_cons_zero, List.setIfInBounds_toArray, List.set_cons_zero, List.set_cons_succ]
                refine wpAnyH_done (by kernel_rfl) ?_ _
                obtain ⟨W9, hW9⟩ : ∃ W9, W8.setCell ⟨w.heap.size + 1 + 1, 0, none⟩ (.slice A9 (rs.length + 1) c9) = W9 := ⟨_, rfl⟩
                rw [hW9] at F ⊢
                clear hW9 k1 kf S hHeld
                have S := F
                clear F
                obtain ⟨rs9, hrs9⟩ : ∃ x, rs ++ [⟨d6, d7, []⟩] = x := ⟨_, rfl⟩
                have hl9 : rs.length + 1 = rs9.length := by rw [← hrs9]; simp
                have hl31 : rs9.length ≤ 31 := by omega
                have HS9 : Hid (SmR rs9) := hrs9 ▸ HV.out.2.snoc (Nat.zero_le _)
                rw [hrs9] at S
                rw [hl9]
                clear hrs9 hl9
                obtain ⟨y0, -⟩ := id S.2.1.reads
                obtain ⟨z0, zff⟩ := id S.1.reads
                have zf0 := zff 0
                clear zff
                have hc9 := S.2.2.1.form
                obtain ⟨A', c', e', -, hc⟩ := hc9
                injection e' with e1 _ e3
                subst e1 e3
                obtain ⟨p0, -⟩ := (S.1.set0 (.slice A9 rs9.length c9)).reads
                have o9 := S.2.2.1.keptT (by decide) (by decide) (but_set W9 w.heap.size 0 (.slice A9 rs9.length c9)) (blk_type S.1)
                have R9 := S.2.2.2.2.1.far (g := w.heap.size) S.2.2.2.1 0 (.slice A9 rs9.length c9)
                have T9 := S.2.2.2.2.2.set_new (Nat.le_refl _) 0 (.slice A9 rs9.length c9)
                clear S
                go_wp2
                exact bodyPost_ret (v := .agg #[.slice A9 rs9.length c9]) (by simp [results, Tryd.results50, go_sem, p0]) rfl ⟨_, rs9, rfl, ⟨A9, c9, rs9, o9, hc, .inl ⟨rfl, rfl⟩⟩, hl31, HS9.out, R9.more (by omega), T9⟩
        · by_cases h0 : 0 < rs.length
          · have q1 : (0 : Int) < (rs.length : Int) := by omega
            obtain ⟨A', c', e', hr4, hc⟩ := S.2.2.1.form
            injection e' with e1 _ e3
            subst e1 e3
            obtain ⟨ad, rfl⟩ : ∃ ad, A = some ad := by
              rcases hr4 with h | ⟨ad, e, _⟩
              · subst h; simp at h0
              · exact ⟨ad, e⟩
            have yf0 := yf 0
            clear yf hr4
            have q2 : (1 : Int) ≤ (rs.length : Int) := by omega
            have q3 : (rs.length : Int) ≤ (c : Int) := by omega
            by_cases hc1 : c = 1
            · subst hc1
              go_upto_region 24 with fail
              have hdl : (rs.drop 1).length = 0 := by rw [List.length_drop]; omega
              have hdd : rs.drop 1 = [] ∨ ad = ad.add 3 := .inl (List.eq_nil_of_length_eq_zero hdl)
              have x8 := S.2.1.set0 (.slice (some ad) 0 0)
              have x7 := S.1.far (p := ⟨w.heap.size + 1 + 1, 0, none⟩) (by show w.heap.size ≠ w.heap.size + 1 + 1; omega) (.slice (some ad) 0 0)
              have o8 := S.2.2.1.keptT (by decide) (by decide) (but_set w4 (w.heap.size + 1 + 1) 0 (.slice (some ad) 0 0)) (blk_type S.2.1)
              have R8 := S.2.2.2.2.1.far (g := w.heap.size + 1 + 1) (by omega) 0 (.slice (some ad) 0 0)
              have T8 := S.2.2.2.2.2.set_new (g := w.heap.size + 1 + 1) (by omega) 0 (.slice (some ad) 0 0)
              obtain ⟨W8, hW8⟩ : ∃ W8, w4.setCell ⟨w.heap.size + 1 + 1, 0, none⟩ (.slice (some ad) 0 0) = W8 := ⟨_, rfl⟩
              rw [hW8] at x8 x7 o8 R8 T8 ⊢
              clear hW8 y0 yf0 z0 zf0 S
              obtain ⟨y0, -⟩ := id x8.reads
              obtain ⟨z0, zff⟩ := id x7.reads
              have zf0 := zff 0
              obtain ⟨p0, -⟩ := (x7.set0 (.slice (some ad) 0 0)).reads
              have o9 := o8.keptT (by decide) (by decide) (but_set W8 w.heap.size 0 (.slice (some ad) 0 0)) (blk_type x7)
              have R9 := R8.far (g := w.heap.size) hRl 0 (.slice (some ad) 0 0)
              have T9 := T8.set_new (Nat.le_refl _) 0 (.slice (some ad) 0 0)
              clear zff x8 x7 o8 R8 T8
              go_wp2
              exact bodyPost_ret (v := .agg #[.slice (some ad) 0 0]) (by simp [results, Tryd.results50, go_sem, p0]) rfl ⟨_, rs.drop 1, rfl, ⟨some ad, _, rs, o9, hc, .inr ⟨ad, ad, 0, rfl, by rw [hdl]; rfl, rfl, hdd, by rw [hdl]; omega⟩⟩, by rw [List.length_drop]; omega, HV.out.2.drop1, R9.more (by omega), T9⟩
            · go_upto_region 24 with fail
              have hdl : (rs.drop 1).length = rs.length - 1 := by rw [List.length_drop]
              have hdd : rs.drop 1 = [] ∨ (⟨ad.block, ad.off + 3, none⟩ : Addr) = ad.add 3 := .inr rfl
              have x8 := S.2.1.set0 (.slice (some (⟨ad.block, ad.off + 3, none⟩ : Addr)) (rs.length - 1) (c - 1))
              have x7 := S.1.far (p := ⟨w.heap.size + 1 + 1, 0, none⟩) (by show w.heap.size ≠ w.heap.size + 1 + 1; omega) (.slice (some (⟨ad.block, ad.off + 3, none⟩ : Addr)) (rs.length - 1) (c - 1))
              have o8 := S.2.2.1.keptT (by decide) (by decide) (but_set w4 (w.heap.size + 1 + 1) 0 (.slice (some (⟨ad.block, ad.off + 3, none⟩ : Addr)) (rs.length - 1) (c - 1))) (blk_type S.2.1)
              have R8 := S.2.2.2.2.1.far (g := w.heap.size + 1 + 1) (by omega) 0 (.slice (some (⟨ad.block, ad.off + 3, none⟩ : Addr)) (rs.length - 1) (c - 1))
              have T8 := S.2.2.2.2.2.set_new (g := w.heap.size + 1 + 1) (by omega) 0 (.slice (some (⟨ad.block, ad.off + 3, none⟩ : Addr)) (rs.length - 1) (c - 1))
              obtain ⟨W8, hW8⟩ : ∃ W8, w4.setCell ⟨w.heap.size + 1 + 1, 0, none⟩ (.slice (some (⟨ad.block, ad.off + 3, none⟩ : Addr)) (rs.length - 1) (c - 1)) = W8 := ⟨_, rfl⟩
              rw [hW8] at x8 x7 o8 R8 T8 ⊢
              clear hW8 y0 yf0 z0 zf0 S
              obtain ⟨y0, -⟩ := id x8.reads
              obtain ⟨z0, zff⟩ := id x7.reads
              have zf0 := zff 0
              obtain ⟨p0, -⟩ := (x7.set0 (.slice (some (⟨ad.block, ad.off + 3, none⟩ : Addr)) (rs.length - 1) (c - 1))).reads
              have o9 := o8.keptT (by decide) (by decide) (but_set W8 w.heap.size 0 (.slice (some (⟨ad.block, ad.off + 3, none⟩ : Addr)) (rs.length - 1) (c - 1))) (blk_type x7)
              have R9 := R8.far (g := w.heap.size) hRl 0 (.slice (some (⟨ad.block, ad.off + 3, none⟩ : Addr)) (rs.length - 1) (c - 1))
              have T9 := T8.set_new (Nat.le_refl _) 0 (.slice (some (⟨ad.block, ad.off + 3, none⟩ : Addr)) (rs.length - 1) (c - 1))
              clear zff x8 x7 o8 R8 T8
              go_wp2
              exact bodyPost_ret (v := .agg #[.slice (some (⟨ad.block, ad.off + 3, none⟩ : Addr)) (rs.length - 1) (c - 1)]) (by simp [results, Tryd.results50, go_sem, p0]) rfl ⟨_, rs.drop 1, rfl, ⟨some ad, _, rs, o9, hc, .inr ⟨ad, (⟨ad.block, ad.off + 3, none⟩ : Addr), (c - 1), rfl, by rw [hdl]; rfl, rfl, hdd, by rw [hdl]; omega⟩⟩, by rw [List.length_drop]; omega, HV.out.2.drop1, R9.more (by omega), T9⟩
          · have q1 : ¬ (0 : Int) < (rs.length : Int) := by omega
            clear yf
            have hc9 := S.2.2.1.form
            obtain ⟨A', c', e', -, hc⟩ := hc9
            injection e' with e1 _ e3
            subst e1 e3
            obtain ⟨p0, -⟩ := (S.1.set0 (.slice A rs.length c)).reads
            have o9 := S.2.2.1.keptT (by decide) (by decide) (but_set w4 w.heap.size 0 (.slice A rs.length c)) (blk_type S.1)
            have R9 := S.2.2.2.2.1.far (g := w.heap.size) S.2.2.2.1 0 (.slice A rs.length c)
            have T9 := S.2.2.2.2.2.set_new (Nat.le_refl _) 0 (.slice A rs.length c)
            clear S
            go_wp2
            exact bodyPost_ret (v := .agg #[.slice A rs.length c]) (by simp [results, Tryd.results50, go_sem, p0]) rfl ⟨_, rs, rfl, ⟨A, c, rs, o9, hc, .inl ⟨rfl, rfl⟩⟩, hl31, HV.out.2, R9.more (by omega), T9⟩
        · have e5 : (d5 == 0) = false := by rw [beq_eq_false_iff_ne]; exact h50
          have e6 : (d5 == 1) = false := by rw [beq_eq_false_iff_ne]; exact h51
          clear h50 h51 yf
          have hc9 := S.2.2.1.form
          obtain ⟨A', c', e', -, hc⟩ := hc9
          injection e' with e1 _ e3
          subst e1 e3
          obtain ⟨p0, -⟩ := (S.1.set0 (.slice A rs.length c)).reads
          have o9 := S.2.2.1.keptT (by decide) (by decide) (but_set w4 w.heap.size 0 (.slice A rs.length c)) (blk_type S.1)
          have R9 := S.2.2.2.2.1.far (g := w.heap.size) S.2.2.2.1 0 (.slice A rs.length c)
          have T9 := S.2.2.2.2.2.set_new (Nat.le_refl _) 0 (.slice A rs.length c)
          clear S
          go_wp2
          exact bodyPost_ret (v := .agg #[.slice A rs.length c]) (by simp [results, Tryd.results50, go_sem, p0]) rfl ⟨_, rs, rfl, ⟨A, c, rs, o9, hc, .inl ⟨rfl, rfl⟩⟩, hl31, HV.out.2, R9.more (by omega), T9⟩
  · have e0 : (d == 0) = false := by rw [beq_eq_false_iff_ne]; exact hd
    go_upto_region 5 with fail
    clear e0 hd
    go_wp2_with fail
    go_loopw [5] (fun i wr => ∃ (k : Nat) (rs : List Rec) (A : Option Addr) (c : Nat), k ≤ 40 ∧ i = .int .i64 k ∧ Hid (Vld rs ∧ SmR rs) ∧ DrE w R (q + 10 + 60 * k) A c rs wr) (fun i _ => 40 - (intOf i).toNat)
    case atStart => exact ⟨0, [], _, _, Nat.zero_le _, rfl, ⟨⟨⟨_, .nil⟩, Nat.zero_le _⟩, .nil⟩, S3.more (by omega)⟩
    case round =>
      clear S3
      obtain ⟨k, rs, A, c, hk, rfl, HV, S⟩ := hrel
      obtain ⟨y0, -⟩ := id S.2.1.reads
      by_cases hlt : (k : Int) < n
      · obtain ⟨A', c', e', hr4, hc⟩ := S.2.2.1.form
        injection e' with e1 _ e3
        subst e1 e3
        have CR := hid (l21Recover_any A c rs wr hr4 hc (HV.out.2.fit (by have := HV.out.1.2; omega)))
        clear hr4
        go_wp2_with fail
        refine CR.out.mono ?_
        rintro e w4 ⟨st, b1, HR, v4, rfl, s4, d4⟩
        replace S := S.call d4
        obtain ⟨A6, c6, A7, c7, rfl, r6, -⟩ := s4
        unfold stV
        have ne6 := row4_ne r6 HR.1.len.1 S.2.2.2.2.1
        have al := (Below.refl w4.heap.size w4).alloc (Nat.le_refl _) (.cells #[.slice A6 st.refs.length c6, .slice A7 st.locks.length c7] 37)
        have xb := Blk2s.new_ w4 37 (.slice A6 st.refs.length c6) (.slice A7 st.locks.length c7)
        have hg4 := S.size
        have hRl4 := S.2.2.2.1
        replace S := S.call al
        replace r6 := r6.below al (Nat.le_refl _)
        clear CR HR d4 y0
        go_upto_region 9 with fail
        obtain ⟨w5, hw5⟩ : ∃ w5, w4.alloc (.cells #[.slice A6 st.refs.length c6, .slice A7 st.locks.length c7] 37) = w5 := ⟨_, rfl⟩
        rw [hw5] at al xb S r6 ⊢
        clear hw5 al
        have zx := xb.lt
        obtain ⟨y0, -⟩ := id S.2.1.reads
        go_wp2_with fail
        refine (pick_any R _ 12 w5 S.2.2.2.2.1 (by omega) (by omega) (by omega)).mono ?_
        rintro e w6 ⟨t, rfl, t0, t1, R6, T6⟩
        replace xb := xb.but T6 (by omega)
        replace r6 := row_but4 r6 T6 (Nat.le_of_lt zx) ne6
        replace S := S.pick R6 T6
        replace zx := xb.lt
        clear y0 R6 T6
        obtain ⟨y0, -⟩ := id S.2.1.reads
        go_wp2_with fail
        refine (pick_any R _ 2 w6 S.2.2.2.2.1 (by omega) (by omega) (by omega)).mono ?_
        rintro e w7 ⟨d2, rfl, d20, d21, R7, T7⟩
        replace xb := xb.but T7 (by omega)
        replace r6 := row_but4 r6 T7 (Nat.le_of_lt zx) ne6
        replace S := S.pick R7 T7
        replace zx := xb.lt
        clear y0 R7 T7
        obtain ⟨y0, -⟩ := id S.2.1.reads
        by_cases h2 : d2 = 0
        · have e2 : (d2 == 0) = true := by rw [h2]; rfl
          clear h2
          go_wp2_with fail
          refine (pick_any R _ 4 w7 S.2.2.2.2.1 (by omega) (by omega) (by omega)).mono ?_
          rintro e w8 ⟨t', rfl, t0', t1', R8, T8⟩
          replace xb := xb.but T8 (by omega)
          replace r6 := row_but4 r6 T8 (Nat.le_of_lt zx) ne6
          replace S := S.pick R8 T8
          replace zx := xb.lt
          clear y0 R8 T8
          obtain ⟨y0, -⟩ := id S.2.1.reads
          have al := (Below.refl (w8).heap.size w8).alloc (Nat.le_refl _) (.cells #[.slice A rs.length c] 25)
          have xn := Blk1.new_ w8 25 (.slice A rs.length c)
          have hgn := S.size
          have zw := zx
          replace S := S.call al
          replace xb := xb.alloc (.cells #[.slice A rs.length c] 25)
          replace r6 := r6.below al (Nat.le_of_lt zx)
          go_upto_region 13 with fail
          obtain ⟨wn, hwn⟩ : ∃ wn, (w8).alloc (.cells #[.slice A rs.length c] 25) = wn := ⟨_, rfl⟩
          rw [hwn] at al xb xn S r6 ⊢
          clear hwn al y0
          replace zx := xb.lt
          obtain ⟨y0, -⟩ := id S.2.1.reads
          go_wp2_with fail
          refine (pick_any R _ 2 wn S.2.2.2.2.1 (by omega) (by omega) (by omega)).mono ?_
          rintro e wp ⟨d3, rfl, d30, d31, Rp, Tp⟩
          replace xn := xn.but Tp (by omega)
          replace xb := xb.but Tp (by omega)
          replace r6 := row_but4 r6 Tp (Nat.le_of_lt zx) ne6
          replace S := S.pick Rp Tp
          replace zx := xb.lt
          clear y0 Rp Tp
          obtain ⟨y0, -⟩ := id S.2.1.reads
          by_cases h3 : d3 = 0
          · have e3 : (d3 == 0) = true := by rw [h3]; rfl
            clear h3
            go_wp2_with fail
            have HKP : Hid (∀ x, But R wp x → x.cell? ⟨w.heap.size + 1 + 1, 0, none⟩ = some (.slice A rs.length c) ∧ x.cell? ⟨w4.heap.size, 0, none⟩ = some (.slice A6 st.refs.length c6)) := fun x hx => ⟨(S.2.1.but hx (by omega)).reads.1, (xb.but hx (by omega)).reads.1⟩
            have Bd := (Below.refl wp.heap.size wp).drew
            have Dwd : But R wp wp.drew := .of_below Bd
            refine wp_region_held_drew (S := fun x => x.cell? ⟨w.heap.size + 1 + 1, 0, none⟩ = some (.slice A rs.length c) ∧ x.cell? ⟨w4.heap.size, 0, none⟩ = some (.slice A6 st.refs.length c6)) (by kernel_rfl) (HKP.out _ Dwd) (fun hHeld => ?_)
            replace S := S.call Bd
            replace xn := xn.later Bd
            replace r6 := r6.below Bd (Nat.le_of_lt zx)
            have zd : w4.heap.size < wp.drew.heap.size := zx
            obtain ⟨wd, hwd⟩ : ∃ wd, wp.drew = wd := ⟨_, rfl⟩
            rw [hwd] at hHeld Dwd Bd S xn r6 zd ⊢
            clear hwd y0
            refine wpAnyH_take (i := 0) (oi := _) (v := ?_) rfl (by kernel_rfl) (by kernel_rfl) (by kernel_rfl) (fun _ _ _ h => h) (Or.inl ⟨by rfl, ?_⟩) hHeld ?_
            rotate_left
            · (intro w' hSw; (try dsimp only at hSw); go_simp <;> with_reducible rfl)
            try simp only [Act.put, List.getElem_toArray, List.getElem_cons_succ, List.getElem_cons_zero, List.setIfInBounds_toArray, List.set_cons_zero, List.set_cons_succ]
            refine wpAnyH_take (i := 1) (oi := _) (v := ?_) rfl (by kernel_rfl) (by kernel_rfl) (by kernel_rfl) (fun _ _ _ h => h) (Or.inl ⟨by rfl, ?_⟩) hHeld ?_
            rotate_left
            · (intro w' hSw; (try dsimp only at hSw); go_simp <;> with_reducible rfl)
            try simp only [Act.put, List.getElem_toArray, List.getElem_cons_succ, List.getElem_cons_zero, List.setIfInBounds_toArray, List.set_cons_zero, List.set_cons_succ]
            refine wpAnyH_take (i := 2) (oi := _) (v := ?_) rfl (by kernel_rfl) (by kernel_rfl) (by kernel_rfl) (fun _ _ _ h => h) (Or.inl ⟨by rfl, ?_⟩) hHeld ?_
            rotate_left
            · (intro w' hSw; (try dsimp only at hSw); go_simp <;> with_reducible rfl)
            try simp only [Act.put, List.getElem_toArray, List.getElem_cons_succ, List.getElem_cons_zero, List.setIfInBounds_toArray, List.set_cons_zero, List.set_cons_succ]
            refine wpAnyH_take (i := 3) (oi := _) (v := ?_) rfl (by kernel_rfl) (by kernel_rfl) (by kernel_rfl) (fun _ _ _ h => h) (Or.inl ⟨by rfl, ?_⟩) hHeld ?_
            rotate_left
            · (intro w' hSw; (try dsimp only at hSw); go_simp <;> with_reducible rfl)
            try simp only [Act.put, List.getElem_toArray, List.getElem_cons_succ, List.getElem_cons_zero, List.setIfInBounds_toArray, List.set_cons_zero, List.set_cons_succ]
            refine wpAnyH_take (i := 4) (oi := _) (v := ?_) rfl (by kernel_rfl) (by kernel_rfl) (by kernel_rfl) (fun _ _ _ h => h) (Or.inl ⟨by rfl, ?_⟩) hHeld ?_
            rotate_left
            · (intro w' hSw; (try dsimp only at hSw); go_simp <;> with_reducible rfl)
            try simp only [Act.put, List.getElem_toArray, List.getElem_cons_succ, List.getElem_cons_zero, List.setIfInBounds_toArray, List.set_cons_zero, List.set_cons_succ]
            refine wpAnyH_ready (rs := [5]) (by kernel_rfl) (by simp) (AllReadyH.cons (o := _) rfl (fun K hK => ?_) AllReadyH.nil)
            try simp only [Act.put, List.getElem_toArray, List.getElem_cons_succ, List.getElem_cons_zero, List.setIfInBounds_toArray, List.set_cons_zero, List.set_cons_succ]
            go_simp
            go_at_call 60
            refine (l92Updates_any R _ A6 c6 st.refs wd S.2.2.2.2.1 (by omega) (r6.more (Nat.le_of_lt zd)) ne6).mono ?_
            rintro e we ⟨vu, us, rfl, ou, hu4, Re, Te⟩
            replace S := S.pick Re Te
            replace xn := xn.but Te (by omega)
            have De := Dwd.trans Te
            obtain ⟨Au, cu, rfl, ru, hcu⟩ := ou.form
            obtain ⟨A', c', e', hr5, hc5⟩ := S.2.2.1.form
            injection e' with e1 _ e3
            subst e1 e3
            obtain ⟨xs, b2, hv⟩ := voted_ex rs t' us
            have CP := hid (specShardPrepare_is xs b2 _ rs t' Au cu us we ⟨A, c, rfl, hr5, hc5⟩ (HV.out.2.fit (by have := HV.out.1.2; omega)) ru (by omega) hv)
            have HX : Hid (Vld xs ∧ SmR xs) := ⟨voted_valid hv, voted_small hv HV.out.2 hu4⟩
            clear hv hr5 Te Re ou ru r6
            refine hK.out _ _ (HKP.out _ De) (fun hHeld => ?_)
            clear hK K
            try simp only [Act.put, List.getElem_toArray, List.getElem_cons_succ, List.getElem_cons_zero, List.setIfInBounds_toArray, List.set_cons_zero, List.set_cons_succ]
            refine wpAnyH_ready (rs := [6]) (by kernel_rfl) (by simp) (AllReadyH.cons (o := _) rfl (fun K hK => ?_) AllReadyH.nil)
            try simp only [Act.put, List.getElem_toArray, List.getElem_cons_succ, List.getElem_cons_zero, List.setIfInBounds_toArray, List.set_cons_zero, List.set_cons_succ]
            go_simp
            go_at_call 23
            refine CP.out.mono ?_
            rintro e wf ⟨vf, rfl, of, df⟩
            have zf := S.size
            replace S := S.call df
            replace xn := xn.later df
            obtain ⟨A9, c9, rfl, o9, hc9⟩ := of
            unfold shV
            replace o9 := o9.base (B' := w.heap.size) (by omega)
            have Df := De.trans (.of_below df)
            clear CP df De Dwd
            refine hK.out _ _ (HKP.out _ Df) (fun hHeld => ?_)
            clear hK K
            try simp only [Act.put, List.getElem_toArray, List.getElem_cons_succ, List.getElem_cons_zero, List.setIfInBounds_toArray, List.set_cons_zero, List.set_cons_succ]
            refine wpAnyH_take (i := 7) (oi := _) (v := ?_) rfl (by kernel_rfl) (by kernel_rfl) (by kernel_rfl) (fun _ _ _ h => h) (Or.inl ⟨by rfl, ?_⟩) hHeld ?_
            rotate_left
            · (intro w' hSw; (try dsimp only at hSw); go_simp <;> with_reducible rfl)
            try simp only [Act.put, List.getElem_toArray, List.getElem_cons_succ, List.getElem_cons_zero, List.setIfInBounds_toArray, List.set_cons_zero, List.set_cons_succ]
            refine wpAnyH_take (i := 8) (oi := _) (v := ?_) rfl (by kernel_rfl) (by kernel_rfl) (by kernel_rfl) (fun _ _ _ h => h) (Or.inl ⟨by rfl, ?_⟩) hHeld ?_
            rotate_left
            · (intro w' hSw; (try dsimp only at hSw); go_simp <;> with_reducible rfl)
            try simp only [Act.put, List.getElem_toArray, List.getElem_cons_succ, List.getElem_cons_zero, List.setIfInBounds_toArray, List.set_cons_zero, List.set_cons_succ]
            obtain ⟨z0, zff⟩ := id xn.reads
            have zf0 := zff 0
            have xbf := (xb.but Df (by omega)).far (p := ⟨(w8).heap.size, 0, none⟩) (by show w4.heap.size ≠ (w8).heap.size; omega) (.slice A9 xs.length c9)
            have S9 := S.stored xn hgn (.slice A9 xs.length c9)
            have o8 := o9.keptT (by decide) (by decide) (but_set wf (w8).heap.size 0 (.slice A9 xs.length c9)) (blk_type xn)
            have x8 := xn.set0 (.slice A9 xs.length c9)
            have HSn := hid (⟨S9.2.1.reads.1, xbf.reads.1⟩ : _ ∧ _)
            clear zff xbf
            refine wpAnyH_ready (rs := [9, 10]) (by kernel_rfl) (by simp) (AllReadyH.cons (o := _) rfl (fun K hK => ?_) (AllReadyH.cons (o := _) rfl (fun K hK => ?_) AllReadyH.nil))
            · skip
              try simp only [Act.put, List.getElem_toArray, List.getElem_cons_succ, List.getElem_cons_zero, List.setIfInBounds_toArray, List.set_cons_zero, List.set_cons_succ]
              go_simp
              refine hK.out _ _ (HKP.out _ Df) (fun hHeld => ?_)
              clear hK K
              try simp only [Act.put, List.getElem_toArray, List.getElem_cons_succ, List.getElem_cons_zero, List.setIfInBounds_toArray, List.set_cons_zero, List.set_cons_succ]
              refine wpAnyH_ready (rs := [10]) (by kernel_rfl) (by simp) (AllReadyH.cons (o := _) rfl (fun K hK => ?_) AllReadyH.nil)
              try simp only [Act.put, List.getElem_toArray, List.getElem_cons_succ, List.getElem_cons_zero, List.setIfInBounds_toArray, List.set_cons_zero, List.set_cons_succ]
              go_simp
              refine hK.out _ _ HSn.out (fun hHeld => ?_)
              clear hK K
              try simp only [Act.put, List.getElem_toArray, List.getElem_cons_succ, List.getElem_cons_zero, List.setIfInBounds_toArray, List.set_cons_zero, List.set_cons_succ]
              refine wpAnyH_done (by kernel_rfl) ?_ _
              clear S xn o9 z0 zf0 hHeld HSn HKP
              obtain ⟨wz, hwz⟩ : ∃ wz, (wf).setCell ⟨(w8).heap.size, 0, none⟩ (.slice A9 xs.length c9) = wz := ⟨_, rfl⟩
              rw [hwz] at S9 o8 x8 ⊢
              have S := S9
              have o9 := o8
              have xn := x8
              clear S9 o8 x8 hwz
              have sh9 := (OwnSh.mk_ o9).shd
              have CW := hid (specShardValid_is true _ xs wz sh9 (HX.out.2.fit (by have := HX.out.1.2; omega)) ⟨fun _ => HX.out.1, fun _ => rfl⟩)
              obtain ⟨u0, -⟩ := id xn.reads
              clear sh9
              go_wp2_with fail
              refine CW.out.mono ?_
              rintro e wg ⟨rfl, dg⟩
              replace S := S.call dg
              replace xn := xn.later dg
              replace o9 := o9.below dg
              clear CW dg u0
              obtain ⟨u0, -⟩ := id xn.reads
              obtain ⟨y0, yf⟩ := id S.2.1.reads
              have yf0 := yf 0
              have S9 := S.next o9
              have hk40 : k + 1 ≤ 40 := by omega
              clear yf xn o9 S
              go_wp2
              go_roundw
              case rel => exact ⟨k + 1, xs, A9, c9, hk40, by go_num, HX, S9.more (by push_cast; omega)⟩
              case measure => simp [intOf]; omega
            · skip
              try simp only [Act.put, List.getElem_toArray, List.getElem_cons_succ, List.getElem_cons_zero, List.setIfInBounds_toArray, List.set_cons_zero, List.set_cons_succ]
              go_simp
              refine hK.out _ _ HSn.out (fun hHeld => ?_)
              clear hK K
              try simp only [Act.put, List.getElem_toArray, List.getElem_cons_succ, List.getElem_cons_zero, List.setIfInBounds_toArray, List.set_cons_zero, List.set_cons_succ]
              refine wpAnyH_take (i := 9) (oi := _) (v := ?_) rfl (by kernel_rfl) (by kernel_rfl) (by kernel_rfl) (fun _ _ _ h => h) (Or.inl ⟨by rfl, ?_⟩) hHeld ?_
              rotate_left
              · (intro w' hSw; (try dsimp only at hSw); go_simp <;> with_reducible rfl)
              try simp only [Act.put, List.getElem_toArray, List.getElem_cons_succ, List.getElem_cons_zero, List.setIfInBounds_toArray, List.set_cons_zero, List.set_cons_succ]
              refine wpAnyH_done (by kernel_rfl) ?_ _
              clear S xn o9 z0 zf0 hHeld HSn HKP
              obtain ⟨wz, hwz⟩ : ∃ wz, (wf).setCell ⟨(w8).heap.size, 0, none⟩ (.slice A9 xs.length c9) = wz := ⟨_, rfl⟩
              rw [hwz] at S9 o8 x8 ⊢
              have S := S9
              have o9 := o8
              have xn := x8
              clear S9 o8 x8 hwz
              have sh9 := (OwnSh.mk_ o9).shd
              have CW := hid (specShardValid_is true _ xs wz sh9 (HX.out.2.fit (by have := HX.out.1.2; omega)) ⟨fun _ => HX.out.1, fun _ => rfl⟩)
              obtain ⟨u0, -⟩ := id xn.reads
              clear sh9
              go_wp2_with fail
              refine CW.out.mono ?_
              rintro e wg ⟨rfl, dg⟩
              replace S := S.call dg
              replace xn := xn.later dg
              replace o9 := o9.below dg
              clear CW dg u0
              obtain ⟨u0, -⟩ := id xn.reads
              obtain ⟨y0, yf⟩ := id S.2.1.reads
              have yf0 := yf 0
              have S9 := S.next o9
              have hk40 : k + 1 ≤ 40 := by omega
              clear yf xn o9 S
              go_wp2
              go_roundw
              case rel => exact ⟨k + 1, xs, A9, c9, hk40, by go_num, HX, S9.more (by push_cast; omega)⟩
              case measure => simp [intOf]; omega
          · have e3 : (d3 == 0) = false := by rw [beq_eq_false_iff_ne]; exact h3
            clear h3
            go_wp2_with fail
            have HKP : Hid (∀ x, But R wp x → x.cell? ⟨w.heap.size + 1 + 1, 0, none⟩ = some (.slice A rs.length c) ∧ x.cell? ⟨w4.heap.size, 0, none⟩ = some (.slice A6 st.refs.length c6)) := fun x hx => ⟨(S.2.1.but hx (by omega)).reads.1, (xb.but hx (by omega)).reads.1⟩
            have Bd := (Below.refl wp.heap.size wp).drew
            have Dwd : But R wp wp.drew := .of_below Bd
            refine wp_region_held_drew (S := fun x => x.cell? ⟨w.heap.size + 1 + 1, 0, none⟩ = some (.slice A rs.length c) ∧ x.cell? ⟨w4.heap.size, 0, none⟩ = some (.slice A6 st.refs.length c6)) (by kernel_rfl) (HKP.out _ Dwd) (fun hHeld => ?_)
            replace S := S.call Bd
            replace xn := xn.later Bd
            replace r6 := r6.below Bd (Nat.le_of_lt zx)
            obtain ⟨wd, hwd⟩ : ∃ wd, wp.drew = wd := ⟨_, rfl⟩
            rw [hwd] at hHeld Dwd Bd S xn r6 ⊢
            clear hwd y0 r6 ne6
            refine wpAnyH_take (i := 0) (oi := _) (v := ?_) rfl (by kernel_rfl) (by kernel_rfl) (by kernel_rfl) (fun _ _ _ h => h) (Or.inl ⟨by rfl, ?_⟩) hHeld ?_
            rotate_left
            · (intro w' hSw; (try dsimp only at hSw); go_simp <;> with_reducible rfl)
            try simp only [Act.put, List.getElem_toArray, List.getElem_cons_succ, List.getElem_cons_zero, List.setIfInBounds_toArray, List.set_cons_zero, List.set_cons_succ]
            refine wpAnyH_take (i := 1) (oi := _) (v := ?_) rfl (by kernel_rfl) (by kernel_rfl) (by kernel_rfl) (fun _ _ _ h => h) (Or.inl ⟨by rfl, ?_⟩) hHeld ?_
            rotate_left
            · (intro w' hSw; (try dsimp only at hSw); go_simp <;> with_reducible rfl)
            try simp only [Act.put, List.getElem_toArray, List.getElem_cons_succ, List.getElem_cons_zero, List.setIfInBounds_toArray, List.set_cons_zero, List.set_cons_succ]
            refine wpAnyH_take (i := 2) (oi := _) (v := ?_) rfl (by kernel_rfl) (by kernel_rfl) (by kernel_rfl) (fun _ _ _ h => h) (Or.inl ⟨by rfl, ?_⟩) hHeld ?_
            rotate_left
            · (intro w' hSw; (try dsimp only at hSw); go_simp <;> with_reducible rfl)
            try simp only [Act.put, List.getElem_toArray, List.getElem_cons_succ, List.getElem_cons_zero, List.setIfInBounds_toArray, List.set_cons_zero, List.set_cons_succ]
            refine wpAnyH_ready (rs := [3]) (by kernel_rfl) (by simp) (AllReadyH.cons (o := _) rfl (fun K hK => ?_) AllReadyH.nil)
            try simp only [Act.put, List.getElem_toArray, List.getElem_cons_succ, List.getElem_cons_zero, List.setIfInBounds_toArray, List.set_cons_zero, List.set_cons_succ]
            go_simp
            go_at_call 59
            refine (pick_any R _ 3 wd S.2.2.2.2.1 (by omega) (by omega) (by omega)).mono ?_
            rintro e we ⟨d4, rfl, d40, d41, Re, Te⟩
            replace S := S.pick Re Te
            replace xn := xn.but Te (by omega)
            have De := Dwd.trans Te
            obtain ⟨A', c', e', hr5, hc5⟩ := S.2.2.1.form
            injection e' with e1 _ e3
            subst e1 e3
            obtain ⟨cm, hcm⟩ : ∃ cm, decide (0 < d4) = cm := ⟨_, rfl⟩
            obtain ⟨kk, hkk⟩ : ∃ kk : Int, kk = if cm then 2 else 3 := ⟨_, rfl⟩
            obtain ⟨xs, b2, hv⟩ := decided_ex rs t' kk
            have CP := hid (specShardDecide_is xs b2 _ rs t' kk cm we ⟨A, c, rfl, hr5, hc5⟩ (HV.out.2.fit (by have := HV.out.1.2; omega)) hkk hv)
            have HX : Hid (Vld xs ∧ SmR xs) := ⟨decided_valid hv, decided_small hv HV.out.2⟩
            clear hv hr5 Te Re hkk
            refine hK.out _ _ (HKP.out _ De) (fun hHeld => ?_)
            clear hK K
            try simp only [Act.put, List.getElem_toArray, List.getElem_cons_succ, List.getElem_cons_zero, List.setIfInBounds_toArray, List.set_cons_zero, List.set_cons_succ]
            refine wpAnyH_take (i := 4) (oi := _) (v := ?_) rfl (by kernel_rfl) (by kernel_rfl) (by kernel_rfl) (fun _ _ _ h => h) (Or.inl ⟨by rfl, ?_⟩) hHeld ?_
            rotate_left
            · (intro w' hSw; (try dsimp only at hSw); go_simp <;> with_reducible rfl)
            try simp only [Act.put, List.getElem_toArray, List.getElem_cons_succ, List.getElem_cons_zero, List.setIfInBounds_toArray, List.set_cons_zero, List.set_cons_succ]
            refine wpAnyH_ready (rs := [5]) (by kernel_rfl) (by simp) (AllReadyH.cons (o := _) rfl (fun K hK => ?_) AllReadyH.nil)
            try simp only [Act.put, List.getElem_toArray, List.getElem_cons_succ, List.getElem_cons_zero, List.setIfInBounds_toArray, List.set_cons_zero, List.set_cons_succ]
            go_simp
            go_at_call 28
            refine CP.out.mono ?_
            rintro e wf ⟨vf, rfl, of, df⟩
            have zf := S.size
            replace S := S.call df
            replace xn := xn.later df
            obtain ⟨A9, c9, rfl, o9, hc9⟩ := of
            unfold shV
            replace o9 := o9.base (B' := w.heap.size) (by omega)
            have Df := De.trans (.of_below df)
            clear CP df De Dwd
            refine hK.out _ _ (HKP.out _ Df) (fun hHeld => ?_)
            clear hK K
            try simp only [Act.put, List.getElem_toArray, List.getElem_cons_succ, List.getElem_cons_zero, List.setIfInBounds_toArray, List.set_cons_zero, List.set_cons_succ]
            refine wpAnyH_take (i := 6) (oi := _) (v := ?_) rfl (by kernel_rfl) (by kernel_rfl) (by kernel_rfl) (fun _ _ _ h => h) (Or.inl ⟨by rfl, ?_⟩) hHeld ?_
            rotate_left
            · (intro w' hSw; (try dsimp only at hSw); go_simp <;> with_reducible rfl)
            try simp only [Act.put, List.getElem_toArray, List.getElem_cons_succ, List.getElem_cons_zero, List.setIfInBounds_toArray, List.set_cons_zero, List.set_cons_succ]
            refine wpAnyH_take (i := 7) (oi := _) (v := ?_) rfl (by kernel_rfl) (by kernel_rfl) (by kernel_rfl) (fun _ _ _ h => h) (Or.inl ⟨by rfl, ?_⟩) hHeld ?_
            rotate_left
            · (intro w' hSw; (try dsimp only at hSw); go_simp <;> with_reducible rfl)
            try simp only [Act.put, List.getElem_toArray, List.getElem_cons_succ, List.getElem_cons_zero, List.setIfInBounds_toArray, List.set_cons_zero, List.set_cons_succ]
            obtain ⟨z0, zff⟩ := id xn.reads
            have zf0 := zff 0
            have xbf := (xb.but Df (by omega)).far (p := ⟨(w8).heap.size, 0, none⟩) (by show w4.heap.size ≠ (w8).heap.size; omega) (.slice A9 xs.length c9)
            have S9 := S.stored xn hgn (.slice A9 xs.length c9)
            have o8 := o9.keptT (by decide) (by decide) (but_set wf (w8).heap.size 0 (.slice A9 xs.length c9)) (blk_type xn)
            have x8 := xn.set0 (.slice A9 xs.length c9)
            have HSn := hid (⟨S9.2.1.reads.1, xbf.reads.1⟩ : _ ∧ _)
            clear zff xbf
            refine wpAnyH_ready (rs := [8, 9]) (by kernel_rfl) (by simp) (AllReadyH.cons (o := _) rfl (fun K hK => ?_) (AllReadyH.cons (o := _) rfl (fun K hK => ?_) AllReadyH.nil))
            · skip
              try simp only [Act.put, List.getElem_toArray, List.getElem_cons_succ, List.getElem_cons_zero, List.setIfInBounds_toArray, List.set_cons_zero, List.set_cons_succ]
              go_simp
              refine hK.out _ _ (HKP.out _ Df) (fun hHeld => ?_)
              clear hK K
              try simp only [Act.put, List.getElem_toArray, List.getElem_cons_succ, List.getElem_cons_zero, List.setIfInBounds_toArray, List.set_cons_zero, List.set_cons_succ]
              refine wpAnyH_ready (rs := [9]) (by kernel_rfl) (by simp) (AllReadyH.cons (o := _) rfl (fun K hK => ?_) AllReadyH.nil)
              try simp only [Act.put, List.getElem_toArray, List.getElem_cons_succ, List.getElem_cons_zero, List.setIfInBounds_toArray, List.set_cons_zero, List.set_cons_succ]
              go_simp
              refine hK.out _ _ HSn.out (fun hHeld => ?_)
              clear hK K
              try simp only [Act.put, List.getElem_toArray, List.getElem_cons_succ, List.getElem_cons_zero, List.setIfInBounds_toArray, List.set_cons_zero, List.set_cons_succ]
              refine wpAnyH_done (by kernel_rfl) ?_ _
              clear S xn o9 z0 zf0 hHeld HSn HKP
              obtain ⟨wz, hwz⟩ : ∃ wz, (wf).setCell ⟨(w8).heap.size, 0, none⟩ (.slice A9 xs.length c9) = wz := ⟨_, rfl⟩
              rw [hwz] at S9 o8 x8 ⊢
              have S := S9
              have o9 := o8
              have xn := x8
              clear S9 o8 x8 hwz
              have sh9 := (OwnSh.mk_ o9).shd
              have CW := hid (specShardValid_is true _ xs wz sh9 (HX.out.2.fit (by have := HX.out.1.2; omega)) ⟨fun _ => HX.out.1, fun _ => rfl⟩)
              obtain ⟨u0, -⟩ := id xn.reads
              clear sh9
              go_wp2_with fail
              refine CW.out.mono ?_
              rintro e wg ⟨rfl, dg⟩
              replace S := S.call dg
              replace xn := xn.later dg
              replace o9 := o9.below dg
              clear CW dg u0
              obtain ⟨u0, -⟩ := id xn.reads
              obtain ⟨y0, yf⟩ := id S.2.1.reads
              have yf0 := yf 0
              have S9 := S.next o9
              have hk40 : k + 1 ≤ 40 := by omega
              clear yf xn o9 S
              go_wp2
              go_roundw
              case rel => exact ⟨k + 1, xs, A9, c9, hk40, by go_num, HX, S9.more (by push_cast; omega)⟩
              case measure => simp [intOf]; omega
            · skip
              try simp only [Act.put, List.getElem_toArray, List.getElem_cons_succ, List.getElem_cons_zero, List.setIfInBounds_toArray, List.set_cons_zero, List.set_cons_succ]
              go_simp
              refine hK.out _ _ HSn.out (fun hHeld => ?_)
              clear hK K
              try simp only [Act.put, List.getElem_toArray, List.getElem_cons_succ, List.getElem_cons_zero, List.setIfInBounds_toArray, List.set_cons_zero, List.set_cons_succ]
              refine wpAnyH_take (i := 8) (oi := _) (v := ?_) rfl (by kernel_rfl) (by kernel_rfl) (by kernel_rfl) (fun _ _ _ h => h) (Or.inl ⟨by rfl, ?_⟩) hHeld ?_
              rotate_left
              · (intro w' hSw; (try dsimp only at hSw); go_simp <;> with_reducible rfl)
              try simp only [Act.put, List.getElem_toArray, List.getElem_cons_succ, List.getElem_cons_zero, List.setIfInBounds_toArray, List.set_cons_zero, List.set_cons_succ]
              refine wpAnyH_done (by kernel_rfl) ?_ _
              clear S xn o9 z0 zf0 hHeld HSn HKP
              obtain ⟨wz, hwz⟩ : ∃ wz, (wf).setCell ⟨(w8).heap.size, 0, none⟩ (.slice A9 xs.length c9) = wz := ⟨_, rfl⟩
              rw [hwz] at S9 o8 x8 ⊢
              have S := S9
              have o9 := o8
              have xn := x8
              clear S9 o8 x8 hwz
              have sh9 := (OwnSh.mk_ o9).shd
              have CW := hid (specShardValid_is true _ xs wz sh9 (HX.out.2.fit (by have := HX.out.1.2; omega)) ⟨fun _ => HX.out.1, fun _ => rfl⟩)
              obtain ⟨u0, -⟩ := id xn.reads
              clear sh9
              go_wp2_with fail
              refine CW.out.mono ?_
              rintro e wg ⟨rfl, dg⟩
              replace S := S.call dg
              replace xn := xn.later dg
              replace o9 := o9.below dg
              clear CW dg u0
              obtain ⟨u0, -⟩ := id xn.reads
              obtain ⟨y0, yf⟩ := id S.2.1.reads
              have yf0 := yf 0
              have S9 := S.next o9
              have hk40 : k + 1 ≤ 40 := by omega
              clear yf xn o9 S
              go_wp2
              go_roundw
              case rel => exact ⟨k + 1, xs, A9, c9, hk40, by go_num, HX, S9.more (by push_cast; omega)⟩
              case measure => simp [intOf]; omega
        · have e2 : (d2 == 0) = false := by rw [beq_eq_false_iff_ne]; exact h2
          clear h2
          have al := (Below.refl (w7).heap.size w7).alloc (Nat.le_refl _) (.cells #[.slice A rs.length c] 25)
          have xn := Blk1.new_ w7 25 (.slice A rs.length c)
          have hgn := S.size
          have zw := zx
          replace S := S.call al
          replace xb := xb.alloc (.cells #[.slice A rs.length c] 25)
          replace r6 := r6.below al (Nat.le_of_lt zx)
          go_upto_region 13 with fail
          obtain ⟨wn, hwn⟩ : ∃ wn, (w7).alloc (.cells #[.slice A rs.length c] 25) = wn := ⟨_, rfl⟩
          rw [hwn] at al xb xn S r6 ⊢
          clear hwn al y0
          replace zx := xb.lt
          obtain ⟨y0, -⟩ := id S.2.1.reads
          go_wp2_with fail
          refine (pick_any R _ 2 wn S.2.2.2.2.1 (by omega) (by omega) (by omega)).mono ?_
          rintro e wp ⟨d3, rfl, d30, d31, Rp, Tp⟩
          replace xn := xn.but Tp (by omega)
          replace xb := xb.but Tp (by omega)
          replace r6 := row_but4 r6 Tp (Nat.le_of_lt zx) ne6
          replace S := S.pick Rp Tp
          replace zx := xb.lt
          clear y0 Rp Tp
          obtain ⟨y0, -⟩ := id S.2.1.reads
          by_cases h3 : d3 = 0
          · have e3 : (d3 == 0) = true := by rw [h3]; rfl
            clear h3
            go_wp2_with fail
            have HKP : Hid (∀ x, But R wp x → x.cell? ⟨w.heap.size + 1 + 1, 0, none⟩ = some (.slice A rs.length c) ∧ x.cell? ⟨w4.heap.size, 0, none⟩ = some (.slice A6 st.refs.length c6)) := fun x hx => ⟨(S.2.1.but hx (by omega)).reads.1, (xb.but hx (by omega)).reads.1⟩
            have Bd := (Below.refl wp.heap.size wp).drew
            have Dwd : But R wp wp.drew := .of_below Bd
            refine wp_region_held_drew (S := fun x => x.cell? ⟨w.heap.size + 1 + 1, 0, none⟩ = some (.slice A rs.length c) ∧ x.cell? ⟨w4.heap.size, 0, none⟩ = some (.slice A6 st.refs.length c6)) (by kernel_rfl) (HKP.out _ Dwd) (fun hHeld => ?_)
            replace S := S.call Bd
            replace xn := xn.later Bd
            replace r6 := r6.below Bd (Nat.le_of_lt zx)
            have zd : w4.heap.size < wp.drew.heap.size := zx
            obtain ⟨wd, hwd⟩ : ∃ wd, wp.drew = wd := ⟨_, rfl⟩
            rw [hwd] at hHeld Dwd Bd S xn r6 zd ⊢
            clear hwd y0
            refine wpAnyH_take (i := 0) (oi := _) (v := ?_) rfl (by kernel_rfl) (by kernel_rfl) (by kernel_rfl) (fun _ _ _ h => h) (Or.inl ⟨by rfl, ?_⟩) hHeld ?_
            rotate_left
            · (intro w' hSw; (try dsimp only at hSw); go_simp <;> with_reducible rfl)
            try simp only [Act.put, List.getElem_toArray, List.getElem_cons_succ, List.getElem_cons_zero, List.setIfInBounds_toArray, List.set_cons_zero, List.set_cons_succ]
            refine wpAnyH_take (i := 1) (oi := _) (v := ?_) rfl (by kernel_rfl) (by kernel_rfl) (by kernel_rfl) (fun _ _ _ h => h) (Or.inl ⟨by rfl, ?_⟩) hHeld ?_
            rotate_left
            · (intro w' hSw; (try dsimp only at hSw); go_simp <;> with_reducible rfl)
            try simp only [Act.put, List.getElem_toArray, List.getElem_cons_succ, List.getElem_cons_zero, List.setIfInBounds_toArray, List.set_cons_zero, List.set_cons_succ]
            refine wpAnyH_take (i := 2) (oi := _) (v := ?_) rfl (by kernel_rfl) (by kernel_rfl) (by kernel_rfl) (fun _ _ _ h => h) (Or.inl ⟨by rfl, ?_⟩) hHeld ?_
            rotate_left
            · (intro w' hSw; (try dsimp only at hSw); go_simp <;> with_reducible rfl)
            try simp only [Act.put, List.getElem_toArray, List.getElem_cons_succ, List.getElem_cons_zero, List.setIfInBounds_toArray, List.set_cons_zero, List.set_cons_succ]
            refine wpAnyH_take (i := 3) (oi := _) (v := ?_) rfl (by kernel_rfl) (by kernel_rfl) (by kernel_rfl) (fun _ _ _ h => h) (Or.inl ⟨by rfl, ?_⟩) hHeld ?_
            rotate_left
            · (intro w' hSw; (try dsimp only at hSw); go_simp <;> with_reducible rfl)
            try simp only [Act.put, List.getElem_toArray, List.getElem_cons_succ, List.getElem_cons_zero, List.setIfInBounds_toArray, List.set_cons_zero, List.set_cons_succ]
            refine wpAnyH_take (i := 4) (oi := _) (v := ?_) rfl (by kernel_rfl) (by kernel_rfl) (by kernel_rfl) (fun _ _ _ h => h) (Or.inl ⟨by rfl, ?_⟩) hHeld ?_
            rotate_left
            · (intro w' hSw; (try dsimp only at hSw); go_simp <;> with_reducible rfl)
            try simp only [Act.put, List.getElem_toArray, List.getElem_cons_succ, List.getElem_cons_zero, List.setIfInBounds_toArray, List.set_cons_zero, List.set_cons_succ]
            refine wpAnyH_ready (rs := [5]) (by kernel_rfl) (by simp) (AllReadyH.cons (o := _) rfl (fun K hK => ?_) AllReadyH.nil)
            try simp only [Act.put, List.getElem_toArray, List.getElem_cons_succ, List.getElem_cons_zero, List.setIfInBounds_toArray, List.set_cons_zero, List.set_cons_succ]
            go_simp
            go_at_call 60
            refine (l92Updates_any R _ A6 c6 st.refs wd S.2.2.2.2.1 (by omega) (r6.more (Nat.le_of_lt zd)) ne6).mono ?_
            rintro e we ⟨vu, us, rfl, ou, hu4, Re, Te⟩
            replace S := S.pick Re Te
            replace xn := xn.but Te (by omega)
            have De := Dwd.trans Te
            obtain ⟨Au, cu, rfl, ru, hcu⟩ := ou.form
            obtain ⟨A', c', e', hr5, hc5⟩ := S.2.2.1.form
            injection e' with e1 _ e3
            subst e1 e3
            obtain ⟨xs, b2, hv⟩ := voted_ex rs t us
            have CP := hid (specShardPrepare_is xs b2 _ rs t Au cu us we ⟨A, c, rfl, hr5, hc5⟩ (HV.out.2.fit (by have := HV.out.1.2; omega)) ru (by omega) hv)
            have HX : Hid (Vld xs ∧ SmR xs) := ⟨voted_valid hv, voted_small hv HV.out.2 hu4⟩
            clear hv hr5 Te Re ou ru r6
            refine hK.out _ _ (HKP.out _ De) (fun hHeld => ?_)
            clear hK K
            try simp only [Act.put, List.getElem_toArray, List.getElem_cons_succ, List.getElem_cons_zero, List.setIfInBounds_toArray, List.set_cons_zero, List.set_cons_succ]
            refine wpAnyH_ready (rs := [6]) (by kernel_rfl) (by simp) (AllReadyH.cons (o := _) rfl (fun K hK => ?_) AllReadyH.nil)
            try simp only [Act.put, List.getElem_toArray, List.getElem_cons_succ, List.getElem_cons_zero, List.setIfInBounds_toArray, List.set_cons_zero, List.set_cons_succ]
            go_simp
            go_at_call 23
            refine CP.out.mono ?_
            rintro e wf ⟨vf, rfl, of, df⟩
            have zf := S.size
            replace S := S.call df
            replace xn := xn.later df
            obtain ⟨A9, c9, rfl, o9, hc9⟩ := of
            unfold shV
            replace o9 := o9.base (B' := w.heap.size) (by omega)
            have Df := De.trans (.of_below df)
            clear CP df De Dwd
            refine hK.out _ _ (HKP.out _ Df) (fun hHeld => ?_)
            clear hK K
            try simp only [Act.put, List.getElem_toArray, List.getElem_cons_succ, List.getElem_cons_zero, List.setIfInBounds_toArray, List.set_cons_zero, List.set_cons_succ]
            refine wpAnyH_take (i := 7) (oi := _) (v := ?_) rfl (by kernel_rfl) (by kernel_rfl) (by kernel_rfl) (fun _ _ _ h => h) (Or.inl ⟨by rfl, ?_⟩) hHeld ?_
            rotate_left
            · (intro w' hSw; (try dsimp only at hSw); go_simp <;> with_reducible rfl)
            try simp only [Act.put, List.getElem_toArray, List.getElem_cons_succ, List.getElem_cons_zero, List.setIfInBounds_toArray, List.set_cons_zero, List.set_cons_succ]
            refine wpAnyH_take (i := 8) (oi := _) (v := ?_) rfl (by kernel_rfl) (by kernel_rfl) (by kernel_rfl) (fun _ _ _ h => h) (Or.inl ⟨by rfl, ?_⟩) hHeld ?_
            rotate_left
            · (intro w' hSw; (try dsimp only at hSw); go_simp <;> with_reducible rfl)
            try simp only [Act.put, List.getElem_toArray, List.getElem_cons_succ, List.getElem_cons_zero, List.setIfInBounds_toArray, List.set_cons_zero, List.set_cons_succ]
            obtain ⟨z0, zff⟩ := id xn.reads
            have zf0 := zff 0
            have xbf := (xb.but Df (by omega)).far (p := ⟨(w7).heap.size, 0, none⟩) (by show w4.heap.size ≠ (w7).heap.size; omega) (.slice A9 xs.length c9)
            have S9 := S.stored xn hgn (.slice A9 xs.length c9)
            have o8 := o9.keptT (by decide) (by decide) (but_set wf (w7).heap.size 0 (.slice A9 xs.length c9)) (blk_type xn)
            have x8 := xn.set0 (.slice A9 xs.length c9)
            have HSn := hid (⟨S9.2.1.reads.1, xbf.reads.1⟩ : _ ∧ _)
            clear zff xbf
            refine wpAnyH_ready (rs := [9, 10]) (by kernel_rfl) (by simp) (AllReadyH.cons (o := _) rfl (fun K hK => ?_) (AllReadyH.cons (o := _) rfl (fun K hK => ?_) AllReadyH.nil))
            · skip
              try simp only [Act.put, List.getElem_toArray, List.getElem_cons_succ, List.getElem_cons_zero, List.setIfInBounds_toArray, List.set_cons_zero, List.set_cons_succ]
              go_simp
              refine hK.out _ _ (HKP.out _ Df) (fun hHeld => ?_)
              clear hK K
              try simp only [Act.put, List.getElem_toArray, List.getElem_cons_succ, List.getElem_cons_zero, List.setIfInBounds_toArray, List.set_cons_zero, List.set_cons_succ]
              refine wpAnyH_ready (rs := [10]) (by kernel_rfl) (by simp) (AllReadyH.cons (o := _) rfl (fun K hK => ?_) AllReadyH.nil)
              try simp only [Act.put, List.getElem_toArray, List.getElem_cons_succ, List.getElem_cons_zero, List.setIfInBounds_toArray, List.set_cons_zero, List.set_cons_succ]
              go_simp
              refine hK.out _ _ HSn.out (fun hHeld => ?_)
              clear hK K
              try simp only [Act.put, List.getElem_toArray, List.getElem_cons_succ, List.getElem_cons_zero, List.setIfInBounds_toArray, List.set_cons_zero, List.set_cons_succ]
              refine wpAnyH_done (by kernel_rfl) ?_ _
              clear S xn o9 z0 zf0 hHeld HSn HKP
              obtain ⟨wz, hwz⟩ : ∃ wz, (wf).setCell ⟨(w7).heap.size, 0, none⟩ (.slice A9 xs.length c9) = wz := ⟨_, rfl⟩
              rw [hwz] at S9 o8 x8 ⊢
              have S := S9
              have o9 := o8
              have xn := x8
              clear S9 o8 x8 hwz
              have sh9 := (OwnSh.mk_ o9).shd
              have CW := hid (specShardValid_is true _ xs wz sh9 (HX.out.2.fit (by have := HX.out.1.2; omega)) ⟨fun _ => HX.out.1, fun _ => rfl⟩)
              obtain ⟨u0, -⟩ := id xn.reads
              clear sh9
              go_wp2_with fail
              refine CW.out.mono ?_
              rintro e wg ⟨rfl, dg⟩
              replace S := S.call dg
              replace xn := xn.later dg
              replace o9 := o9.below dg
              clear CW dg u0
              obtain ⟨u0, -⟩ := id xn.reads
              obtain ⟨y0, yf⟩ := id S.2.1.reads
              have yf0 := yf 0
              have S9 := S.next o9
              have hk40 : k + 1 ≤ 40 := by omega
              clear yf xn o9 S
              go_wp2
              go_roundw
              case rel => exact ⟨k + 1, xs, A9, c9, hk40, by go_num, HX, S9.more (by push_cast; omega)⟩
              case measure => simp [intOf]; omega
            · skip
              try simp only [Act.put, List.getElem_toArray, List.getElem_cons_succ, List.getElem_cons_zero, List.setIfInBounds_toArray, List.set_cons_zero, List.set_cons_succ]
              go_simp
              refine hK.out _ _ HSn.out (fun hHeld => ?_)
              clear hK K
              try simp only [Act.put, List.getElem_toArray, List.getElem_cons_succ, List.getElem_cons_zero, List.setIfInBounds_toArray, List.set_cons_zero, List.set_cons_succ]
              refine wpAnyH_take (i := 9) (oi := _) (v := ?_) rfl (by kernel_rfl) (by kernel_rfl) (by kernel_rfl) (fun _ _ _ h => h) (Or.inl ⟨by rfl, ?_⟩) hHeld ?_
              rotate_left
              · (intro w' hSw; (try dsimp only at hSw); go_simp <;> with_reducible rfl)
              try simp only [Act.put, List.getElem_toArray, List.getElem_cons_succ, List.getElem_cons_zero, List.setIfInBounds_toArray, List.set_cons_zero, List.set_cons_succ]
              refine wpAnyH_done (by kernel_rfl) ?_ _
              clear S xn o9 z0 zf0 hHeld HSn HKP
              obtain ⟨wz, hwz⟩ : ∃ wz, (wf).setCell ⟨(w7).heap.size, 0, none⟩ (.slice A9 xs.length c9) = wz := ⟨_, rfl⟩
              rw [hwz] at S9 o8 x8 ⊢
              have S := S9
              have o9 := o8
              have xn := x8
              clear S9 o8 x8 hwz
              have sh9 := (OwnSh.mk_ o9).shd
              have CW := hid (specShardValid_is true _ xs wz sh9 (HX.out.2.fit (by have := HX.out.1.2; omega)) ⟨fun _ => HX.out.1, fun _ => rfl⟩)
              obtain ⟨u0, -⟩ := id xn.reads
              clear sh9
              go_wp2_with fail
              refine CW.out.mono ?_
              rintro e wg ⟨rfl, dg⟩
              replace S := S.call dg
              replace xn := xn.later dg
              replace o9 := o9.below dg
              clear CW dg u0
              obtain ⟨u0, -⟩ := id xn.reads
              obtain ⟨y0, yf⟩ := id S.2.1.reads
              have yf0 := yf 0
              have S9 := S.next o9
              have hk40 : k + 1 ≤ 40 := by omega
              clear yf xn o9 S
              go_wp2
              go_roundw
              case rel => exact ⟨k + 1, xs, A9, c9, hk40, by go_num, HX, S9.more (by push_cast; omega)⟩
              case measure => simp [intOf]; omega
          · have e3 : (d3 == 0) = false := by rw [beq_eq_false_iff_ne]; exact h3
            clear h3
            go_wp2_with fail
            have HKP : Hid (∀ x, But R wp x → x.cell? ⟨w.heap.size + 1 + 1, 0, none⟩ = some (.slice A rs.length c) ∧ x.cell? ⟨w4.heap.size, 0, none⟩ = some (.slice A6 st.refs.length c6)) := fun x hx => ⟨(S.2.1.but hx (by omega)).reads.1, (xb.but hx (by omega)).reads.1⟩
            have Bd := (Below.refl wp.heap.size wp).drew
            have Dwd : But R wp wp.drew := .of_below Bd
            refine wp_region_held_drew (S := fun x => x.cell? ⟨w.heap.size + 1 + 1, 0, none⟩ = some (.slice A rs.length c) ∧ x.cell? ⟨w4.heap.size, 0, none⟩ = some (.slice A6 st.refs.length c6)) (by kernel_rfl) (HKP.out _ Dwd) (fun hHeld => ?_)
            replace S := S.call Bd
            replace xn := xn.later Bd
            replace r6 := r6.below Bd (Nat.le_of_lt zx)
            obtain ⟨wd, hwd⟩ : ∃ wd, wp.drew = wd := ⟨_, rfl⟩
            rw [hwd] at hHeld Dwd Bd S xn r6 ⊢
            clear hwd y0 r6 ne6
            refine wpAnyH_take (i := 0) (oi := _) (v := ?_) rfl (by kernel_rfl) (by kernel_rfl) (by kernel_rfl) (fun _ _ _ h => h) (Or.inl ⟨by rfl, ?_⟩) hHeld ?_
            rotate_left
            · (intro w' hSw; (try dsimp only at hSw); go_simp <;> with_reducible rfl)
            try simp only [Act.put, List.getElem_toArray, List.getElem_cons_succ, List.getElem_cons_zero, List.setIfInBounds_toArray, List.set_cons_zero, List.set_cons_succ]
            refine wpAnyH_take (i := 1) (oi := _) (v := ?_) rfl (by kernel_rfl) (by kernel_rfl) (by kernel_rfl) (fun _ _ _ h => h) (Or.inl ⟨by rfl, ?_⟩) hHeld ?_
            rotate_left
            · (intro w' hSw; (try dsimp only at hSw); go_simp <;> with_reducible rfl)
            try simp only [Act.put, List.getElem_toArray, List.getElem_cons_succ, List.getElem_cons_zero, List.setIfInBounds_toArray, List.set_cons_zero, List.set_cons_succ]
            refine wpAnyH_take (i := 2) (oi := _) (v := ?_) rfl (by kernel_rfl) (by kernel_rfl) (by kernel_rfl) (fun _ _ _ h => h) (Or.inl ⟨by rfl, ?_⟩) hHeld ?_
            rotate_left
            · (intro w' hSw; (try dsimp only at hSw); go_simp <;> with_reducible rfl)
            try simp only [Act.put, List.getElem_toArray, List.getElem_cons_succ, List.getElem_cons_zero, List.setIfInBounds_toArray, List.set_cons_zero, List.set_cons_succ]
            refine wpAnyH_ready (rs := [3]) (by kernel_rfl) (by simp) (AllReadyH.cons (o := _) rfl (fun K hK => ?_) AllReadyH.nil)
            try simp only [Act.put, List.getElem_toArray, List.getElem_cons_succ, List.getElem_cons_zero, List.setIfInBounds_toArray, List.set_cons_zero, List.set_cons_succ]
            go_simp
            go_at_call 59
            refine (pick_any R _ 3 wd S.2.2.2.2.1 (by omega) (by omega) (by omega)).mono ?_
            rintro e we ⟨d4, rfl, d40, d41, Re, Te⟩
            replace S := S.pick Re Te
            replace xn := xn.but Te (by omega)
            have De := Dwd.trans Te
            obtain ⟨A', c', e', hr5, hc5⟩ := S.2.2.1.form
            injection e' with e1 _ e3
            subst e1 e3
            obtain ⟨cm, hcm⟩ : ∃ cm, decide (0 < d4) = cm := ⟨_, rfl⟩
            obtain ⟨kk, hkk⟩ : ∃ kk : Int, kk = if cm then 2 else 3 := ⟨_, rfl⟩
            obtain ⟨xs, b2, hv⟩ := decided_ex rs t kk
            have CP := hid (specShardDecide_is xs b2 _ rs t kk cm we ⟨A, c, rfl, hr5, hc5⟩ (HV.out.2.fit (by have := HV.out.1.2; omega)) hkk hv)
            have HX : Hid (Vld xs ∧ SmR xs) := ⟨decided_valid hv, decided_small hv HV.out.2⟩
            clear hv hr5 Te Re hkk
            refine hK.out _ _ (HKP.out _ De) (fun hHeld => ?_)
            clear hK K
            try simp only [Act.put, List.getElem_toArray, List.getElem_cons_succ, List.getElem_cons_zero, List.setIfInBounds_toArray, List.set_cons_zero, List.set_cons_succ]
            refine wpAnyH_take (i := 4) (oi := _) (v := ?_) rfl (by kernel_rfl) (by kernel_rfl) (by kernel_rfl) (fun _ _ _ h => h) (Or.inl ⟨by rfl, ?_⟩) hHeld ?_
            rotate_left
            · (intro w' hSw; (try dsimp only at hSw); go_simp <;> with_reducible rfl)
            try simp only [Act.put, List.getElem_toArray, List.getElem_cons_succ, List.getElem_cons_zero, List.setIfInBounds_toArray, List.set_cons_zero, List.set_cons_succ]
            refine wpAnyH_ready (rs := [5]) (by kernel_rfl) (by simp) (AllReadyH.cons (o := _) rfl (fun K hK => ?_) AllReadyH.nil)
            try simp only [Act.put, List.getElem_toArray, List.getElem_cons_succ, List.getElem_cons_zero, List.setIfInBounds_toArray, List.set_cons_zero, List.set_cons_succ]
            go_simp
            go_at_call 28
            refine CP.out.mono ?_
            rintro e wf ⟨vf, rfl, of, df⟩
            have zf := S.size
            replace S := S.call df
            replace xn := xn.later df
            obtain ⟨A9, c9, rfl, o9, hc9⟩ := of
            unfold shV
            replace o9 := o9.base (B' := w.heap.size) (by omega)
            have Df := De.trans (.of_below df)
            clear CP df De Dwd
            refine hK.out _ _ (HKP.out _ Df) (fun hHeld => ?_)
            clear hK K
            try simp only [Act.put, List.getElem_toArray, List.getElem_cons_succ, List.getElem_cons_zero, List.setIfInBounds_toArray, List.set_cons_zero, List.set_cons_succ]
            refine wpAnyH_take (i := 6) (oi := _) (v := ?_) rfl (by kernel_rfl) (by kernel_rfl) (by kernel_rfl) (fun _ _ _ h => h) (Or.inl ⟨by rfl, ?_⟩) hHeld ?_
            rotate_left
            · (intro w' hSw; (try dsimp only at hSw); go_simp <;> with_reducible rfl)
            try simp only [Act.put, List.getElem_toArray, List.getElem_cons_succ, List.getElem_cons_zero, List.setIfInBounds_toArray, List.set_cons_zero, List.set_cons_succ]
            refine wpAnyH_take (i := 7) (oi := _) (v := ?_) rfl (by kernel_rfl) (by kernel_rfl) (by kernel_rfl) (fun _ _ _ h => h) (Or.inl ⟨by rfl, ?_⟩) hHeld ?_
            rotate_left
            · (intro w' hSw; (try dsimp only at hSw); go_simp <;> with_reducible rfl)
            try simp only [Act.put, List.getElem_toArray, List.getElem_cons_succ, List.getElem_cons_zero, List.setIfInBounds_toArray, List.set_cons_zero, List.set_cons_succ]
            obtain ⟨z0, zff⟩ := id xn.reads
            have zf0 := zff 0
            have xbf := (xb.but Df (by omega)).far (p := ⟨(w7).heap.size, 0, none⟩) (by show w4.heap.size ≠ (w7).heap.size; omega) (.slice A9 xs.length c9)
            have S9 := S.stored xn hgn (.slice A9 xs.length c9)
            have o8 := o9.keptT (by decide) (by decide) (but_set wf (w7).heap.size 0 (.slice A9 xs.length c9)) (blk_type xn)
            have x8 := xn.set0 (.slice A9 xs.length c9)
            have HSn := hid (⟨S9.2.1.reads.1, xbf.reads.1⟩ : _ ∧ _)
            clear zff xbf
            refine wpAnyH_ready (rs := [8, 9]) (by kernel_rfl) (by simp) (AllReadyH.cons (o := _) rfl (fun K hK => ?_) (AllReadyH.cons (o := _) rfl (fun K hK => ?_) AllReadyH.nil))
            · skip
              try simp only [Act.put, List.getElem_toArray, List.getElem_cons_succ, List.getElem_cons_zero, List.setIfInBounds_toArray, List.set_cons_zero, List.set_cons_succ]
              go_simp
              refine hK.out _ _ (HKP.out _ Df) (fun hHeld => ?_)
              clear hK K
              try simp only [Act.put, List.getElem_toArray, List.getElem_cons_succ, List.getElem_cons_zero, List.setIfInBounds_toArray, List.set_cons_zero, List.set_cons_succ]
              refine wpAnyH_ready (rs := [9]) (by kernel_rfl) (by simp) (AllReadyH.cons (o := _) rfl (fun K hK => ?_) AllReadyH.nil)
              try simp only [Act.put, List.getElem_toArray, List.getElem_cons_succ, List.getElem_cons_zero, List.setIfInBounds_toArray, List.set_cons_zero, List.set_cons_succ]
              go_simp
              refine hK.out _ _ HSn.out (fun hHeld => ?_)
              clear hK K
              try simp only [Act.put, List.getElem_toArray, List.getElem_cons_succ, List.getElem_cons_zero, List.setIfInBounds_toArray, List.set_cons_zero, List.set_cons_succ]
              refine wpAnyH_done (by kernel_rfl) ?_ _
              clear S xn o9 z0 zf0 hHeld HSn HKP
              obtain ⟨wz, hwz⟩ : ∃ wz, (wf).setCell ⟨(w7).heap.size, 0, none⟩ (.slice A9 xs.length c9) = wz := ⟨_, rfl⟩
              rw [hwz] at S9 o8 x8 ⊢
              have S := S9
              have o9 := o8
              have xn := x8
              clear S9 o8 x8 hwz
              have sh9 := (OwnSh.mk_ o9).shd
              have CW := hid (specShardValid_is true _ xs wz sh9 (HX.out.2.fit (by have := HX.out.1.2; omega)) ⟨fun _ => HX.out.1, fun _ => rfl⟩)
              obtain ⟨u0, -⟩ := id xn.reads
              clear sh9
              go_wp2_with fail
              refine CW.out.mono ?_
              rintro e wg ⟨rfl, dg⟩
              replace S := S.call dg
              replace xn := xn.later dg
              replace o9 := o9.below dg
              clear CW dg u0
              obtain ⟨u0, -⟩ := id xn.reads
              obtain ⟨y0, yf⟩ := id S.2.1.reads
              have yf0 := yf 0
              have S9 := S.next o9
              have hk40 : k + 1 ≤ 40 := by omega
              clear yf xn o9 S
              go_wp2
              go_roundw
              case rel => exact ⟨k + 1, xs, A9, c9, hk40, by go_num, HX, S9.more (by push_cast; omega)⟩
              case measure => simp [intOf]; omega
            · skip
              try simp only [Act.put, List.getElem_toArray, List.getElem_cons_succ, List.getElem_cons_zero, List.setIfInBounds_toArray, List.set_cons_zero, List.set_cons_succ]
              go_simp
              refine hK.out _ _ HSn.out (fun hHeld => ?_)
              clear hK K
              try simp only [Act.put, List.getElem_toArray, List.getElem_cons_succ, List.getElem_cons_zero, List.setIfInBounds_toArray, List.set_cons_zero, List.set_cons_succ]
              refine wpAnyH_take (i := 8) (oi := _) (v := ?_) rfl (by kernel_rfl) (by kernel_rfl) (by kernel_rfl) (fun _ _ _ h => h) (Or.inl ⟨by rfl, ?_⟩) hHeld ?_
              rotate_left
              · (intro w' hSw; (try dsimp only at hSw); go_simp <;> with_reducible rfl)
              try simp only [Act.put, List.getElem_toArray, List.getElem_cons_succ, List.getElem_cons_zero, List.setIfInBounds_toArray, List.set_cons_zero, List.set_cons_succ]
              refine wpAnyH_done (by kernel_rfl) ?_ _
              clear S xn o9 z0 zf0 hHeld HSn HKP
              obtain ⟨wz, hwz⟩ : ∃ wz, (wf).setCell ⟨(w7).heap.size, 0, none⟩ (.slice A9 xs.length c9) = wz := ⟨_, rfl⟩
              rw [hwz] at S9 o8 x8 ⊢
              have S := S9
              have o9 := o8
              have xn := x8
              clear S9 o8 x8 hwz
              have sh9 := (OwnSh.mk_ o9).shd
              have CW := hid (specShardValid_is true _ xs wz sh9 (HX.out.2.fit (by have := HX.out.1.2; omega)) ⟨fun _ => HX.out.1, fun _ => rfl⟩)
              obtain ⟨u0, -⟩ := id xn.reads
              clear sh9
              go_wp2_with fail
              refine CW.out.mono ?_
              rintro e wg ⟨rfl, dg⟩
              replace S := S.call dg
              replace xn := xn.later dg
              replace o9 := o9.below dg
              clear CW dg u0
              obtain ⟨u0, -⟩ := id xn.reads
              obtain ⟨y0, yf⟩ := id S.2.1.reads
              have yf0 := yf 0
              have S9 := S.next o9
              have hk40 : k + 1 ≤ 40 := by omega
              clear yf xn o9 S
              go_wp2
              go_roundw
              case rel => exact ⟨k + 1, xs, A9, c9, hk40, by go_num, HX, S9.more (by push_cast; omega)⟩
              case measure => simp [intOf]; omega
      · go_wp2_with fail
        refine (pick_any R _ 16 wr S.2.2.2.2.1 (by omega) (by omega) (by omega)).mono ?_
        rintro e w4 ⟨d5, rfl, d50, d51, R4, T4⟩
        replace S := S.pick R4 T4
        clear y0 R4 T4
        obtain ⟨y0, yf⟩ := id S.2.1.reads
        obtain ⟨z0, zff⟩ := id S.1.reads
        have zf0 := zff 0
        have hlen : rs.length ≤ 30 := HV.out.1.2
        have hl31 : rs.length ≤ 31 := by omega
        clear zff
        have key : d5 = 0 ∨ d5 = 1 ∨ (d5 ≠ 0 ∧ d5 ≠ 1) := by omega
        rcases key with rfl | rfl | ⟨h50, h51⟩
        · go_wp2_with fail
          have Bd := (Below.refl w4.heap.size w4).drew
          refine wp_region_held_drew (S := fun _ => True) (by kernel_rfl) trivial (fun hHeld => ?_)
          replace S := S.call Bd
          obtain ⟨wd, hwd⟩ : ∃ wd, w4.drew = wd := ⟨_, rfl⟩
          rw [hwd] at S ⊢
          clear hwd y0 yf z0 zf0 Bd
          obtain ⟨y0, -⟩ := id S.2.1.reads
          refine wpAnyH_take (i := 0) (oi := _) (v := ?_) rfl (by kernel_rfl) (by kernel_rfl) (by kernel_rfl) (fun _ _ _ h => h) (Or.inl ⟨by rfl, ?_⟩) hHeld ?_
          rotate_left
          · (intro w' hSw; (try dsimp only at hSw); go_simp <;> with_reducible rfl)
          try simp only [Act.put, List.getElem_toArray, List.getElem_cons_succ, List.getElem_cons_zero, List.setIfInBounds_toArray, List.set_cons_zero, List.set_cons_succ]
          refine wpAnyH_take (i := 2) (oi := _) (v := ?_) rfl (by kernel_rfl) (by kernel_rfl) (by kernel_rfl) (fun _ _ _ h => h) (Or.inl ⟨by rfl, ?_⟩) hHeld ?_
          rotate_left
          · (intro w' hSw; (try dsimp only at hSw); go_simp <;> with_reducible rfl)
          try simp only [Act.put, List.getElem_toArray, List.getElem_cons_succ, List.getElem_cons_zero, List.setIfInBounds_toArray, List.set_cons_zero, List.set_cons_succ]
          refine wpAnyH_take (i := 4) (oi := _) (v := ?_) rfl (by kernel_rfl) (by kernel_rfl) (by kernel_rfl) (fun _ _ _ h => h) (Or.inl ⟨by rfl, ?_⟩) hHeld ?_
          rotate_left
          · (intro w' hSw; (try dsimp only at hSw); go_simp <;> with_reducible rfl)
          try simp only [Act.put, List.getElem_toArray, List.getElem_cons_succ, List.getElem_cons_zero, List.setIfInBounds_toArray, List.set_cons_zero, List.set_cons_succ]
          refine wpAnyH_ready (rs := [1, 3]) (by kernel_rfl) (by simp) (AllReadyH.cons (o := _) rfl (fun K hK => ?_) (AllReadyH.cons (o := _) rfl (fun K hK => ?_) AllReadyH.nil))
          · skip
            try simp only [Act.put, List.getElem_toArray, List.getElem_cons_succ, List.getElem_cons_zero, List.setIfInBounds_toArray, List.set_cons_zero, List.set_cons_succ]
            go_simp
            refine hK.out _ _ trivial (fun hHeld => ?_)
            clear hK K
            try simp only [Act.put, List.getElem_toArray, List.getElem_cons_succ, List.getElem_cons_zero, List.setIfInBounds_toArray, List.set_cons_zero, List.set_cons_succ]
            refine wpAnyH_ready (rs := [3]) (by kernel_rfl) (by simp) (AllReadyH.cons (o := _) rfl (fun K hK => ?_) AllReadyH.nil)
            try simp only [Act.put, List.getElem_toArray, List.getElem_cons_succ, List.getElem_cons_zero, List.setIfInBounds_toArray, List.set_cons_zero, List.set_cons_succ]
            go_simp
            go_at_call 59
            refine (pick_any R _ 5 wd S.2.2.2.2.1 (by omega) (by omega) (by omega)).mono ?_
            rintro e we ⟨d6, rfl, d60, d61, Re, Te⟩
            replace S := S.pick Re Te
            clear Re Te y0
            obtain ⟨y0, -⟩ := id S.2.1.reads
            refine hK.out _ _ trivial (fun hHeld => ?_)
            clear hK K
            try simp only [Act.put, List.getElem_toArray, List.getElem_cons_succ, List.getElem_cons_zero, List.setIfInBounds_toArray, List.set_cons_zero, List.set_cons_succ]
            refine wpAnyH_ready (rs := [5]) (by kernel_rfl) (by simp) (AllReadyH.cons (o := _) rfl (fun K hK => ?_) AllReadyH.nil)
            try simp only [Act.put, List.getElem_toArray, List.getElem_cons_succ, List.getElem_cons_zero, List.setIfInBounds_toArray, List.set_cons_zero, List.set_cons_succ]
            go_simp
            go_at_call 59
            refine (pick_any R _ 13 we S.2.2.2.2.1 (by omega) (by omega) (by omega)).mono ?_
            rintro e wf ⟨d7, rfl, d70, d71, Rf, Tf⟩
            replace S := S.pick Rf Tf
            clear Rf Tf y0
            obtain ⟨y0, -⟩ := id S.2.1.reads
            refine hK.out _ _ trivial (fun hHeld => ?_)
            clear hK K
            try simp only [Act.put, List.getElem_toArray, List.getElem_cons_succ, List.getElem_cons_zero, List.setIfInBounds_toArray, List.set_cons_zero, List.set_cons_succ]
            refine wpAnyH_take (i := 6) (oi := _) (v := ?_) rfl (by kernel_rfl) (by kernel_rfl) (by kernel_rfl) (fun _ _ _ h => h) (Or.inl ⟨by rfl, ?_⟩) hHeld ?_
            rotate_left
            · (intro w' hSw; (try dsimp only at hSw); go_simp <;> with_reducible rfl)
            try simp only [Act.put, List.getElem_toArray, List.getElem_cons_succ, List.getElem_cons_zero, List.setIfInBounds_toArray, List.set_cons_zero, List.set_cons_succ]
            obtain ⟨ys, hrow, har⟩ := id S.2.2.1
            have oA := World.ownsRow.alloc hrow (.cells #[.int .i64 d6, .int .i64 d7, .slice none 0 0] 33)
            have rA := row_threeR wf (.int .i64 d6) (.int .i64 d7) (.slice none 0 0) 33
            have y9 := hid (S.call ((Below.refl wf.heap.size wf).alloc (Nat.le_refl _) (.cells #[.int .i64 d6, .int .i64 d7, .slice none 0 0] 33))).2.1.reads.1
            refine wpAnyH_ready (rs := [7]) (by kernel_rfl) (by simp) (AllReadyH.cons (o := _) rfl (fun K hK => ?_) AllReadyH.nil)
            try simp only [Act.put, List.getElem_toArray, List.getElem_cons_succ, List.getElem_cons_zero, List.setIfInBounds_toArray, List.set_cons_zero, List.set_cons_succ]
            go_simp
            refine hK.out _ _ trivial (fun hHeld => ?_)
            clear hK K
            try simp only [Act.put, List.getElem_toArray, List.getElem_cons_succ, List.getElem_cons_zero, List.setIfInBounds_toArray, List.set_cons_zero, List.set_cons_succ]
            clear y0
            have y0 := y9.out
            refine wpAnyH_ready (rs := [8]) (by kernel_rfl) (by simp) (AllReadyH.cons (o := _) rfl (fun K hK => ?_) AllReadyH.nil)
            try simp only [Act.put, List.getElem_toArray, List.getElem_cons_succ, List.getElem_cons_zero, List.setIfInBounds_toArray, List.set_cons_zero, List.set_cons_succ]
            rw [if_pos (by rfl)]
            refine op_append_row1 _ (by rfl) _ _ 23 (by rfl) w.heap.size 33 i0 (.agg #[.int .i64 0, .int .i64 0, .slice none 0 0]) 3 40 Tryd.underlying23 hi hz0 hz1 hz2 rfl (by decide) (.slice A rs.length c) rs.length ys (by rfl) oA _ (some ⟨wf.heap.size, 0, none⟩) 1 1 [.int .i64 d6, .int .i64 d7, .slice none 0 0] (by rfl) rA rfl (rec_cells _ _ _ _ _) (by unfold maxLen; omega) (by omega) (by have := S.size; simp; omega) ?_
            intro v8 W8 hown hg
            obtain ⟨A9, c9, rfl, ⟨k1, kf⟩, F⟩ := S.app (r := ⟨d6, d7, []⟩) (A5 := none) (c5 := 0) har hrow (OwnUps.nil_none _ _) (Nat.le_refl _) hown hg
            clear hown hg oA rA hrow har y0 y9
            refine hK.out _ _ trivial (fun hHeld => ?_)
            clear hK K
            try simp only [Act.put, List.getElem_toArray, List.getElem_cons_succ, List.getElem_cons_zero, List.setIfInBounds_toArray, List.set_cons_zero, List.set_cons_succ]
            refine wpAnyH_take (i := 9) (oi := _) (v := ?_) rfl (by kernel_rfl) (by kernel_rfl) (by kernel_rfl) (fun _ _ _ h => h) (Or.inl ⟨by rfl, ?_⟩) hHeld ?_
            rotate_left
            · (intro w' hSw; (try dsimp only at hSw); go_simp <;> with_reducible rfl)
            try simp only [Act.put, List.getElem_toArray, List.getElem_cons_succ, List.getElem_cons_zero, List.setIfInBounds_toArray, List.set_cons_zero, List.set_cons_succ]
            refine wpAnyH_ready (rs := [10]) (by kernel_rfl) (by simp) (AllReadyH.cons (o := _) rfl (fun K hK => ?_) AllReadyH.nil)
            try simp only [Act.put, List.getElem_toArray, List.getElem_cons_succ, List.getElem_cons_zero, List.setIfInBounds_toArray, List.set_cons_zero, List.set_cons_succ]
            go_simp
            refine hK.out _ _ trivial (fun hHeld => ?_)
            clear hK K
            try simp only [Act.put, List.getElem_toArray, List.getElem_cons_succ, List.getElem_cons_zero, List.setIfInBounds_toArray, List.set_cons_zero, List.set_cons_succ]
            refine wpAnyH_done (by kernel_rfl) ?_ _
            obtain ⟨W9, hW9⟩ : ∃ W9, W8.setCell ⟨w.heap.size + 1 + 1, 0, none⟩ (.slice A9 (rs.length + 1) c9) = W9 := ⟨_, rfl⟩
            rw [hW9] at F ⊢
            clear hW9 k1 kf S hHeld
            have S := F
            clear F
            obtain ⟨rs9, hrs9⟩ : ∃ x, rs ++ [⟨d6, d7, []⟩] = x := ⟨_, rfl⟩
            have hl9 : rs.length + 1 = rs9.length := by rw [← hrs9]; simp
            have hl31 : rs9.length ≤ 31 := by omega
            have HS9 : Hid (SmR rs9) := hrs9 ▸ HV.out.2.snoc (Nat.zero_le _)
            rw [hrs9] at S
            rw [hl9]
            clear hrs9 hl9
            obtain ⟨y0, -⟩ := id S.2.1.reads
            obtain ⟨z0, zff⟩ := id S.1.reads
            have zf0 := zff 0
            clear zff
            have hc9 := S.2.2.1.form
            obtain ⟨A', c', e', -, hc⟩ := hc9
            injection e' with e1 _ e3
            subst e1 e3
            obtain ⟨p0, -⟩ := (S.1.set0 (.slice A9 rs9.length c9)).reads
            have o9 := S.2.2.1.keptT (by decide) (by decide) (but_set W9 w.heap.size 0 (.slice A9 rs9.length c9)) (blk_type S.1)
            have R9 := S.2.2.2.2.1.far (g := w.heap.size) S.2.2.2.1 0 (.slice A9 rs9.length c9)
            have T9 := S.2.2.2.2.2.set_new (Nat.le_refl _) 0 (.slice A9 rs9.length c9)
            clear S
            go_wp2
            exact bodyPost_ret (v := .agg #[.slice A9 rs9.length c9]) (by simp [results, Tryd.results50, go_sem, p0]) rfl ⟨_, rs9, rfl, ⟨A9, c9, rs9, o9, hc, .inl ⟨rfl, rfl⟩⟩, hl31, HS9.out, R9.more (by omega), T9⟩
          · skip
            try simp only [Act.put, List.getElem_toArray, List.getElem_cons_succ, List.getElem_cons_zero, List.setIfInBounds_toArray, List.set_cons_zero, List.set_cons_succ]
            go_simp
            go_at_call 59
            refine (pick_any R _ 5 wd S.2.2.2.2.1 (by omega) (by omega) (by omega)).mono ?_
            rintro e we ⟨d6, rfl, d60, d61, Re, Te⟩
            replace S := S.pick Re Te
            clear Re Te y0
            obtain ⟨y0, -⟩ := id S.2.1.reads
            refine hK.out _ _ trivial (fun hHeld => ?_)
            clear hK K
            try simp only [Act.put, List.getElem_toArray, List.getElem_cons_succ, List.getElem_cons_zero, List.setIfInBounds_toArray, List.set_cons_zero, List.set_cons_succ]
            refine wpAnyH_ready (rs := [1, 5]) (by kernel_rfl) (by simp) (AllReadyH.cons (o := _) rfl (fun K hK => ?_) (AllReadyH.cons (o := _) rfl (fun K hK => ?_) AllReadyH.nil))
            · skip
              try simp only [Act.put, List.getElem_toArray, List.getElem_cons_succ, List.getElem_cons_zero, List.setIfInBounds_toArray, List.set_cons_zero, List.set_cons_succ]
              go_simp
              refine hK.out _ _ trivial (fun hHeld => ?_)
              clear hK K
              try simp only [Act.put, List.getElem_toArray, List.getElem_cons_succ, List.getElem_cons_zero, List.setIfInBounds_toArray, List.set_cons_zero, List.set_cons_succ]
              refine wpAnyH_ready (rs := [5]) (by kernel_rfl) (by simp) (AllReadyH.cons (o := _) rfl (fun K hK => ?_) AllReadyH.nil)
              try simp only [Act.put, List.getElem_toArray, List.getElem_cons_succ, List.getElem_cons_zero, List.setIfInBounds_toArray, List.set_cons_zero, List.set_cons_succ]
              go_simp
              go_at_call 59
              refine (pick_any R _ 13 we S.2.2.2.2.1 (by omega) (by omega) (by omega)).mono ?_
              rintro e wf ⟨d7, rfl, d70, d71, Rf, Tf⟩
              replace S := S.pick Rf Tf
              clear Rf Tf y0
              obtain ⟨y0, -⟩ := id S.2.1.reads
              refine hK.out _ _ trivial (fun hHeld => ?_)
              clear hK K
              try simp only [Act.put, List.getElem_toArray, List.getElem_cons_succ, List.getElem_cons_zero, List.setIfInBounds_toArray, List.set_cons_zero, List.set_cons_succ]
              refine wpAnyH_take (i := 6) (oi := _) (v := ?_) rfl (by kernel_rfl) (by kernel_rfl) (by kernel_rfl) (fun _ _ _ h => h) (Or.inl ⟨by rfl, ?_⟩) hHeld ?_
              rotate_left
              · (intro w' hSw; (try dsimp only at hSw); go_simp <;> with_reducible rfl)
              try simp only [Act.put, List.getElem_toArray, List.getElem_cons_succ, List.getElem_cons_zero, List.setIfInBounds_toArray, List.set_cons_zero, List.set_cons_succ]
              obtain ⟨ys, hrow, har⟩ := id S.2.2.1
              have oA := World.ownsRow.alloc hrow (.cells #[.int .i64 d6, .int .i64 d7, .slice none 0 0] 33)
              have rA := row_threeR wf (.int .i64 d6) (.int .i64 d7) (.slice none 0 0) 33
              have y9 := hid (S.call ((Below.refl wf.heap.size wf).alloc (Nat.le_refl _) (.cells #[.int .i64 d6, .int .i64 d7, .slice none 0 0] 33))).2.1.reads.1
              refine wpAnyH_ready (rs := [7]) (by kernel_rfl) (by simp) (AllReadyH.cons (o := _) rfl (fun K hK => ?_) AllReadyH.nil)
              try simp only [Act.put, List.getElem_toArray, List.getElem_cons_succ, List.getElem_cons_zero, List.setIfInBounds_toArray, List.set_cons_zero, List.set_cons_succ]
              go_simp
              refine hK.out _ _ trivial (fun hHeld => ?_)
              clear hK K
              try simp only [Act.put, List.getElem_toArray, List.getElem_cons_succ, List.getElem_cons_zero, List.setIfInBounds_toArray, List.set_cons_zero, List.set_cons_succ]
              clear y0
              have y0 := y9.out
              refine wpAnyH_ready (rs := [8]) (by kernel_rfl) (by simp) (AllReadyH.cons (o := _) rfl (fun K hK => ?_) AllReadyH.nil)
              try simp only [Act.put, List.getElem_toArray, List.getElem_cons_succ, List.getElem_cons_zero, List.setIfInBounds_toArray, List.set_cons_zero, List.set_cons_succ]
              rw [if_pos (by rfl)]
              refine op_append_row1 _ (by rfl) _ _ 23 (by rfl) w.heap.size 33 i0 (.agg #[.int .i64 0, .int .i64 0, .slice none 0 0]) 3 40 Tryd.underlying23 hi hz0 hz1 hz2 rfl (by decide) (.slice A rs.length c) rs.length ys (by rfl) oA _ (some ⟨wf.heap.size, 0, none⟩) 1 1 [.int .i64 d6, .int .i64 d7, .slice none 0 0] (by rfl) rA rfl (rec_cells _ _ _ _ _) (by unfold maxLen; omega) (by omega) (by have := S.size; simp; omega) ?_
              intro v8 W8 hown hg
              obtain ⟨A9, c9, rfl, ⟨k1, kf⟩, F⟩ := S.app (r := ⟨d6, d7, []⟩) (A5 := none) (c5 := 0) har hrow (OwnUps.nil_none _ _) (Nat.le_refl _) hown hg
              clear hown hg oA rA hrow har y0 y9
              refine hK.out _ _ trivial (fun hHeld => ?_)
              clear hK K
              try simp only [Act.put, List.getElem_toArray, List.getElem_cons_succ, List.getElem_cons_zero, List.setIfInBounds_toArray, List.set_cons_zero, List.set_cons_succ]
              refine wpAnyH_take (i := 9) (oi := _) (v := ?_) rfl (by kernel_rfl) (by kernel_rfl) (by kernel_rfl) (fun _ _ _ h => h) (Or.inl ⟨by rfl, ?_⟩) hHeld ?_
              rotate_left
              · (intro w' hSw; (try dsimp only at hSw); go_simp <;> with_reducible rfl)
              try simp only [Act.put, List.getElem_toArray, List.getElem_cons_succ, List.getElem_cons_zero, List.setIfInBounds_toArray, List.set_cons_zero, List.set_cons_succ]
              refine wpAnyH_ready (rs := [10]) (by kernel_rfl) (by simp) (AllReadyH.cons (o := _) rfl (fun K hK => ?_) AllReadyH.nil)
              try simp only [Act.put, List.getElem_toArray, List.getElem_cons_succ, List.getElem_cons_zero, List.setIfInBounds_toArray, List.set_cons_zero, List.set_cons_succ]
              go_simp
              refine hK.out _ _ trivial (fun hHeld => ?_)
              clear hK K
              try simp only [Act.put, List.getElem_toArray, List.getElem_cons_succ, List.getElem_cons_zero, List.setIfInBounds_toArray, List.set_cons_zero, List.set_cons_succ]
              refine wpAnyH_done (by kernel_rfl) ?_ _
              obtain ⟨W9, hW9⟩ : ∃ W9, W8.setCell ⟨w.heap.size + 1 + 1, 0, none⟩ (.slice A9 (rs.length + 1) c9) = W9 := ⟨_, rfl⟩
              rw [hW9] at F ⊢
              clear hW9 k1 kf S hHeld
              have S := F
              clear F
              obtain ⟨rs9, hrs9⟩ : ∃ x, rs ++ [⟨d6, d7, []⟩] = x := ⟨_, rfl⟩
              have hl9 : rs.length + 1 = rs9.length := by rw [← hrs9]; simp
              have hl31 : rs9.length ≤ 31 := by omega
              have HS9 : Hid (SmR rs9) := hrs9 ▸ HV.out.2.snoc (Nat.zero_le _)
              rw [hrs9] at S
              rw [hl9]
              clear hrs9 hl9
              obtain ⟨y0, -⟩ := id S.2.1.reads
              obtain ⟨z0, zff⟩ := id S.1.reads
              have zf0 := zff 0
              clear zff
              have hc9 := S.2.2.1.form
              obtain ⟨A', c', e', -, hc⟩ := hc9
              injection e' with e1 _ e3
              subst e1 e3
              obtain ⟨p0, -⟩ := (S.1.set0 (.slice A9 rs9.length c9)).reads
              have o9 := S.2.2.1.keptT (by decide) (by decide) (but_set W9 w.heap.size 0 (.slice A9 rs9.length c9)) (blk_type S.1)
              have R9 := S.2.2.2.2.1.far (g := w.heap.size) S.2.2.2.1 0 (.slice A9 rs9.length c9)
              have T9 := S.2.2.2.2.2.set_new (Nat.le_refl _) 0 (.slice A9 rs9.length c9)
              clear S
              go_wp2
              exact bodyPost_ret (v := .agg #[.slice A9 rs9.length c9]) (by simp [results, Tryd.results50, go_sem, p0]) rfl ⟨_, rs9, rfl, ⟨A9, c9, rs9, o9, hc, .inl ⟨rfl, rfl⟩⟩, hl31, HS9.out, R9.more (by omega), T9⟩
            · skip
              try simp only [Act.put, List.getElem_toArray, List.getElem_cons_succ, List.getElem_cons_zero, List.setIfInBounds_toArray, List.set_cons_zero, List.set_cons_succ]
              go_simp
              go_at_call 59
              refine (pick_any R _ 13 we S.2.2.2.2.1 (by omega) (by omega) (by omega)).mono ?_
              rintro e wf ⟨d7, rfl, d70, d71, Rf, Tf⟩
              replace S := S.pick Rf Tf
              clear Rf Tf y0
              obtain ⟨y0, -⟩ := id S.2.1.reads
              refine hK.out _ _ trivial (fun hHeld => ?_)
              clear hK K
              try simp only [Act.put, List.getElem_toArray, List.getElem_cons_succ, List.getElem_cons_zero, List.setIfInBounds_toArray, List.set_cons_zero, List.set_cons_succ]
              refine wpAnyH_take (i := 6) (oi := _) (v := ?_) rfl (by kernel_rfl) (by kernel_rfl) (by kernel_rfl) (fun _ _ _ h => h) (Or.inl ⟨by rfl, ?_⟩) hHeld ?_
              rotate_left
              · (intro w' hSw; (try dsimp only at hSw); go_simp <;> with_reducible rfl)
              try simp only [Act.put, List.getElem_toArray, List.getElem_cons_succ, List.getElem_cons_zero, List.setIfInBounds_toArray, List.set_cons_zero, List.set_cons_succ]
              obtain ⟨ys, hrow, har⟩ := id S.2.2.1
              have oA := World.ownsRow.alloc hrow (.cells #[.int .i64 d6, .int .i64 d7, .slice none 0 0] 33)
              have rA := row_threeR wf (.int .i64 d6) (.int .i64 d7) (.slice none 0 0) 33
              have y9 := hid (S.call ((Below.refl wf.heap.size wf).alloc (Nat.le_refl _) (.cells #[.int .i64 d6, .int .i64 d7, .slice none 0 0] 33))).2.1.reads.1
              refine wpAnyH_ready (rs := [1, 7]) (by kernel_rfl) (by simp) (AllReadyH.cons (o := _) rfl (fun K hK => ?_) (AllReadyH.cons (o := _) rfl (fun K hK => ?_) AllReadyH.nil))
              · skip
                try simp only [Act.put, List.getElem_toArray, List.getElem_cons_succ, List.getElem_cons_zero, List.setIfInBounds_toArray, List.set_cons_zero, List.set_cons_succ]
                go_simp
                refine hK.out _ _ trivial (fun hHeld => ?_)
                clear hK K
                try simp only [Act.put, List.getElem_toArray, List.getElem_cons_succ, List.getElem_cons_zero, List.setIfInBounds_toArray, List.set_cons_zero, List.set_cons_succ]
                refine wpAnyH_ready (rs := [7]) (by kernel_rfl) (by simp) (AllReadyH.cons (o := _) rfl (fun K hK => ?_) AllReadyH.nil)
                try simp only [Act.put, List.getElem_toArray, List.getElem_cons_succ, List.getElem_cons_zero, List.setIfInBounds_toArray, List.set_cons_zero, List.set_cons_succ]
                go_simp
                refine hK.out _ _ trivial (fun hHeld => ?_)
                clear hK K
                try simp only [Act.put, List.getElem_toArray, List.getElem_cons_succ, List.getElem_cons_zero, List.setIfInBounds_toArray, List.set_cons_zero, List.set_cons_succ]
                clear y0
                have y0 := y9.out
                refine wpAnyH_ready (rs := [8]) (by kernel_rfl) (by simp) (AllReadyH.cons (o := _) rfl (fun K hK => ?_) AllReadyH.nil)
                try simp only [Act.put, List.getElem_toArray, List.getElem_cons_succ, List.getElem_cons_zero, List.setIfInBounds_toArray, List.set_cons_zero, List.set_cons_succ]
                rw [if_pos (by rfl)]
                refine op_append_row1 _ (by rfl) _ _ 23 (by rfl) w.heap.size 33 i0 (.agg #[.int .i64 0, .int .i64 0, .slice none 0 0]) 3 40 Tryd.underlying23 hi hz0 hz1 hz2 rfl (by decide) (.slice A rs.length c) rs.length ys (by rfl) oA _ (some ⟨wf.heap.size, 0, none⟩) 1 1 [.int .i64 d6, .int .i64 d7, .slice none 0 0] (by rfl) rA rfl (rec_cells _ _ _ _ _) (by unfold maxLen; omega) (by omega) (by have := S.size; simp; omega) ?_
                intro v8 W8 hown hg
                obtain ⟨A9, c9, rfl, ⟨k1, kf⟩, F⟩ := S.app (r := ⟨d6, d7, []⟩) (A5 := none) (c5 := 0) har hrow (OwnUps.nil_none _ _) (Nat.le_refl _) hown hg
                clear hown hg oA rA hrow har y0 y9
                refine hK.out _ _ trivial (fun hHeld => ?_)
                clear hK K
                try simp only [Act.put, List.getElem_toArray, List.getElem_cons_succ, List.getElem_cons_zero, List.setIfInBounds_toArray, List.set_cons_zero, List.set_cons_succ]
                refine wpAnyH_take (i := 9) (oi := _) (v := ?_) rfl (by kernel_rfl) (by kernel_rfl) (by kernel_rfl) (fun _ _ _ h => h) (Or.inl ⟨by rfl, ?_⟩) hHeld ?_
                rotate_left
                · (intro w' hSw; (try dsimp only at hSw); go_simp <;> with_reducible rfl)
                try simp only [Act.put, List.getElem_toArray, List.getElem_cons_succ, List.getElem_cons_zero, List.setIfInBounds_toArray, List.set_cons_zero, List.set_cons_succ]
                refine wpAnyH_ready (rs := [10]) (by kernel_rfl) (by simp) (AllReadyH.cons (o := _) rfl (fun K hK => ?_) AllReadyH.nil)
                try simp only [Act.put, List.getElem_toArray, List.getElem_cons_succ, List.getElem_cons_zero, List.setIfInBounds_toArray, List.set_cons_zero, List.set_cons_succ]
                go_simp
                refine hK.out _ _ trivial (fun hHeld => ?_)
                clear hK K
                try simp only [Act.put, List.getElem_toArray, List.getElem_cons_succ, List.getElem_cons_zero, List.setIfInBounds_toArray, List.set_cons_zero, List.set_cons_succ]
                refine wpAnyH_done (by kernel_rfl) ?_ _
                obtain ⟨W9, hW9⟩ : ∃ W9, W8.setCell ⟨w.heap.size + 1 + 1, 0, none⟩ (.slice A9 (rs.length + 1) c9) = W9 := ⟨_, rfl⟩
                rw [hW9] at F ⊢
                clear hW9 k1 kf S hHeld
                have S := F
                clear F
                obtain ⟨rs9, hrs9⟩ : ∃ x, rs ++ [⟨d6, d7, []⟩] = x := ⟨_, rfl⟩
                have hl9 : rs.length + 1 = rs9.length := by rw [← hrs9]; simp
                have hl31 : rs9.length ≤ 31 := by omega
                have HS9 : Hid (SmR rs9) := hrs9 ▸ HV.out.2.snoc (Nat.zero_le _)
                rw [hrs9] at S
                rw [hl9]
                clear hrs9 hl9
                obtain ⟨y0, -⟩ := id S.2.1.reads
                obtain ⟨z0, zff⟩ := id S.1.reads
                have zf0 := zff 0
                clear zff
                have hc9 := S.2.2.1.form
                obtain ⟨A', c', e', -, hc⟩ := hc9
                injection e' with e1 _ e3
                subst e1 e3
                obtain ⟨p0, -⟩ := (S.1.set0 (.slice A9 rs9.length c9)).reads
                have o9 := S.2.2.1.keptT (by decide) (by decide) (but_set W9 w.heap.size 0 (.slice A9 rs9.length c9)) (blk_type S.1)
                have R9 := S.2.2.2.2.1.far (g := w.heap.size) S.2.2.2.1 0 (.slice A9 rs9.length c9)
                have T9 := S.2.2.2.2.2.set_new (Nat.le_refl _) 0 (.slice A9 rs9.length c9)
                clear S
                go_wp2
                exact bodyPost_ret (v := .agg #[.slice A9 rs9.length c9]) (by simp [results, Tryd.results50, go_sem, p0]) rfl ⟨_, rs9, rfl, ⟨A9, c9, rs9, o9, hc, .inl ⟨rfl, rfl⟩⟩, hl31, HS9.out, R9.more (by omega), T9⟩
              · skip
                try simp only [Act.put, List.getElem_toArray, List.getElem_cons_succ, List.getElem_cons_zero, List.setIfInBounds_toArray, List.set_cons_zero, List.set_cons_succ]
                go_simp
                refine hK.out _ _ trivial (fun hHeld => ?_)
                clear hK K
                try simp only [Act.put, List.getElem_toArray, List.getElem_cons_succ, List.getElem_cons_zero, List.setIfInBounds_toArray, List.set_cons_zero, List.set_cons_succ]
                clear y0
                have y0 := y9.out
                refine wpAnyH_ready (rs := [1]) (by kernel_rfl) (by simp) (AllReadyH.cons (o := _) rfl (fun K hK => ?_) AllReadyH.nil)
                try simp only [Act.put, List.getElem_toArray, List.getElem_cons_succ, List.getElem_cons_zero, List.setIfInBounds_toArray, List.set_cons_zero, List.set_cons_succ]
                go_simp
                refine hK.out _ _ trivial (fun hHeld => ?_)
                clear hK K
                try simp only [Act.put, List.getElem_toArray, List.getElem_cons_succ, List.getElem_cons_zero, List.setIfInBounds_toArray, List.set_cons_zero, List.set_cons_succ]
                refine wpAnyH_ready (rs := [8]) (by kernel_rfl) (by simp) (AllReadyH.cons (o := _) rfl (fun K hK => ?_) AllReadyH.nil)
                try simp only [Act.put, List.getElem_toArray, List.getElem_cons_succ, List.getElem_cons_zero, List.setIfInBounds_toArray, List.set_cons_zero, List.set_cons_succ]
                rw [if_pos (by rfl)]
                refine op_append_row1 _ (by rfl) _ _ 23 (by rfl) w.heap.size 33 i0 (.agg #[.int .i64 0, .int .i64 0, .slice none 0 0]) 3 40 Tryd.underlying23 hi hz0 hz1 hz2 rfl (by decide) (.slice A rs.length c) rs.length ys (by rfl) oA _ (some ⟨wf.heap.size, 0, none⟩) 1 1 [.int .i64 d6, .int .i64 d7, .slice none 0 0] (by rfl) rA rfl (rec_cells _ _ _ _ _) (by unfold maxLen; omega) (by omega) (by have := S.size; simp; omega) ?_
                intro v8 W8 hown hg
                obtain ⟨A9, c9, rfl, ⟨k1, kf⟩, F⟩ := S.app (r := ⟨d6, d7, []⟩) (A5 := none) (c5 := 0) har hrow (OwnUps.nil_none _ _) (Nat.le_refl _) hown hg
                clear hown hg oA rA hrow har y0 y9
                refine hK.out _ _ trivial (fun hHeld => ?_)
                clear hK K
                try simp only [Act.put, List.getElem_toArray, List.getElem_cons_succ, List.getElem_cons_zero, List.setIfInBounds_toArray, List.set_cons_zero, List.set_cons_succ]
                refine wpAnyH_take (i := 9) (oi := _) (v := ?_) rfl (by kernel_rfl) (by kernel_rfl) (by kernel_rfl) (fun _ _ _ h => h) (Or.inl ⟨by rfl, ?_⟩) hHeld ?_
                rotate_left
                · (intro w' hSw; (try dsimp only at hSw); go_simp <;> with_reducible rfl)
                try simp only [Act.put, List.getElem_toArray, List.getElem_cons_succ, List.getElem_cons_zero, List.setIfInBounds_toArray, List.set_cons_zero, List.set_cons_succ]
                refine wpAnyH_ready (rs := [10]) (by kernel_rfl) (by simp) (AllReadyH.cons (o := _) rfl (fun K hK => ?_) AllReadyH.nil)
                try simp only [Act.put, List.getElem_toArray, List.getElem_cons_succ, List.getElem_cons_zero, List.setIfInBounds_toArray, List.set_cons_zero, List.set_cons_succ]
                go_simp
                refine hK.out _ _ trivial (fun hHeld => ?_)
                clear hK K
                try simp only [Act.put, List.getElem_toArray, List.getElem_cons_succ, List.getElem_cons_zero, List.setIfInBounds_toArray, List.set_cons_zero, List.set_cons_succ]
                refine wpAnyH_done (by kernel_rfl) ?_ _
                obtain ⟨W9, hW9⟩ : ∃ W9, W8.setCell ⟨w.heap.size + 1 + 1, 0, none⟩ (.slice A9 (rs.length + 1) c9) = W9 := ⟨_, rfl⟩
                rw [hW9] at F ⊢
                clear hW9 k1 kf S hHeld
                have S := F
                clear F
                obtain ⟨rs9, hrs9⟩ : ∃ x, rs ++ [⟨d6, d7, []⟩] = x := ⟨_, rfl⟩
                have hl9 : rs.length + 1 = rs9.length := by rw [← hrs9]; simp
                have hl31 : rs9.length ≤ 31 := by omega
                have HS9 : Hid (SmR rs9) := hrs9 ▸ HV.out.2.snoc (Nat.zero_le _)
                rw [hrs9] at S
                rw [hl9]
                clear hrs9 hl9
                obtain ⟨y0, -⟩ := id S.2.1.reads
                obtain ⟨z0, zff⟩ := id S.1.reads
                have zf0 := zff 0
                clear zff
                have hc9 := S.2.2.1.form
                obtain ⟨A', c', e', -, hc⟩ := hc9
                injection e' with e1 _ e3
                subst e1 e3
                obtain ⟨p0, -⟩ := (S.1.set0 (.slice A9 rs9.length c9)).reads
                have o9 := S.2.2.1.keptT (by decide) (by decide) (but_set W9 w.heap.size 0 (.slice A9 rs9.length c9)) (blk_type S.1)
                have R9 := S.2.2.2.2.1.far (g := w.heap.size) S.2.2.2.1 0 (.slice A9 rs9.length c9)
                have T9 := S.2.2.2.2.2.set_new (Nat.le_refl _) 0 (.slice A9 rs9.length c9)
                clear S
                go_wp2
                exact bodyPost_ret (v := .agg #[.slice A9 rs9.length c9]) (by simp [results, Tryd.results50, go_sem, p0]) rfl ⟨_, rs9, rfl, ⟨A9, c9, rs9, o9, hc, .inl ⟨rfl, rfl⟩⟩, hl31, HS9.out, R9.more (by omega), T9⟩
        · by_cases h0 : 0 < rs.length
          · have q1 : (0 : Int) < (rs.length : Int) := by omega
            obtain ⟨A', c', e', hr4, hc⟩ := S.2.2.1.form
            injection e' with e1 _ e3
            subst e1 e3
            obtain ⟨ad, rfl⟩ : ∃ ad, A = some ad := by
              rcases hr4 with h | ⟨ad, e, _⟩
              · subst h; simp at h0
              · exact ⟨ad, e⟩
            have yf0 := yf 0
            clear yf hr4
            have q2 : (1 : Int) ≤ (rs.length : Int) := by omega
            have q3 : (rs.length : Int) ≤ (c : Int) := by omega
            by_cases hc1 : c = 1
            · subst hc1
              go_upto_region 24 with fail
              have hdl : (rs.drop 1).length = 0 := by rw [List.length_drop]; omega
              have hdd : rs.drop 1 = [] ∨ ad = ad.add 3 := .inl (List.eq_nil_of_length_eq_zero hdl)
              have x8 := S.2.1.set0 (.slice (some ad) 0 0)
              have x7 := S.1.far (p := ⟨w.heap.size + 1 + 1, 0, none⟩) (by show w.heap.size ≠ w.heap.size + 1 + 1; omega) (.slice (some ad) 0 0)
              have o8 := S.2.2.1.keptT (by decide) (by decide) (but_set w4 (w.heap.size + 1 + 1) 0 (.slice (some ad) 0 0)) (blk_type S.2.1)
              have R8 := S.2.2.2.2.1.far (g := w.heap.size + 1 + 1) (by omega) 0 (.slice (some ad) 0 0)
              have T8 := S.2.2.2.2.2.set_new (g := w.heap.size + 1 + 1) (by omega) 0 (.slice (some ad) 0 0)
              obtain ⟨W8, hW8⟩ : ∃ W8, w4.setCell ⟨w.heap.size + 1 + 1, 0, none⟩ (.slice (some ad) 0 0) = W8 := ⟨_, rfl⟩
              rw [hW8] at x8 x7 o8 R8 T8 ⊢
              clear hW8 y0 yf0 z0 zf0 S
              obtain ⟨y0, -⟩ := id x8.reads
              obtain ⟨z0, zff⟩ := id x7.reads
              have zf0 := zff 0
              obtain ⟨p0, -⟩ := (x7.set0 (.slice (some ad) 0 0)).reads
              have o9 := o8.keptT (by decide) (by decide) (but_set W8 w.heap.size 0 (.slice (some ad) 0 0)) (blk_type x7)
              have R9 := R8.far (g := w.heap.size) hRl 0 (.slice (some ad) 0 0)
              have T9 := T8.set_new (Nat.le_refl _) 0 (.slice (some ad) 0 0)
              clear zff x8 x7 o8 R8 T8
              go_wp2
              exact bodyPost_ret (v := .agg #[.slice (some ad) 0 0]) (by simp [results, Tryd.results50, go_sem, p0]) rfl ⟨_, rs.drop 1, rfl, ⟨some ad, _, rs, o9, hc, .inr ⟨ad, ad, 0, rfl, by rw [hdl]; rfl, rfl, hdd, by rw [hdl]; omega⟩⟩, by rw [List.length_drop]; omega, HV.out.2.drop1, R9.more (by omega), T9⟩
            · go_upto_region 24 with fail
              have hdl : (rs.drop 1).length = rs.length - 1 := by rw [List.length_drop]
              have hdd : rs.drop 1 = [] ∨ (⟨ad.block, ad.off + 3, none⟩ : Addr) = ad.add 3 := .inr rfl
              have x8 := S.2.1.set0 (.slice (some (⟨ad.block, ad.off + 3, none⟩ : Addr)) (rs.length - 1) (c - 1))
              have x7 := S.1.far (p := ⟨w.heap.size + 1 + 1, 0, none⟩) (by show w.heap.size ≠ w.heap.size + 1 + 1; omega) (.slice (some (⟨ad.block, ad.off + 3, none⟩ : Addr)) (rs.length - 1) (c - 1))
              have o8 := S.2.2.1.keptT (by decide) (by decide) (but_set w4 (w.heap.size + 1 + 1) 0 (.slice (some (⟨ad.block, ad.off + 3, none⟩ : Addr)) (rs.length - 1) (c - 1))) (blk_type S.2.1)
              have R8 := S.2.2.2.2.1.far (g := w.heap.size + 1 + 1) (by omega) 0 (.slice (some (⟨ad.block, ad.off + 3, none⟩ : Addr)) (rs.length - 1) (c - 1))
              have T8 := S.2.2.2.2.2.set_new (g := w.heap.size + 1 + 1) (by omega) 0 (.slice (some (⟨ad.block, ad.off + 3, none⟩ : Addr)) (rs.length - 1) (c - 1))
              obtain ⟨W8, hW8⟩ : ∃ W8, w4.setCell ⟨w.heap.size + 1 + 1, 0, none⟩ (.slice (some (⟨ad.block, ad.off + 3, none⟩ : Addr)) (rs.length - 1) (c - 1)) = W8 := ⟨_, rfl⟩
              rw [hW8] at x8 x7 o8 R8 T8 ⊢
              clear hW8 y0 yf0 z0 zf0 S
              obtain ⟨y0, -⟩ := id x8.reads
              obtain ⟨z0, zff⟩ := id x7.reads
              have zf0 := zff 0
              obtain ⟨p0, -⟩ := (x7.set0 (.slice (some (⟨ad.block, ad.off + 3, none⟩ : Addr)) (rs.length - 1) (c - 1))).reads
              have o9 := o8.keptT (by decide) (by decide) (but_set W8 w.heap.size 0 (.slice (some (⟨ad.block, ad.off + 3, none⟩ : Addr)) (rs.length - 1) (c - 1))) (blk_type x7)
              have R9 := R8.far (g := w.heap.size) hRl 0 (.slice (some (⟨ad.block, ad.off + 3, none⟩ : Addr)) (rs.length - 1) (c - 1))
              have T9 := T8.set_new (Nat.le_refl _) 0 (.slice (some (⟨ad.block, ad.off + 3, none⟩ : Addr)) (rs.length - 1) (c - 1))
              clear zff x8 x7 o8 R8 T8
              go_wp2
              exact bodyPost_ret (v := .agg #[.slice (some (⟨ad.block, ad.off + 3, none⟩ : Addr)) (rs.length - 1) (c - 1)]) (by simp [results, Tryd.results50, go_sem, p0]) rfl ⟨_, rs.drop 1, rfl, ⟨some ad, _, rs, o9, hc, .inr ⟨ad, (⟨ad.block, ad.off + 3, none⟩ : Addr), (c - 1), rfl, by rw [hdl]; rfl, rfl, hdd, by rw [hdl]; omega⟩⟩, by rw [List.length_drop]; omega, HV.out.2.drop1, R9.more (by omega), T9⟩
          · have q1 : ¬ (0 : Int) < (rs.length : Int) := by omega
            clear yf
            have hc9 := S.2.2.1.form
            obtain ⟨A', c', e', -, hc⟩ := hc9
            injection e' with e1 _ e3
            subst e1 e3
            obtain ⟨p0, -⟩ := (S.1.set0 (.slice A rs.length c)).reads
            have o9 := S.2.2.1.keptT (by decide) (by decide) (but_set w4 w.heap.size 0 (.slice A rs.length c)) (blk_type S.1)
            have R9 := S.2.2.2.2.1.far (g := w.heap.size) S.2.2.2.1 0 (.slice A rs.length c)
            have T9 := S.2.2.2.2.2.set_new (Nat.le_refl _) 0 (.slice A rs.length c)
            clear S
            go_wp2
            exact bodyPost_ret (v := .agg #[.slice A rs.length c]) (by simp [results, Tryd.results50, go_sem, p0]) rfl ⟨_, rs, rfl, ⟨A, c, rs, o9, hc, .inl ⟨rfl, rfl⟩⟩, hl31, HV.out.2, R9.more (by omega), T9⟩
        · have e5 : (d5 == 0) = false := by rw [beq_eq_false_iff_ne]; exact h50
          have e6 : (d5 == 1) = false := by rw [beq_eq_false_iff_ne]; exact h51
          clear h50 h51 yf
          have hc9 := S.2.2.1.form
          obtain ⟨A', c', e', -, hc⟩ := hc9
          injection e' with e1 _ e3
          subst e1 e3
          obtain ⟨p0, -⟩ := (S.1.set0 (.slice A rs.length c)).reads
          have o9 := S.2.2.1.keptT (by decide) (by decide) (but_set w4 w.heap.size 0 (.slice A rs.length c)) (blk_type S.1)
          have R9 := S.2.2.2.2.1.far (g := w.heap.size) S.2.2.2.1 0 (.slice A rs.length c)
          have T9 := S.2.2.2.2.2.set_new (Nat.le_refl _) 0 (.slice A rs.length c)
          clear S
          go_wp2
          exact bodyPost_ret (v := .agg #[.slice A rs.length c]) (by simp [results, Tryd.results50, go_sem, p0]) rfl ⟨_, rs, rfl, ⟨A, c, rs, o9, hc, .inl ⟨rfl, rfl⟩⟩, hl31, HV.out.2, R9.more (by omega), T9⟩
end Go.Proofs.YteeffchnbkkpfabDoor
