/-
  Walk: the model's l3Objects.
-/
import Derived.Test.YtkekbobnbipmoaaPackO
import Derived.Test.YtkekbobnbipmoaaMakeQ
import Derived.Test.YtkekbobnbipmoaaDepS
namespace Go.Proofs.Ytkekbobnbipmoaa
open Go.RowKit Wo Pu

/-- Behind l3Objects. -/
def LOut (es : List Ent) (w : World) (e : Ending) (w' : World) : Prop := ∃ v, e = .returned (.tuple #[v, .bool (okTo es es.length)]) ∧ OwnObs w' w.heap.size v (if okTo es es.length = true then objs es es.length else []) ∧ Below w.heap.size w w'
theorem LOut.no_ {es : List Ent} {w w' : World} (h : okTo es es.length = false) (hb : Below w.heap.size w w') : LOut es w (.returned (.tuple #[.slice (some ⟨w'.heap.size, 0, none⟩) 0 0, .bool false])) (w'.alloc (.cells #[] 42)) := by
  refine ⟨_, by rw [h], ?_, hb.alloc hb.size _⟩
  rw [if_neg (by rw [h]; decide)]
  exact OwnObs.nil_new hb.size
/-- The object lies in Y at G, its links are the call's own. -/
def RdyO (w Y : World) (G : Nat) (o : Ob) (A : Option Addr) (c : Nat) : Prop := Below w.heap.size w Y ∧ Blk Y G 42 (.int .i64 o.kd) (.slice A o.zs.length c) (.string o.s) ∧ Own Y w.heap.size (.slice A o.zs.length c) o.zs

theorem blk_ne {a b : Nat} (h : a ≠ b) : some a ≠ (Value.slice (some ⟨b, 0, none⟩) 0 0).ownBlock := fun e => by
  have e' : some a = some b := e
  injection e' with e'
  exact h e'
theorem set3 {B G : Nat} {a w : World} (h : Below B a w) (hG : B ≤ G) (x y z : Value) : Below B a (((w.setCell ⟨G, 0, none⟩ x).setCell ⟨G, 1, none⟩ y).setCell ⟨G, 2, none⟩ z) :=
  ((h.setCell (p := ⟨G, 0, none⟩) hG _).setCell (p := ⟨G, 1, none⟩) hG _).setCell (p := ⟨G, 2, none⟩) hG _
theorem Own.rowQ {w : World} {B n c : Nat} {A : Option Addr} {zs : List Int} (h : Own w B (.slice A n c) zs) : Row w w.heap.size A (ints zs) := by
  obtain ⟨A2, c2, hv, hr⟩ := h.form
  injection hv with h1 _ _
  subst h1
  exact hr
set_option maxRecDepth 100000 in
set_option maxHeartbeats 4000000 in
theorem l3Objects_any (A : Option Addr) (c : Nat) (es : List Ent) (w : World) (h : Ents w w.heap.size A es) (hn : es.length ≤ 1048576) (hfe : FitE es) (hbas : Bas es) :
    Calls Try.prog 51 #[.slice A es.length c] w (LOut es w) := by
  obtain ⟨i0, hi, hz0, hz1, hz2⟩ := info_of info_ob
  obtain ⟨j0, hj, hj0, hj1, hj2⟩ := info_of info_int
  have HBAS := hid hbas
  clear hbas
  have n2 := OwnObs.nil_new (w := w) (B := w.heap.size) (Nat.le_refl _)
  have b2 := (Below.refl w.heap.size w).alloc (Nat.le_refl _) (.cells #[] 42)
  go_enter Try.func51, Try.ntmps51
  go_wp2_with fail
  go_loopw [4, 5] (fun v4 i wr => ∃ (k : Nat), i = .int .i64 k ∧ k ≤ es.length ∧ OwnObs wr w.heap.size v4 (objs es k) ∧ Hid (okTo es k = true) ∧ Below w.heap.size w wr) (fun _ i _ => es.length - (intOf i).toNat)
  case atStart => exact ⟨0, rfl, Nat.zero_le _, n2, rfl, b2⟩
  case round =>
    obtain ⟨k, rfl, hk, hoo, HV, hbw⟩ := hrel
    clear n2 b2
    have hz := hbw.size
    have hol := objs_length (es := es) hk
    obtain ⟨out, hout⟩ : ∃ out, objs es k = out := ⟨_, rfl⟩
    rw [hout] at hoo hol
    have HOUT := hid hout
    have HOL := hid hol
    clear hout hol
    obtain ⟨A4, c4, rfl, ho4⟩ := hoo.form
    by_cases hlt : k < es.length
    · obtain ⟨e, ad, Ae, ce, Ao, co, he, rfl, ha, g0, g1, g2, g3, g4, g5⟩ := h.ent hlt
      obtain ⟨q1, q2, q3, -⟩ := hfe e (by rw [← he]; exact List.getElem_mem hlt)
      have hbr := HBAS.out k hlt
      rw [he] at hbr
      obtain ⟨T, hT⟩ : ∃ T, txtOf out e.b = T := ⟨_, rfl⟩
      obtain ⟨o, ho⟩ : ∃ o, mkO out e = o := ⟨_, rfl⟩
      have hkd : e.kd = o.kd := by rw [← ho]; rfl
      have hzs : e.zs = o.zs := by rw [← ho]; rfl
      have HO : Hid (dRes T e.ops = o.s) := by show _ = _; rw [← ho, ← hT]; rfl
      have HS : Hid (objs es (k + 1) = out ++ [o]) := by show _ = _; rw [objs_succ hlt, HOUT.out, he, ho]
      have HOK : Hid (okTo es (k + 1) = (dOk T e.ops && vOb o)) := by show _ = _; rw [okTo_succ hlt, HV.out, Bool.true_and, HOUT.out, he]; unfold okO; rw [ho, hT]
      have hTs : T.size ≤ 1048576 := by
        rw [← hT]
        unfold txtOf
        split
        · rcases hq : out[e.b.toNat]? with _ | q
          · decide
          · have := okTo_small HV.out hk HOUT.out q (List.mem_of_getElem? hq)
            show q.s.size ≤ _
            omega
        · decide
      have hgw := fun (x : World) (hx : Below w.heap.size w x) => (⟨(hx.cell (p := ad.add (k * 4)) ha).trans g0, (hx.cell (p := ⟨(ad.add (k * 4)).block, (ad.add (k * 4)).off + 1, none⟩) ha).trans g1, (hx.cell (p := ⟨(ad.add (k * 4)).block, (ad.add (k * 4)).off + 2, none⟩) ha).trans g2, (hx.cell (p := ⟨(ad.add (k * 4)).block, (ad.add (k * 4)).off + 3, none⟩) ha).trans g3⟩ : x.cell? (ad.add (k * 4)) = _ ∧ x.cell? ⟨(ad.add (k * 4)).block, (ad.add (k * 4)).off + 1, none⟩ = _ ∧ x.cell? ⟨(ad.add (k * 4)).block, (ad.add (k * 4)).off + 2, none⟩ = _ ∧ x.cell? ⟨(ad.add (k * 4)).block, (ad.add (k * 4)).off + 3, none⟩ = _)
      rw [hkd, hzs] at hgw
      have HGW := hid hgw
      rw [hzs] at g4
      have q1' := q1
      rw [hzs] at q1'
      have i0' : 0 ≤ (k : Int) := by omega
      have i1 : (k : Int) < (es.length : Int) := by omega
      have happ : ∀ (x : World), Row x x.heap.size Ao (opsV e.ops) → Calls Try.prog 80 #[.string T, .slice Ao e.ops.length co] x (Ret (.tuple #[.string o.s, .bool (dOk T e.ops)]) x) := fun x hx => by
        have := specDeltaApply_any Ao co e.ops T x hx q2 q3 hTs
        unfold Applied at this
        rwa [HO.out] at this
      have HAPP := hid happ
      obtain ⟨y0, y1, y2, y3⟩ := hgw wr hbw
      have go5 := (g5.below hbw (Nat.le_refl _)).more hz
      clear happ hgw g0 g1 g2 g3 g5 ho he hkd hzs
      by_cases hb0 : 0 ≤ e.b
      · obtain ⟨b, hbb⟩ : ∃ b : Nat, e.b = (b : Int) := ⟨e.b.toNat, by omega⟩
        rw [hbb] at y2 hT hbr
        have hbl : b < out.length := by have := HOL.out; omega
        obtain ⟨p, ad2, A2, c2, hp, rfl, ha2, -, -, k2, -⟩ := ho4.obj hbl
        rw [txt_some hbl, hp] at hT
        rw [hT] at k2
        have i3 : (b : Int) < (out.length : Int) := by omega
        clear hp
        go_wp2_with fail
        refine (HAPP.out wr go5).mono ?_
        rintro e' w5 ⟨rfl, hb5⟩
        have b5 := hbw.trans (hb5.mono hz)
        have oo5 := hoo.below hb5
        have z5 := b5.size
        have r5 := g4.below b5 (Nat.le_refl _)
        obtain ⟨x0, x1, -, -⟩ := HGW.out w5 b5
        obtain ⟨u, hu⟩ : ∃ u, dOk T e.ops = u := ⟨_, rfl⟩
        rw [hu] at HOK ⊢
        have HG2 : Hid (∀ x, Below w5.heap.size w5 x → x.cell? (ad.add (k * 4)) = some (.int .i64 o.kd) ∧ x.cell? ⟨(ad.add (k * 4)).block, (ad.add (k * 4)).off + 1, none⟩ = some (.slice Ae o.zs.length ce)) := fun x hx => by
          obtain ⟨a, b, _, _⟩ := HGW.out x (b5.trans (hx.mono z5))
          exact ⟨a, b⟩
        clear hu HAPP go5 hoo hbw hb5 HGW hz g4 y0 y1 y2 y3
        have hzn : o.zs.length ≤ 1048576 := q1'
        have Na := nil_own (w := w5) (B := w5.heap.size) (Nat.le_refl _) 3 1
        have Ba := (Below.refl w5.heap.size w5).alloc (Nat.le_refl _) (.cells #[] 3)
        have ra := r5.below Ba.drew z5
        have Bz := (Below.refl w5.heap.size w5).alloc (Nat.le_refl _) (.cells #[.int .i64 0, .slice none 0 0, .string ⟨#[]⟩] 42)
        have Bza := Bz.alloc Bz.size (.cells #[] 3)
        have Baz := Ba.alloc Ba.size (.cells #[.int .i64 0, .slice none 0 0, .string ⟨#[]⟩] 42)
        have Nza := nil_own (w := w5.alloc (.cells #[.int .i64 0, .slice none 0 0, .string ⟨#[]⟩] 42)) (B := w5.heap.size) Bz.size 3 1
        have Naz := World.ownsRow.alloc Na (.cells #[.int .i64 0, .slice none 0 0, .string ⟨#[]⟩] 42)
        have rza := r5.below Bza.drew z5
        have raz := r5.below Baz.drew z5
        rw [World.size_alloc] at Nza
        have hI0 : (ints o.zs).length = o.zs.length * 1 := by rw [ints_length]; omega
        have hI1 : 0 + o.zs.length ≤ maxLen := by unfold maxLen; omega
        have hI2 : (0 + o.zs.length) * 8 ≤ 140737488355328 := by omega
        have sBa := Ba.size
        have sBza := Bza.size
        have sBaz := Baz.size
        have Oza := (Blk.new_ w5 42 (.int .i64 0) (.slice none 0 0) (.string ⟨#[]⟩)).below ((Below.refl _ _).alloc (Nat.le_refl _) (.cells #[] 3)) (by simp)
        have Oaz := Blk.new_ (w5.alloc (.cells #[] 3)) 42 (.int .i64 0) (.slice none 0 0) (.string ⟨#[]⟩)
        rw [World.size_alloc] at Oaz
        have Oza' := Oza.below (Below.refl _ _).drew Oza.lt
        have Oaz' := Oaz.below (Below.refl _ _).drew Oaz.lt
        have nz1 := blk_ne (Nat.ne_of_lt (Nat.lt_succ_self w5.heap.size))
        have nz2 := blk_ne (Nat.ne_of_gt (Nat.lt_succ_self w5.heap.size))
        go_wp2_with fail
        go_region_held3 (fun w' => w'.cell? (ad.add (k * 4)) = some (.int .i64 o.kd) ∧ w'.cell? ⟨(ad.add (k * 4)).block, (ad.add (k * 4)).off + 1, none⟩ = some (.slice Ae o.zs.length ce)) (first | with_reducible exact HG2.out _ Ba | with_reducible exact HG2.out _ Bz | with_reducible exact HG2.out _ Bza | with_reducible exact HG2.out _ Baz | with_reducible exact HG2.out _ (b6.alloc b6.size _) | with_reducible exact HG2.out _ (set3 b6 (Nat.le_refl _) _ _ _) | with_reducible exact HG2.out _ (set3 b6 (Nat.le_succ _) _ _ _) | go_keep)
          (first
            | (refine step_append_row _ (by rfl) _ _ 30 (by rfl) w5.heap.size 3 j0 (.int .i64 0) 1 8 Try.underlying30 hj hj0 hj1 hj2 rfl (by decide) (.slice (some ⟨w5.heap.size + 1, 0, none⟩) 0 0) 0 [] (by rfl) Nza w.heap.size Ae o.zs.length ce (ints o.zs) (by rfl) rza hI0 (ints_cells _) hI1 hI2 sBza ?_; intro v6 w6 hown6 hg6; have l6 : Own w6 w5.heap.size v6 o.zs := own0 hown6; obtain ⟨A6, c6, rfl, -⟩ := l6.form; have b6 : Below w5.heap.size w5 w6 := Bza.drew.grown hg6 sBza (fun q hq => Nat.le_trans (Nat.le_succ _) (nil_far q hq)); obtain ⟨m0, m1⟩ := HG2.out _ b6; have uz := Oza'.grown hg6 nz1; obtain ⟨t0, t1, t2, tf⟩ := id uz.reads; have tf0 := tf 0; have tf1 := tf 1; have tf2 := tf 2; clear tf)
            | (refine step_append_row _ (by rfl) _ _ 30 (by rfl) w5.heap.size 3 j0 (.int .i64 0) 1 8 Try.underlying30 hj hj0 hj1 hj2 rfl (by decide) (.slice (some ⟨w5.heap.size, 0, none⟩) 0 0) 0 [] (by rfl) Naz w.heap.size Ae o.zs.length ce (ints o.zs) (by rfl) raz hI0 (ints_cells _) hI1 hI2 sBaz ?_; intro v6 w6 hown6 hg6; have l6 : Own w6 w5.heap.size v6 o.zs := own0 hown6; obtain ⟨A6, c6, rfl, -⟩ := l6.form; have b6 : Below w5.heap.size w5 w6 := Baz.drew.grown hg6 sBaz nil_far; obtain ⟨m0, m1⟩ := HG2.out _ b6; have uz := Oaz'.grown hg6 nz2; obtain ⟨t0, t1, t2, tf⟩ := id uz.reads; have tf0 := tf 0; have tf1 := tf 1; have tf2 := tf 2; clear tf)
            | (refine step_append_row _ (by rfl) _ _ 30 (by rfl) w5.heap.size 3 j0 (.int .i64 0) 1 8 Try.underlying30 hj hj0 hj1 hj2 rfl (by decide) (.slice (some ⟨w5.heap.size, 0, none⟩) 0 0) 0 [] (by rfl) Na w.heap.size Ae o.zs.length ce (ints o.zs) (by rfl) ra hI0 (ints_cells _) hI1 hI2 sBa ?_; intro v6 w6 hown6 hg6; have l6 : Own w6 w5.heap.size v6 o.zs := own0 hown6; obtain ⟨A6, c6, rfl, -⟩ := l6.form; have b6 : Below w5.heap.size w5 w6 := Ba.drew.grown hg6 sBa nil_far; obtain ⟨m0, m1⟩ := HG2.out _ b6))
        · have hY : RdyO w5 (w6.alloc (.cells #[.int .i64 o.kd, .slice A6 o.zs.length c6, .string o.s] 42)) w6.heap.size o A6 c6 := ⟨b6.alloc b6.size _, Blk.new_ w6 _ _ _ _, l6.below ((Below.refl _ _).alloc (Nat.le_refl _) _) (Nat.le_refl _)⟩
          generalize (w6.alloc (.cells #[.int .i64 o.kd, .slice A6 o.zs.length c6, .string o.s] 42)) = Y at *
          clear Oza Oaz Oza' Oaz' nz1 nz2 Na Ba ra Bz Bza Baz Nza Naz rza raz sBa sBza sBaz hg6 hown6 m0 m1 x0 x1 r5 HG2 l6 b6
          obtain ⟨bY, uY, lY⟩ := hY
          have oo7 := oo5.below bY
          have b7 := b5.trans (bY.mono z5)
          have lY' := lY.base (B' := w.heap.size) z5
          clear oo5 b5 bY lY z5
          have hsz : o.s.size ≤ maxLen := by rw [← HO.out]; exact dRes_small _ _
          have hzm : o.zs.length ≤ maxLen := by unfold maxLen; omega
          have z7 := b7.size
          cases u
          · have HF : Hid (okTo es es.length = false) := by
              show _ = _
              rw [Bool.eq_false_iff]
              intro e2
              have := okTo_le (j := k + 1) (by omega) (Nat.le_refl _) e2
              rw [HOK.out, Bool.false_and] at this
              cases this
            go_wp2_with fail
            go_ret2
            exact LOut.no_ HF.out b7
          · rw [Bool.true_and] at HOK
            obtain ⟨v, hv⟩ : ∃ v, vOb o = v := ⟨_, rfl⟩
            rw [hv] at HOK
            have rY := lY'.rowQ
            obtain ⟨p0, p1, p2, -⟩ := id uY.reads
            go_wp2_with fail
            refine (specValid_val v Y.heap.size A6 c6 o Y hv rY (Nat.le_refl _) hzm hsz).mono ?_
            rintro e8 w8 ⟨rfl, hb8⟩
            have oo8 := oo7.below hb8
            have u8 := uY.below hb8 uY.lt
            have l8 := lY'.below hb8 (Nat.le_refl _)
            have b8 := b7.trans (hb8.mono z7)
            have z8 := b8.size
            clear oo7 uY lY' b7 hb8 rY p0 p1 p2 hv z7
            cases v
            · have HF : Hid (okTo es es.length = false) := by
                show _ = _
                rw [Bool.eq_false_iff]
                intro e2
                have := okTo_le (j := k + 1) (by omega) (Nat.le_refl _) e2
                rw [HOK.out] at this
                cases this
              go_wp2_with fail
              go_ret2
              exact LOut.no_ HF.out b8
            · obtain ⟨ys, hyrow, hyos⟩ := oo8
              obtain ⟨p0, p1, p2, -⟩ := id u8.reads
              have hll : out.length ≤ 1048576 := by have := HOL.out; omega
              go_wp2_with (at_builtin; go_must (refine wpList_append_own _ rfl _ _ 23 rfl w.heap.size 42 i0 (.agg #[.int .i64 0, .slice none 0 0, .string ⟨#[]⟩]) 3 48 Try.underlying23 hi hz0 hz1 hz2 rfl (by decide) _ out.length ys rfl (World.ownsRow.alloc hyrow _) ⟨w8.heap.size, 0, none⟩ 1 1 [.int .i64 o.kd, .slice A6 o.zs.length c6, .string o.s] rfl rfl (three_at _ _ _ _ _ _ (by simp)) (obj_cells o A6 c6) (by unfold maxLen; omega) (by omega) (by simp; omega) ?_); intro v' w9 hown hg _)
              have hv9 : OwnObs w9 w.heap.size v' (out ++ [o]) := OwnObs.app hyos hyrow.1 l8 hyrow hown hg
              have al9 := (Below.refl w8.heap.size w8).alloc (Nat.le_refl _) (.cells #[.int .i64 o.kd, .slice A6 o.zs.length c6, .string o.s] 42)
              have b9 : Below w.heap.size w w9 := (b8.trans (al9.mono z8)).grown hg (by simp; omega) (fun q hq => (World.ownsRow.lt hyrow q hq).1)
              clear hown hg hyrow hyos al9 l8 b8 u8 p0 p1 p2
              go_wp2_with fail
              go_roundw
              case rel => exact ⟨k + 1, by go_num, by omega, by rw [HS.out]; exact hv9, HOK, b9⟩
              case measure => simp [intOf]; omega
        · have hY : RdyO w5 (((w6.setCell ⟨w5.heap.size + 1, 0, none⟩ (.int .i64 o.kd)).setCell ⟨w5.heap.size + 1, 1, none⟩ (.slice A6 o.zs.length c6)).setCell ⟨w5.heap.size + 1, 2, none⟩ (.string o.s)) (w5.heap.size + 1) o A6 c6 := ⟨set3 b6 (Nat.le_succ _) _ _ _, ((uz.set0 _).set1 _).set2 _, ((l6.far uz 0 _).far (uz.set0 _) 1 _).far ((uz.set0 _).set1 _) 2 _⟩
          clear t0 t1 t2 tf0 tf1 tf2 uz
          generalize (((w6.setCell ⟨w5.heap.size + 1, 0, none⟩ (.int .i64 o.kd)).setCell ⟨w5.heap.size + 1, 1, none⟩ (.slice A6 o.zs.length c6)).setCell ⟨w5.heap.size + 1, 2, none⟩ (.string o.s)) = Y at *
          clear Oza Oaz Oza' Oaz' nz1 nz2 Na Ba ra Bz Bza Baz Nza Naz rza raz sBa sBza sBaz hg6 hown6 m0 m1 x0 x1 r5 HG2 l6 b6
          obtain ⟨bY, uY, lY⟩ := hY
          have oo7 := oo5.below bY
          have b7 := b5.trans (bY.mono z5)
          have lY' := lY.base (B' := w.heap.size) z5
          clear oo5 b5 bY lY z5
          have hsz : o.s.size ≤ maxLen := by rw [← HO.out]; exact dRes_small _ _
          have hzm : o.zs.length ≤ maxLen := by unfold maxLen; omega
          have z7 := b7.size
          cases u
          · have HF : Hid (okTo es es.length = false) := by
              show _ = _
              rw [Bool.eq_false_iff]
              intro e2
              have := okTo_le (j := k + 1) (by omega) (Nat.le_refl _) e2
              rw [HOK.out, Bool.false_and] at this
              cases this
            go_wp2_with fail
            go_ret2
            exact LOut.no_ HF.out b7
          · rw [Bool.true_and] at HOK
            obtain ⟨v, hv⟩ : ∃ v, vOb o = v := ⟨_, rfl⟩
            rw [hv] at HOK
            have rY := lY'.rowQ
            obtain ⟨p0, p1, p2, -⟩ := id uY.reads
            go_wp2_with fail
            refine (specValid_val v Y.heap.size A6 c6 o Y hv rY (Nat.le_refl _) hzm hsz).mono ?_
            rintro e8 w8 ⟨rfl, hb8⟩
            have oo8 := oo7.below hb8
            have u8 := uY.below hb8 uY.lt
            have l8 := lY'.below hb8 (Nat.le_refl _)
            have b8 := b7.trans (hb8.mono z7)
            have z8 := b8.size
            clear oo7 uY lY' b7 hb8 rY p0 p1 p2 hv z7
            cases v
            · have HF : Hid (okTo es es.length = false) := by
                show _ = _
                rw [Bool.eq_false_iff]
                intro e2
                have := okTo_le (j := k + 1) (by omega) (Nat.le_refl _) e2
                rw [HOK.out] at this
                cases this
              go_wp2_with fail
              go_ret2
              exact LOut.no_ HF.out b8
            · obtain ⟨ys, hyrow, hyos⟩ := oo8
              obtain ⟨p0, p1, p2, -⟩ := id u8.reads
              have hll : out.length ≤ 1048576 := by have := HOL.out; omega
              go_wp2_with (at_builtin; go_must (refine wpList_append_own _ rfl _ _ 23 rfl w.heap.size 42 i0 (.agg #[.int .i64 0, .slice none 0 0, .string ⟨#[]⟩]) 3 48 Try.underlying23 hi hz0 hz1 hz2 rfl (by decide) _ out.length ys rfl (World.ownsRow.alloc hyrow _) ⟨w8.heap.size, 0, none⟩ 1 1 [.int .i64 o.kd, .slice A6 o.zs.length c6, .string o.s] rfl rfl (three_at _ _ _ _ _ _ (by simp)) (obj_cells o A6 c6) (by unfold maxLen; omega) (by omega) (by simp; omega) ?_); intro v' w9 hown hg _)
              have hv9 : OwnObs w9 w.heap.size v' (out ++ [o]) := OwnObs.app hyos hyrow.1 l8 hyrow hown hg
              have al9 := (Below.refl w8.heap.size w8).alloc (Nat.le_refl _) (.cells #[.int .i64 o.kd, .slice A6 o.zs.length c6, .string o.s] 42)
              have b9 : Below w.heap.size w w9 := (b8.trans (al9.mono z8)).grown hg (by simp; omega) (fun q hq => (World.ownsRow.lt hyrow q hq).1)
              clear hown hg hyrow hyos al9 l8 b8 u8 p0 p1 p2
              go_wp2_with fail
              go_roundw
              case rel => exact ⟨k + 1, by go_num, by omega, by rw [HS.out]; exact hv9, HOK, b9⟩
              case measure => simp [intOf]; omega
        · have hY : RdyO w5 (((w6.setCell ⟨w5.heap.size, 0, none⟩ (.int .i64 o.kd)).setCell ⟨w5.heap.size, 1, none⟩ (.slice A6 o.zs.length c6)).setCell ⟨w5.heap.size, 2, none⟩ (.string o.s)) w5.heap.size o A6 c6 := ⟨set3 b6 (Nat.le_refl _) _ _ _, ((uz.set0 _).set1 _).set2 _, ((l6.far uz 0 _).far (uz.set0 _) 1 _).far ((uz.set0 _).set1 _) 2 _⟩
          clear t0 t1 t2 tf0 tf1 tf2 uz
          generalize (((w6.setCell ⟨w5.heap.size, 0, none⟩ (.int .i64 o.kd)).setCell ⟨w5.heap.size, 1, none⟩ (.slice A6 o.zs.length c6)).setCell ⟨w5.heap.size, 2, none⟩ (.string o.s)) = Y at *
          clear Oza Oaz Oza' Oaz' nz1 nz2 Na Ba ra Bz Bza Baz Nza Naz rza raz sBa sBza sBaz hg6 hown6 m0 m1 x0 x1 r5 HG2 l6 b6
          obtain ⟨bY, uY, lY⟩ := hY
          have oo7 := oo5.below bY
          have b7 := b5.trans (bY.mono z5)
          have lY' := lY.base (B' := w.heap.size) z5
          clear oo5 b5 bY lY z5
          have hsz : o.s.size ≤ maxLen := by rw [← HO.out]; exact dRes_small _ _
          have hzm : o.zs.length ≤ maxLen := by unfold maxLen; omega
          have z7 := b7.size
          cases u
          · have HF : Hid (okTo es es.length = false) := by
              show _ = _
              rw [Bool.eq_false_iff]
              intro e2
              have := okTo_le (j := k + 1) (by omega) (Nat.le_refl _) e2
              rw [HOK.out, Bool.false_and] at this
              cases this
            go_wp2_with fail
            go_ret2
            exact LOut.no_ HF.out b7
          · rw [Bool.true_and] at HOK
            obtain ⟨v, hv⟩ : ∃ v, vOb o = v := ⟨_, rfl⟩
            rw [hv] at HOK
            have rY := lY'.rowQ
            obtain ⟨p0, p1, p2, -⟩ := id uY.reads
            go_wp2_with fail
            refine (specValid_val v Y.heap.size A6 c6 o Y hv rY (Nat.le_refl _) hzm hsz).mono ?_
            rintro e8 w8 ⟨rfl, hb8⟩
            have oo8 := oo7.below hb8
            have u8 := uY.below hb8 uY.lt
            have l8 := lY'.below hb8 (Nat.le_refl _)
            have b8 := b7.trans (hb8.mono z7)
            have z8 := b8.size
            clear oo7 uY lY' b7 hb8 rY p0 p1 p2 hv z7
            cases v
            · have HF : Hid (okTo es es.length = false) := by
                show _ = _
                rw [Bool.eq_false_iff]
                intro e2
                have := okTo_le (j := k + 1) (by omega) (Nat.le_refl _) e2
                rw [HOK.out] at this
                cases this
              go_wp2_with fail
              go_ret2
              exact LOut.no_ HF.out b8
            · obtain ⟨ys, hyrow, hyos⟩ := oo8
              obtain ⟨p0, p1, p2, -⟩ := id u8.reads
              have hll : out.length ≤ 1048576 := by have := HOL.out; omega
              go_wp2_with (at_builtin; go_must (refine wpList_append_own _ rfl _ _ 23 rfl w.heap.size 42 i0 (.agg #[.int .i64 0, .slice none 0 0, .string ⟨#[]⟩]) 3 48 Try.underlying23 hi hz0 hz1 hz2 rfl (by decide) _ out.length ys rfl (World.ownsRow.alloc hyrow _) ⟨w8.heap.size, 0, none⟩ 1 1 [.int .i64 o.kd, .slice A6 o.zs.length c6, .string o.s] rfl rfl (three_at _ _ _ _ _ _ (by simp)) (obj_cells o A6 c6) (by unfold maxLen; omega) (by omega) (by simp; omega) ?_); intro v' w9 hown hg _)
              have hv9 : OwnObs w9 w.heap.size v' (out ++ [o]) := OwnObs.app hyos hyrow.1 l8 hyrow hown hg
              have al9 := (Below.refl w8.heap.size w8).alloc (Nat.le_refl _) (.cells #[.int .i64 o.kd, .slice A6 o.zs.length c6, .string o.s] 42)
              have b9 : Below w.heap.size w w9 := (b8.trans (al9.mono z8)).grown hg (by simp; omega) (fun q hq => (World.ownsRow.lt hyrow q hq).1)
              clear hown hg hyrow hyos al9 l8 b8 u8 p0 p1 p2
              go_wp2_with fail
              go_roundw
              case rel => exact ⟨k + 1, by go_num, by omega, by rw [HS.out]; exact hv9, HOK, b9⟩
              case measure => simp [intOf]; omega
      · have hTe : T = ⟨#[]⟩ := by rw [← hT]; exact txt_none (by omega)
        clear hT
        subst hTe
        go_wp2_with fail
        refine (HAPP.out wr go5).mono ?_
        rintro e' w5 ⟨rfl, hb5⟩
        have b5 := hbw.trans (hb5.mono hz)
        have oo5 := hoo.below hb5
        have z5 := b5.size
        have r5 := g4.below b5 (Nat.le_refl _)
        obtain ⟨x0, x1, -, -⟩ := HGW.out w5 b5
        obtain ⟨u, hu⟩ : ∃ u, dOk (⟨#[]⟩ : ByteArray) e.ops = u := ⟨_, rfl⟩
        rw [hu] at HOK ⊢
        have HG2 : Hid (∀ x, Below w5.heap.size w5 x → x.cell? (ad.add (k * 4)) = some (.int .i64 o.kd) ∧ x.cell? ⟨(ad.add (k * 4)).block, (ad.add (k * 4)).off + 1, none⟩ = some (.slice Ae o.zs.length ce)) := fun x hx => by
          obtain ⟨a, b, _, _⟩ := HGW.out x (b5.trans (hx.mono z5))
          exact ⟨a, b⟩
        clear hu HAPP go5 hoo hbw hb5 HGW hz g4 y0 y1 y2 y3
        have hzn : o.zs.length ≤ 1048576 := q1'
        have Na := nil_own (w := w5) (B := w5.heap.size) (Nat.le_refl _) 3 1
        have Ba := (Below.refl w5.heap.size w5).alloc (Nat.le_refl _) (.cells #[] 3)
        have ra := r5.below Ba.drew z5
        have Bz := (Below.refl w5.heap.size w5).alloc (Nat.le_refl _) (.cells #[.int .i64 0, .slice none 0 0, .string ⟨#[]⟩] 42)
        have Bza := Bz.alloc Bz.size (.cells #[] 3)
        have Baz := Ba.alloc Ba.size (.cells #[.int .i64 0, .slice none 0 0, .string ⟨#[]⟩] 42)
        have Nza := nil_own (w := w5.alloc (.cells #[.int .i64 0, .slice none 0 0, .string ⟨#[]⟩] 42)) (B := w5.heap.size) Bz.size 3 1
        have Naz := World.ownsRow.alloc Na (.cells #[.int .i64 0, .slice none 0 0, .string ⟨#[]⟩] 42)
        have rza := r5.below Bza.drew z5
        have raz := r5.below Baz.drew z5
        rw [World.size_alloc] at Nza
        have hI0 : (ints o.zs).length = o.zs.length * 1 := by rw [ints_length]; omega
        have hI1 : 0 + o.zs.length ≤ maxLen := by unfold maxLen; omega
        have hI2 : (0 + o.zs.length) * 8 ≤ 140737488355328 := by omega
        have sBa := Ba.size
        have sBza := Bza.size
        have sBaz := Baz.size
        have Oza := (Blk.new_ w5 42 (.int .i64 0) (.slice none 0 0) (.string ⟨#[]⟩)).below ((Below.refl _ _).alloc (Nat.le_refl _) (.cells #[] 3)) (by simp)
        have Oaz := Blk.new_ (w5.alloc (.cells #[] 3)) 42 (.int .i64 0) (.slice none 0 0) (.string ⟨#[]⟩)
        rw [World.size_alloc] at Oaz
        have Oza' := Oza.below (Below.refl _ _).drew Oza.lt
        have Oaz' := Oaz.below (Below.refl _ _).drew Oaz.lt
        have nz1 := blk_ne (Nat.ne_of_lt (Nat.lt_succ_self w5.heap.size))
        have nz2 := blk_ne (Nat.ne_of_gt (Nat.lt_succ_self w5.heap.size))
        go_wp2_with fail
        go_region_held3 (fun w' => w'.cell? (ad.add (k * 4)) = some (.int .i64 o.kd) ∧ w'.cell? ⟨(ad.add (k * 4)).block, (ad.add (k * 4)).off + 1, none⟩ = some (.slice Ae o.zs.length ce)) (first | with_reducible exact HG2.out _ Ba | with_reducible exact HG2.out _ Bz | with_reducible exact HG2.out _ Bza | with_reducible exact HG2.out _ Baz | with_reducible exact HG2.out _ (b6.alloc b6.size _) | with_reducible exact HG2.out _ (set3 b6 (Nat.le_refl _) _ _ _) | with_reducible exact HG2.out _ (set3 b6 (Nat.le_succ _) _ _ _) | go_keep)
          (first
            | (refine step_append_row _ (by rfl) _ _ 30 (by rfl) w5.heap.size 3 j0 (.int .i64 0) 1 8 Try.underlying30 hj hj0 hj1 hj2 rfl (by decide) (.slice (some ⟨w5.heap.size + 1, 0, none⟩) 0 0) 0 [] (by rfl) Nza w.heap.size Ae o.zs.length ce (ints o.zs) (by rfl) rza hI0 (ints_cells _) hI1 hI2 sBza ?_; intro v6 w6 hown6 hg6; have l6 : Own w6 w5.heap.size v6 o.zs := own0 hown6; obtain ⟨A6, c6, rfl, -⟩ := l6.form; have b6 : Below w5.heap.size w5 w6 := Bza.drew.grown hg6 sBza (fun q hq => Nat.le_trans (Nat.le_succ _) (nil_far q hq)); obtain ⟨m0, m1⟩ := HG2.out _ b6; have uz := Oza'.grown hg6 nz1; obtain ⟨t0, t1, t2, tf⟩ := id uz.reads; have tf0 := tf 0; have tf1 := tf 1; have tf2 := tf 2; clear tf)
            | (refine step_append_row _ (by rfl) _ _ 30 (by rfl) w5.heap.size 3 j0 (.int .i64 0) 1 8 Try.underlying30 hj hj0 hj1 hj2 rfl (by decide) (.slice (some ⟨w5.heap.size, 0, none⟩) 0 0) 0 [] (by rfl) Naz w.heap.size Ae o.zs.length ce (ints o.zs) (by rfl) raz hI0 (ints_cells _) hI1 hI2 sBaz ?_; intro v6 w6 hown6 hg6; have l6 : Own w6 w5.heap.size v6 o.zs := own0 hown6; obtain ⟨A6, c6, rfl, -⟩ := l6.form; have b6 : Below w5.heap.size w5 w6 := Baz.drew.grown hg6 sBaz nil_far; obtain ⟨m0, m1⟩ := HG2.out _ b6; have uz := Oaz'.grown hg6 nz2; obtain ⟨t0, t1, t2, tf⟩ := id uz.reads; have tf0 := tf 0; have tf1 := tf 1; have tf2 := tf 2; clear tf)
            | (refine step_append_row _ (by rfl) _ _ 30 (by rfl) w5.heap.size 3 j0 (.int .i64 0) 1 8 Try.underlying30 hj hj0 hj1 hj2 rfl (by decide) (.slice (some ⟨w5.heap.size, 0, none⟩) 0 0) 0 [] (by rfl) Na w.heap.size Ae o.zs.length ce (ints o.zs) (by rfl) ra hI0 (ints_cells _) hI1 hI2 sBa ?_; intro v6 w6 hown6 hg6; have l6 : Own w6 w5.heap.size v6 o.zs := own0 hown6; obtain ⟨A6, c6, rfl, -⟩ := l6.form; have b6 : Below w5.heap.size w5 w6 := Ba.drew.grown hg6 sBa nil_far; obtain ⟨m0, m1⟩ := HG2.out _ b6))
        · have hY : RdyO w5 (w6.alloc (.cells #[.int .i64 o.kd, .slice A6 o.zs.length c6, .string o.s] 42)) w6.heap.size o A6 c6 := ⟨b6.alloc b6.size _, Blk.new_ w6 _ _ _ _, l6.below ((Below.refl _ _).alloc (Nat.le_refl _) _) (Nat.le_refl _)⟩
          generalize (w6.alloc (.cells #[.int .i64 o.kd, .slice A6 o.zs.length c6, .string o.s] 42)) = Y at *
          clear Oza Oaz Oza' Oaz' nz1 nz2 Na Ba ra Bz Bza Baz Nza Naz rza raz sBa sBza sBaz hg6 hown6 m0 m1 x0 x1 r5 HG2 l6 b6
          obtain ⟨bY, uY, lY⟩ := hY
          have oo7 := oo5.below bY
          have b7 := b5.trans (bY.mono z5)
          have lY' := lY.base (B' := w.heap.size) z5
          clear oo5 b5 bY lY z5
          have hsz : o.s.size ≤ maxLen := by rw [← HO.out]; exact dRes_small _ _
          have hzm : o.zs.length ≤ maxLen := by unfold maxLen; omega
          have z7 := b7.size
          cases u
          · have HF : Hid (okTo es es.length = false) := by
              show _ = _
              rw [Bool.eq_false_iff]
              intro e2
              have := okTo_le (j := k + 1) (by omega) (Nat.le_refl _) e2
              rw [HOK.out, Bool.false_and] at this
              cases this
            go_wp2_with fail
            go_ret2
            exact LOut.no_ HF.out b7
          · rw [Bool.true_and] at HOK
            obtain ⟨v, hv⟩ : ∃ v, vOb o = v := ⟨_, rfl⟩
            rw [hv] at HOK
            have rY := lY'.rowQ
            obtain ⟨p0, p1, p2, -⟩ := id uY.reads
            go_wp2_with fail
            refine (specValid_val v Y.heap.size A6 c6 o Y hv rY (Nat.le_refl _) hzm hsz).mono ?_
            rintro e8 w8 ⟨rfl, hb8⟩
            have oo8 := oo7.below hb8
            have u8 := uY.below hb8 uY.lt
            have l8 := lY'.below hb8 (Nat.le_refl _)
            have b8 := b7.trans (hb8.mono z7)
            have z8 := b8.size
            clear oo7 uY lY' b7 hb8 rY p0 p1 p2 hv z7
            cases v
            · have HF : Hid (okTo es es.length = false) := by
                show _ = _
                rw [Bool.eq_false_iff]
                intro e2
                have := okTo_le (j := k + 1) (by omega) (Nat.le_refl _) e2
                rw [HOK.out] at this
                cases this
              go_wp2_with fail
              go_ret2
              exact LOut.no_ HF.out b8
            · obtain ⟨ys, hyrow, hyos⟩ := oo8
              obtain ⟨p0, p1, p2, -⟩ := id u8.reads
              have hll : out.length ≤ 1048576 := by have := HOL.out; omega
              go_wp2_with (at_builtin; go_must (refine wpList_append_own _ rfl _ _ 23 rfl w.heap.size 42 i0 (.agg #[.int .i64 0, .slice none 0 0, .string ⟨#[]⟩]) 3 48 Try.underlying23 hi hz0 hz1 hz2 rfl (by decide) _ out.length ys rfl (World.ownsRow.alloc hyrow _) ⟨w8.heap.size, 0, none⟩ 1 1 [.int .i64 o.kd, .slice A6 o.zs.length c6, .string o.s] rfl rfl (three_at _ _ _ _ _ _ (by simp)) (obj_cells o A6 c6) (by unfold maxLen; omega) (by omega) (by simp; omega) ?_); intro v' w9 hown hg _)
              have hv9 : OwnObs w9 w.heap.size v' (out ++ [o]) := OwnObs.app hyos hyrow.1 l8 hyrow hown hg
              have al9 := (Below.refl w8.heap.size w8).alloc (Nat.le_refl _) (.cells #[.int .i64 o.kd, .slice A6 o.zs.length c6, .string o.s] 42)
              have b9 : Below w.heap.size w w9 := (b8.trans (al9.mono z8)).grown hg (by simp; omega) (fun q hq => (World.ownsRow.lt hyrow q hq).1)
              clear hown hg hyrow hyos al9 l8 b8 u8 p0 p1 p2
              go_wp2_with fail
              go_roundw
              case rel => exact ⟨k + 1, by go_num, by omega, by rw [HS.out]; exact hv9, HOK, b9⟩
              case measure => simp [intOf]; omega
        · have hY : RdyO w5 (((w6.setCell ⟨w5.heap.size + 1, 0, none⟩ (.int .i64 o.kd)).setCell ⟨w5.heap.size + 1, 1, none⟩ (.slice A6 o.zs.length c6)).setCell ⟨w5.heap.size + 1, 2, none⟩ (.string o.s)) (w5.heap.size + 1) o A6 c6 := ⟨set3 b6 (Nat.le_succ _) _ _ _, ((uz.set0 _).set1 _).set2 _, ((l6.far uz 0 _).far (uz.set0 _) 1 _).far ((uz.set0 _).set1 _) 2 _⟩
          clear t0 t1 t2 tf0 tf1 tf2 uz
          generalize (((w6.setCell ⟨w5.heap.size + 1, 0, none⟩ (.int .i64 o.kd)).setCell ⟨w5.heap.size + 1, 1, none⟩ (.slice A6 o.zs.length c6)).setCell ⟨w5.heap.size + 1, 2, none⟩ (.string o.s)) = Y at *
          clear Oza Oaz Oza' Oaz' nz1 nz2 Na Ba ra Bz Bza Baz Nza Naz rza raz sBa sBza sBaz hg6 hown6 m0 m1 x0 x1 r5 HG2 l6 b6
          obtain ⟨bY, uY, lY⟩ := hY
          have oo7 := oo5.below bY
          have b7 := b5.trans (bY.mono z5)
          have lY' := lY.base (B' := w.heap.size) z5
          clear oo5 b5 bY lY z5
          have hsz : o.s.size ≤ maxLen := by rw [← HO.out]; exact dRes_small _ _
          have hzm : o.zs.length ≤ maxLen := by unfold maxLen; omega
          have z7 := b7.size
          cases u
          · have HF : Hid (okTo es es.length = false) := by
              show _ = _
              rw [Bool.eq_false_iff]
              intro e2
              have := okTo_le (j := k + 1) (by omega) (Nat.le_refl _) e2
              rw [HOK.out, Bool.false_and] at this
              cases this
            go_wp2_with fail
            go_ret2
            exact LOut.no_ HF.out b7
          · rw [Bool.true_and] at HOK
            obtain ⟨v, hv⟩ : ∃ v, vOb o = v := ⟨_, rfl⟩
            rw [hv] at HOK
            have rY := lY'.rowQ
            obtain ⟨p0, p1, p2, -⟩ := id uY.reads
            go_wp2_with fail
            refine (specValid_val v Y.heap.size A6 c6 o Y hv rY (Nat.le_refl _) hzm hsz).mono ?_
            rintro e8 w8 ⟨rfl, hb8⟩
            have oo8 := oo7.below hb8
            have u8 := uY.below hb8 uY.lt
            have l8 := lY'.below hb8 (Nat.le_refl _)
            have b8 := b7.trans (hb8.mono z7)
            have z8 := b8.size
            clear oo7 uY lY' b7 hb8 rY p0 p1 p2 hv z7
            cases v
            · have HF : Hid (okTo es es.length = false) := by
                show _ = _
                rw [Bool.eq_false_iff]
                intro e2
                have := okTo_le (j := k + 1) (by omega) (Nat.le_refl _) e2
                rw [HOK.out] at this
                cases this
              go_wp2_with fail
              go_ret2
              exact LOut.no_ HF.out b8
            · obtain ⟨ys, hyrow, hyos⟩ := oo8
              obtain ⟨p0, p1, p2, -⟩ := id u8.reads
              have hll : out.length ≤ 1048576 := by have := HOL.out; omega
              go_wp2_with (at_builtin; go_must (refine wpList_append_own _ rfl _ _ 23 rfl w.heap.size 42 i0 (.agg #[.int .i64 0, .slice none 0 0, .string ⟨#[]⟩]) 3 48 Try.underlying23 hi hz0 hz1 hz2 rfl (by decide) _ out.length ys rfl (World.ownsRow.alloc hyrow _) ⟨w8.heap.size, 0, none⟩ 1 1 [.int .i64 o.kd, .slice A6 o.zs.length c6, .string o.s] rfl rfl (three_at _ _ _ _ _ _ (by simp)) (obj_cells o A6 c6) (by unfold maxLen; omega) (by omega) (by simp; omega) ?_); intro v' w9 hown hg _)
              have hv9 : OwnObs w9 w.heap.size v' (out ++ [o]) := OwnObs.app hyos hyrow.1 l8 hyrow hown hg
              have al9 := (Below.refl w8.heap.size w8).alloc (Nat.le_refl _) (.cells #[.int .i64 o.kd, .slice A6 o.zs.length c6, .string o.s] 42)
              have b9 : Below w.heap.size w w9 := (b8.trans (al9.mono z8)).grown hg (by simp; omega) (fun q hq => (World.ownsRow.lt hyrow q hq).1)
              clear hown hg hyrow hyos al9 l8 b8 u8 p0 p1 p2
              go_wp2_with fail
              go_roundw
              case rel => exact ⟨k + 1, by go_num, by omega, by rw [HS.out]; exact hv9, HOK, b9⟩
              case measure => simp [intOf]; omega
        · have hY : RdyO w5 (((w6.setCell ⟨w5.heap.size, 0, none⟩ (.int .i64 o.kd)).setCell ⟨w5.heap.size, 1, none⟩ (.slice A6 o.zs.length c6)).setCell ⟨w5.heap.size, 2, none⟩ (.string o.s)) w5.heap.size o A6 c6 := ⟨set3 b6 (Nat.le_refl _) _ _ _, ((uz.set0 _).set1 _).set2 _, ((l6.far uz 0 _).far (uz.set0 _) 1 _).far ((uz.set0 _).set1 _) 2 _⟩
          clear t0 t1 t2 tf0 tf1 tf2 uz
          generalize (((w6.setCell ⟨w5.heap.size, 0, none⟩ (.int .i64 o.kd)).setCell ⟨w5.heap.size, 1, none⟩ (.slice A6 o.zs.length c6)).setCell ⟨w5.heap.size, 2, none⟩ (.string o.s)) = Y at *
          clear Oza Oaz Oza' Oaz' nz1 nz2 Na Ba ra Bz Bza Baz Nza Naz rza raz sBa sBza sBaz hg6 hown6 m0 m1 x0 x1 r5 HG2 l6 b6
          obtain ⟨bY, uY, lY⟩ := hY
          have oo7 := oo5.below bY
          have b7 := b5.trans (bY.mono z5)
          have lY' := lY.base (B' := w.heap.size) z5
          clear oo5 b5 bY lY z5
          have hsz : o.s.size ≤ maxLen := by rw [← HO.out]; exact dRes_small _ _
          have hzm : o.zs.length ≤ maxLen := by unfold maxLen; omega
          have z7 := b7.size
          cases u
          · have HF : Hid (okTo es es.length = false) := by
              show _ = _
              rw [Bool.eq_false_iff]
              intro e2
              have := okTo_le (j := k + 1) (by omega) (Nat.le_refl _) e2
              rw [HOK.out, Bool.false_and] at this
              cases this
            go_wp2_with fail
            go_ret2
            exact LOut.no_ HF.out b7
          · rw [Bool.true_and] at HOK
            obtain ⟨v, hv⟩ : ∃ v, vOb o = v := ⟨_, rfl⟩
            rw [hv] at HOK
            have rY := lY'.rowQ
            obtain ⟨p0, p1, p2, -⟩ := id uY.reads
            go_wp2_with fail
            refine (specValid_val v Y.heap.size A6 c6 o Y hv rY (Nat.le_refl _) hzm hsz).mono ?_
            rintro e8 w8 ⟨rfl, hb8⟩
            have oo8 := oo7.below hb8
            have u8 := uY.below hb8 uY.lt
            have l8 := lY'.below hb8 (Nat.le_refl _)
            have b8 := b7.trans (hb8.mono z7)
            have z8 := b8.size
            clear oo7 uY lY' b7 hb8 rY p0 p1 p2 hv z7
            cases v
            · have HF : Hid (okTo es es.length = false) := by
                show _ = _
                rw [Bool.eq_false_iff]
                intro e2
                have := okTo_le (j := k + 1) (by omega) (Nat.le_refl _) e2
                rw [HOK.out] at this
                cases this
              go_wp2_with fail
              go_ret2
              exact LOut.no_ HF.out b8
            · obtain ⟨ys, hyrow, hyos⟩ := oo8
              obtain ⟨p0, p1, p2, -⟩ := id u8.reads
              have hll : out.length ≤ 1048576 := by have := HOL.out; omega
              go_wp2_with (at_builtin; go_must (refine wpList_append_own _ rfl _ _ 23 rfl w.heap.size 42 i0 (.agg #[.int .i64 0, .slice none 0 0, .string ⟨#[]⟩]) 3 48 Try.underlying23 hi hz0 hz1 hz2 rfl (by decide) _ out.length ys rfl (World.ownsRow.alloc hyrow _) ⟨w8.heap.size, 0, none⟩ 1 1 [.int .i64 o.kd, .slice A6 o.zs.length c6, .string o.s] rfl rfl (three_at _ _ _ _ _ _ (by simp)) (obj_cells o A6 c6) (by unfold maxLen; omega) (by omega) (by simp; omega) ?_); intro v' w9 hown hg _)
              have hv9 : OwnObs w9 w.heap.size v' (out ++ [o]) := OwnObs.app hyos hyrow.1 l8 hyrow hown hg
              have al9 := (Below.refl w8.heap.size w8).alloc (Nat.le_refl _) (.cells #[.int .i64 o.kd, .slice A6 o.zs.length c6, .string o.s] 42)
              have b9 : Below w.heap.size w w9 := (b8.trans (al9.mono z8)).grown hg (by simp; omega) (fun q hq => (World.ownsRow.lt hyrow q hq).1)
              clear hown hg hyrow hyos al9 l8 b8 u8 p0 p1 p2
              go_wp2_with fail
              go_roundw
              case rel => exact ⟨k + 1, by go_num, by omega, by rw [HS.out]; exact hv9, HOK, b9⟩
              case measure => simp [intOf]; omega
    · have hk' : k = es.length := by omega
      subst hk'
      have HM : Hid (okTo es es.length = true) := HV.out
      go_wp2
      go_ret2
      exact ⟨.slice A4 out.length c4, by rw [HM.out]; rfl, by rw [if_pos HM.out, HOUT.out]; exact hoo, hbw⟩
end Go.Proofs.Ytkekbobnbipmoaa
