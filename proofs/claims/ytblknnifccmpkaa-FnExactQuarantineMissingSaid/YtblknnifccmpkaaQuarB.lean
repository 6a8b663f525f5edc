/-
  Walks: the program's functions on quarantines; what is changed lies apart.
-/
import Derived.Test.YtblknnifccmpkaaQuarF
import Derived.Test.YtblknnifccmpkaaG8C
import Derived.Test.YtblknnifccmpkaaAreaQ
import Derived.Test.YtblknnifccmpkaaG7C
namespace Go.Proofs.Ytblknnifccmpkaa
open Go.RowKit Wo Pu Qu

theorem OwnQC.none_ (w : World) (B : Nat) : OwnQC (fun _ => 0) w B (.agg #[.slice none 0 0, .slice none 0 0]) ⟨[], []⟩ :=
  ⟨none, 0, none, 0, rfl, ⟨[], ⟨rfl, .inl ⟨rfl, rfl⟩⟩, (fun j hj => by simp at hj), (fun i _ _ _ hi => absurd hi (by simp)), (fun i _ _ hi => absurd hi (by simp)), fun g hg => by cases hg⟩, Nat.le_refl _,
    ⟨[], ⟨rfl, .inl ⟨rfl, rfl⟩⟩, (fun j hj => by simp at hj), fun g hg => by cases hg⟩, Nat.le_refl _⟩
theorem OwnQC.stored {col : Nat → Nat} {w : World} {B g : Nat} {A A2 : Option Addr} {n c n2 c2 : Nat} {q : Qr} {u0 u1 : Value} (h : OwnQC col w B (.agg #[.slice A n c, .slice A2 n2 c2]) q) (hg : BlkQ w g 26 u0 u1) :
    OwnQC col ((w.setCell ⟨g, 0, none⟩ (.slice A n c)).setCell ⟨g, 1, none⟩ (.slice A2 n2 c2)) B (.agg #[.slice A n c, .slice A2 n2 c2]) q ∧ BlkQ ((w.setCell ⟨g, 0, none⟩ (.slice A n c)).setCell ⟨g, 1, none⟩ (.slice A2 n2 c2)) g 26 (.slice A n c) (.slice A2 n2 c2) :=
  ⟨(h.keptQ hg 0 _).keptQ (hg.set0 _) 1 _, (hg.set0 _).set1 _⟩
theorem ChangedC.mk_ {col : Nat → Nat} {q q' : Qr} {y : QWay} {b : Bool} {w w' : World} {v : Value} (hq : y.q q = q') (hb : y.ok = b) (ho : OwnQC col w' w.heap.size v q') (hbw : Below w.heap.size w w') : ChangedC q y w (.returned (.tuple #[v, .bool b])) w' := by
  unfold ChangedC
  rw [hq, hb]
  exact ⟨v, col, rfl, ho, hbw⟩
theorem Qu.GQ.sm {rs : List Ar} {g : Int → Option (List Ob)} (h : GQ rs g) : SmG g := fun t os ht e => by
  have := store_small ((h t ht).2 os e).1
  exact ⟨fun o ho => by have := (this.1 o ho).1; omega, by omega⟩
/- The quarantine is made of the store and the map; it is told. -/
/- An area is looked up and deleted. -/
set_option linter.unusedSimpArgs false in
set_option maxRecDepth 100000 in
set_option maxHeartbeats 4000000 in
theorem implQuarantineDiscard_C (y : QWay) (v : Value) (q : Qr) (t : Int) (w : World) (h : Quar w w.heap.size v q) (hf : FitQ q) (hy : IsDis q t y) :
    Calls Try.prog 34 #[v, .int .i64 t] w (ChangedC q y w) := by
  have hq0 := h
  obtain ⟨A, c, A2, c2, rfl, hm0, -, ha0, -⟩ := h
  obtain ⟨bq, hbq⟩ := bool_of' (QV q)
  obtain ⟨bt, hbt⟩ := bool_of' (TxnV t)
  have CV : Hid (∀ x, Quar x x.heap.size (qv A q.m.length c A2 q.rs.length c2) q → Calls Try.prog 29 #[.agg #[.slice A q.m.length c, .slice A2 q.rs.length c2]] x (Ret (.bool bq) x)) := fun x hx => implQuarantineValid_is bq _ q x hx hf hbq
  have CT : Hid (∀ x, Calls Try.prog 60 #[.int .i64 t] x (Same (.bool bt) x)) := fun x => txnQ_is bt t x hbt
  unfold qv
  go_enter Try.func34, Try.ntmps34
  obtain ⟨w1, hw1⟩ : ∃ w1, (w.alloc (.cells #[.slice A q.m.length c, .slice A2 q.rs.length c2] 26)).alloc (.cells #[.slice none 0 0, .slice none 0 0] 26) = w1 := ⟨_, rfl⟩
  have x0 := (BlkQ.new_ w 26 (.slice A q.m.length c) (.slice A2 q.rs.length c2)).alloc (.cells #[.slice none 0 0, .slice none 0 0] 26)
  have x1 := BlkQ.new_ (w.alloc (.cells #[.slice A q.m.length c, .slice A2 q.rs.length c2] 26)) 26 (.slice none 0 0) (.slice none 0 0)
  have b1 := ((Below.refl w.heap.size w).alloc (Nat.le_refl _) (.cells #[.slice A q.m.length c, .slice A2 q.rs.length c2] 26)).alloc (by simp) (.cells #[.slice none 0 0, .slice none 0 0] 26)
  rw [World.size_alloc] at x1
  rw [hw1] at x0 x1 b1
  have hq1 := hq0.on b1 b1.size
  have zz := b1.size
  obtain ⟨y0, y1, -⟩ := id x0.reads
  obtain ⟨r0, r1, rf⟩ := id x1.reads
  go_wp2_with fail
  refine (CV.out _ hq1).mono ?_
  rintro e w2 ⟨rfl, d2⟩
  replace zz := b1.size
  replace x0 := x0.later d2
  replace x1 := x1.later d2
  replace b1 := b1.trans ((d2).mono b1.size)
  replace hq1 := hq0.on b1 b1.size
  clear y0 y1 r0 r1 rf
  obtain ⟨y0, y1, -⟩ := id x0.reads
  obtain ⟨r0, r1, rf⟩ := id x1.reads
  cases bq with
  | false =>
    obtain rfl := dis_bad (fun e => by have := hbq.2 e.1; cases this) hy
    clear hbq hbt CV CT hw1
    go_wp2_with fail
    have st := (OwnQC.none_ w2 w.heap.size).stored x1
    obtain ⟨p0, p1, -⟩ := st.2.reads
    refine bodyPost_ret (v := .tuple #[.agg #[.slice none 0 0, .slice none 0 0], .bool false]) (by simp [results, Try.results34, go_sem, p0, p1]) rfl (ChangedC.mk_ rfl rfl st.1 ((b1.setCell (p := ⟨w.heap.size + 1, 0, none⟩) (Nat.le_succ _) _).setCell (p := ⟨w.heap.size + 1, 1, none⟩) (Nat.le_succ _) _))
  | true =>
    have HQ := hid (hbq.1 rfl)
    clear hbq CV
    go_wp2_with fail
    refine (CT.out _).mono ?_
    rintro e w3 ⟨rfl, rfl⟩
    cases bt with
    | false =>
      obtain rfl := dis_bad (fun e => by have := hbt.2 e.2; cases this) hy
      clear hbt CT hw1
      go_wp2_with fail
      have st := (OwnQC.none_ w2 w.heap.size).stored x1
      obtain ⟨p0, p1, -⟩ := st.2.reads
      refine bodyPost_ret (v := .tuple #[.agg #[.slice none 0 0, .slice none 0 0], .bool false]) (by simp [results, Try.results34, go_sem, p0, p1]) rfl (ChangedC.mk_ rfl rfl st.1 ((b1.setCell (p := ⟨w.heap.size + 1, 0, none⟩) (Nat.le_succ _) _).setCell (p := ⟨w.heap.size + 1, 1, none⟩) (Nat.le_succ _) _))
    | true =>
      have HT := hid (hbt.1 rfl)
      clear hbt CT hw1
      have HGQ := hid (GQ.of HQ.out.2.1)
      have HSM : Hid ((∀ o ∈ q.m, o.zs.length ≤ 1048576) ∧ q.m.length ≤ 1048576) := ⟨HQ.out.small.1, HQ.out.small.2.1⟩
      have CM := hid (areasByTxn_any A2 c2 q.rs _ ((ha0.below b1 (Nat.le_refl _)).more b1.size) (hid HQ.out.2.1) hf.2.2.1)
      go_wp2_with fail
      refine CM.out.mono ?_
      rintro e w3 ⟨b, rfl, M3, hb3, d3⟩
      have hbb : w.heap.size + 1 < b := Nat.lt_of_lt_of_le x1.lt hb3
      replace zz := b1.size
      replace x0 := x0.later d3
      replace x1 := x1.later d3
      replace b1 := b1.trans ((d3).mono b1.size)
      replace hq1 := hq0.on b1 b1.size
      clear y0 y1 r0 r1 rf
      obtain ⟨y0, y1, -⟩ := id x0.reads
      obtain ⟨r0, r1, rf⟩ := id x1.reads
      obtain ⟨f, hq, hf'⟩ := M3
      have hwt := wfT_txn HT.out
      rcases hf' t with ⟨e1, e2⟩ | ⟨os, A5, c5, e1, e2, e3, e4⟩
      · have hno : ¬ has q.rs t := gOf_none.1 e2
        obtain rfl := dis_no ⟨HQ.out, HT.out⟩ hno hy
        have HD : Hid (SmG (upd (gOf q.rs) t none) ∧ lsA (upd (gOf q.rs) t none) 0 12 = q.rs) := by
          have hg := HGQ.out.del_ (t := t) (rs' := q.rs) fun s => by
            by_cases e : s = t
            · rw [if_pos e, e]; exact arOf_no hno
            · rw [if_neg e]
          exact ⟨hg.sm, lsA_all HQ.out.2.1 hg⟩
        clear CM hno e2
        go_wp2_with (first
          | (at_lookup; go_must (refine wpList_lookok_q rfl _ _ 78 23 rfl Try.underlying78 (zeroObs _) rfl hq t rfl hwt (.slice none 0 0) (by rw [e1]; rfl) false (by rw [e1]; rfl) ?_))
          | (at_delete; go_loud (refine wpList_delete_q rfl _ _ 78 23 rfl Try.underlying78 rfl hq t rfl hwt ?_; intro w4 m4 hq4 hg4; have M4 := AMap.drop_ hf' hq hq4 hg4; have x0' := x0.grown hg4 (fun e => by injection e with e; omega); have x1' := x1.grown hg4 (fun e => by injection e with e; omega); have b1' := b1.grown hg4 b1.size (fun j hj => by injection hj with hj; omega); have zz' := b1'.size; obtain ⟨y0', y1', -⟩ := id x0'.reads; obtain ⟨r0', r1', rf'⟩ := id x1'.reads)))
        replace x0 := x0'
        replace x1 := x1'
        replace b1 := b1'
        replace zz := zz'
        replace hq1 := hq0.on b1 b1.size
        have CQ := hid (quarantineOf_any A c b m4 q.m _ w4 ((hm0.below b1 (Nat.le_refl _)).more b1.size) HSM.out M4 (hid HD.out.1) _ HD.out.2)
        clear M4 hq4 hg4 x0' x1' b1' zz' y0' y1' r0' r1' rf' hq hf'
        refine CQ.out.mono ?_
        rintro e w7 ⟨v4, col, rfl, o4, d7⟩
        replace zz := b1.size
        replace x0 := x0.later d7
        replace x1 := x1.later d7
        replace b1 := b1.trans ((d7).mono b1.size)
        replace hq1 := hq0.on b1 b1.size
        clear y0 y1 r0 r1 rf
        obtain ⟨y0, y1, -⟩ := id x0.reads
        obtain ⟨r0, r1, rf⟩ := id x1.reads
        have o5 := o4.base (B' := w.heap.size) zz
        obtain ⟨A6, c6, A7, c7, rfl, -⟩ := id o5
        unfold qv at *
        have st := o5.stored x1
        obtain ⟨p0, p1, -⟩ := st.2.reads
        go_wp2
        refine bodyPost_ret (v := .tuple #[.agg #[.slice A6 _ c6, .slice A7 _ c7], .bool false]) (by simp [results, Try.results34, go_sem, p0, p1]) rfl (ChangedC.mk_ rfl rfl st.1 ((b1.setCell (p := ⟨w.heap.size + 1, 0, none⟩) (Nat.le_succ _) _).setCell (p := ⟨w.heap.size + 1, 1, none⟩) (Nat.le_succ _) _))
      · have hhas : has q.rs t := Classical.byContradiction fun h => by rw [gOf_none.2 h] at e1; cases e1
        obtain rfl := dis_yes ⟨HQ.out, HT.out⟩ hhas hy
        have HD : Hid (SmG (upd (gOf q.rs) t none) ∧ lsA (upd (gOf q.rs) t none) 0 12 = setA q.rs t []) := by
          have h1 := del_valid (t := t) HQ.out HQ.out.1
          have hg := HGQ.out.del_ (t := t) (rs' := setA q.rs t []) h1.2.1
          exact ⟨hg.sm, lsA_all h1.1.2.1 hg⟩
        clear CM hhas e3 e4
        replace e1 := e2
        clear e2
        go_wp2_with (first
          | (at_lookup; go_must (refine wpList_lookok_q rfl _ _ 78 23 rfl Try.underlying78 (zeroObs _) rfl hq t rfl hwt (.slice A5 os.length c5) (by rw [e1]; rfl) true (by rw [e1]; rfl) ?_))
          | (at_delete; go_loud (refine wpList_delete_q rfl _ _ 78 23 rfl Try.underlying78 rfl hq t rfl hwt ?_; intro w4 m4 hq4 hg4; have M4 := AMap.drop_ hf' hq hq4 hg4; have x0' := x0.grown hg4 (fun e => by injection e with e; omega); have x1' := x1.grown hg4 (fun e => by injection e with e; omega); have b1' := b1.grown hg4 b1.size (fun j hj => by injection hj with hj; omega); have zz' := b1'.size; obtain ⟨y0', y1', -⟩ := id x0'.reads; obtain ⟨r0', r1', rf'⟩ := id x1'.reads)))
        replace x0 := x0'
        replace x1 := x1'
        replace b1 := b1'
        replace zz := zz'
        replace hq1 := hq0.on b1 b1.size
        have CQ := hid (quarantineOf_any A c b m4 q.m _ w4 ((hm0.below b1 (Nat.le_refl _)).more b1.size) HSM.out M4 (hid HD.out.1) _ HD.out.2)
        clear M4 hq4 hg4 x0' x1' b1' zz' y0' y1' r0' r1' rf' hq hf'
        refine CQ.out.mono ?_
        rintro e w7 ⟨v4, col, rfl, o4, d7⟩
        replace zz := b1.size
        replace x0 := x0.later d7
        replace x1 := x1.later d7
        replace b1 := b1.trans ((d7).mono b1.size)
        replace hq1 := hq0.on b1 b1.size
        clear y0 y1 r0 r1 rf
        obtain ⟨y0, y1, -⟩ := id x0.reads
        obtain ⟨r0, r1, rf⟩ := id x1.reads
        have o5 := o4.base (B' := w.heap.size) zz
        obtain ⟨A6, c6, A7, c7, rfl, -⟩ := id o5
        unfold qv at *
        have st := o5.stored x1
        obtain ⟨p0, p1, -⟩ := st.2.reads
        go_wp2
        refine bodyPost_ret (v := .tuple #[.agg #[.slice A6 _ c6, .slice A7 _ c7], .bool true]) (by simp [results, Try.results34, go_sem, p0, p1]) rfl (ChangedC.mk_ rfl rfl st.1 ((b1.setCell (p := ⟨w.heap.size + 1, 0, none⟩) (Nat.le_succ _) _).setCell (p := ⟨w.heap.size + 1, 1, none⟩) (Nat.le_succ _) _))
/- The map is looked up; the world stays. -/
/- Nothing is changed: the quarantine is made of what it was. -/
set_option linter.unusedSimpArgs false in
set_option maxRecDepth 100000 in
set_option maxHeartbeats 4000000 in
theorem implQuarantinePromote_C (y : QWay) (v : Value) (q : Qr) (t : Int) (w : World) (h : Quar w w.heap.size v q) (hf : FitQ q) (hy : IsPro q t y) :
    Calls Try.prog 31 #[v, .int .i64 t] w (ChangedC q y w) := by
  have hq0 := h
  obtain ⟨A, c, A2, c2, rfl, hm0, hmc, ha0, -⟩ := h
  obtain ⟨bq, hbq⟩ := bool_of' (QV q)
  obtain ⟨bt, hbt⟩ := bool_of' (TxnV t)
  have CV : Hid (∀ x, Quar x x.heap.size (qv A q.m.length c A2 q.rs.length c2) q → Calls Try.prog 29 #[.agg #[.slice A q.m.length c, .slice A2 q.rs.length c2]] x (Ret (.bool bq) x)) := fun x hx => implQuarantineValid_is bq _ q x hx hf hbq
  have CT : Hid (∀ x, Calls Try.prog 60 #[.int .i64 t] x (Same (.bool bt) x)) := fun x => txnQ_is bt t x hbt
  unfold qv
  go_enter Try.func31, Try.ntmps31
  obtain ⟨w1, hw1⟩ : ∃ w1, (w.alloc (.cells #[.slice A q.m.length c, .slice A2 q.rs.length c2] 26)).alloc (.cells #[.slice none 0 0, .slice none 0 0] 26) = w1 := ⟨_, rfl⟩
  have x0 := (BlkQ.new_ w 26 (.slice A q.m.length c) (.slice A2 q.rs.length c2)).alloc (.cells #[.slice none 0 0, .slice none 0 0] 26)
  have x1 := BlkQ.new_ (w.alloc (.cells #[.slice A q.m.length c, .slice A2 q.rs.length c2] 26)) 26 (.slice none 0 0) (.slice none 0 0)
  have b1 := ((Below.refl w.heap.size w).alloc (Nat.le_refl _) (.cells #[.slice A q.m.length c, .slice A2 q.rs.length c2] 26)).alloc (by simp) (.cells #[.slice none 0 0, .slice none 0 0] 26)
  rw [World.size_alloc] at x1
  rw [hw1] at x0 x1 b1
  have hq1 := hq0.on b1 b1.size
  have zz := b1.size
  obtain ⟨y0, y1, -⟩ := id x0.reads
  obtain ⟨r0, r1, rf⟩ := id x1.reads
  go_wp2_with fail
  refine (CV.out _ hq1).mono ?_
  rintro e w2 ⟨rfl, d2⟩
  replace zz := b1.size
  replace x0 := x0.later d2
  replace x1 := x1.later d2
  replace b1 := b1.trans ((d2).mono b1.size)
  replace hq1 := hq0.on b1 b1.size
  clear y0 y1 r0 r1 rf
  obtain ⟨y0, y1, -⟩ := id x0.reads
  obtain ⟨r0, r1, rf⟩ := id x1.reads
  cases bq with
  | false =>
    obtain rfl := pro_bad (fun e => by have := hbq.2 e.1; cases this) hy
    clear hbq hbt CV CT hw1
    go_wp2_with fail
    have st := (OwnQC.none_ w2 w.heap.size).stored x1
    obtain ⟨p0, p1, -⟩ := st.2.reads
    refine bodyPost_ret (v := .tuple #[.agg #[.slice none 0 0, .slice none 0 0], .bool false]) (by simp [results, Try.results31, go_sem, p0, p1]) rfl (ChangedC.mk_ rfl rfl st.1 ((b1.setCell (p := ⟨w.heap.size + 1, 0, none⟩) (Nat.le_succ _) _).setCell (p := ⟨w.heap.size + 1, 1, none⟩) (Nat.le_succ _) _))
  | true =>
    have HQ := hid (hbq.1 rfl)
    clear hbq CV
    go_wp2_with fail
    refine (CT.out _).mono ?_
    rintro e w3 ⟨rfl, rfl⟩
    cases bt with
    | false =>
      obtain rfl := pro_bad (fun e => by have := hbt.2 e.2; cases this) hy
      clear hbt CT hw1
      go_wp2_with fail
      have st := (OwnQC.none_ w2 w.heap.size).stored x1
      obtain ⟨p0, p1, -⟩ := st.2.reads
      refine bodyPost_ret (v := .tuple #[.agg #[.slice none 0 0, .slice none 0 0], .bool false]) (by simp [results, Try.results31, go_sem, p0, p1]) rfl (ChangedC.mk_ rfl rfl st.1 ((b1.setCell (p := ⟨w.heap.size + 1, 0, none⟩) (Nat.le_succ _) _).setCell (p := ⟨w.heap.size + 1, 1, none⟩) (Nat.le_succ _) _))
    | true =>
      have HT := hid (hbt.1 rfl)
      clear hbt CT hw1
      have HGQ := hid (GQ.of HQ.out.2.1)
      have HLS : Hid (lsA (gOf q.rs) 0 12 = q.rs) := lsA_all HQ.out.2.1 HGQ.out
      have HSM : Hid ((∀ o ∈ q.m, o.zs.length ≤ 1048576) ∧ q.m.length ≤ 1048576) := ⟨HQ.out.small.1, HQ.out.small.2.1⟩
      have CM := hid (areasByTxn_any A2 c2 q.rs _ ((ha0.below b1 (Nat.le_refl _)).more b1.size) (hid HQ.out.2.1) hf.2.2.1)
      go_wp2_with fail
      refine CM.out.mono ?_
      rintro e w3 ⟨b, rfl, M3, hb3, d3⟩
      have hbb : w.heap.size + 1 < b := Nat.lt_of_lt_of_le x1.lt hb3
      replace zz := b1.size
      replace x0 := x0.later d3
      replace x1 := x1.later d3
      replace b1 := b1.trans ((d3).mono b1.size)
      replace hq1 := hq0.on b1 b1.size
      clear y0 y1 r0 r1 rf
      obtain ⟨y0, y1, -⟩ := id x0.reads
      obtain ⟨r0, r1, rf⟩ := id x1.reads
      clear CM hb3
      obtain ⟨f, hq, hf'⟩ := id M3
      have hwt := wfT_txn HT.out
      rcases hf' t with ⟨e1, e2⟩ | ⟨os, A5, c5, e2, e1, e3, e4⟩
      · have hno : ¬ has q.rs t := gOf_none.1 e2
        obtain rfl := pro_no ⟨HQ.out, HT.out⟩ (fun ⟨z, h, _⟩ => hno h) hy
        clear e2 hno
        go_wp2_with (at_lookup; go_must (refine wpList_lookok_q rfl _ _ 78 23 rfl Try.underlying78 (zeroObs _) rfl hq t rfl hwt (.slice none 0 0) (by rw [e1]; rfl) false (by rw [e1]; rfl) ?_))
        have CQ := hid (quarantineOf_any A c b _ q.m _ w3 ((hm0.below b1 (Nat.le_refl _)).more b1.size) HSM.out M3 (hid HGQ.out.sm) _ HLS.out)
        clear M3
        clear hq hf'
        refine CQ.out.mono ?_
        rintro e w7 ⟨v4, col, rfl, o4, d7⟩
        replace zz := b1.size
        replace x0 := x0.later d7
        replace x1 := x1.later d7
        replace b1 := b1.trans ((d7).mono b1.size)
        replace hq1 := hq0.on b1 b1.size
        clear y0 y1 r0 r1 rf
        obtain ⟨y0, y1, -⟩ := id x0.reads
        obtain ⟨r0, r1, rf⟩ := id x1.reads
        have o5 := o4.base (B' := w.heap.size) zz
        obtain ⟨A6, c6, A7, c7, rfl, -⟩ := id o5
        unfold qv at *
        have st := o5.stored x1
        obtain ⟨p0, p1, -⟩ := st.2.reads
        go_wp2
        refine bodyPost_ret (v := .tuple #[.agg #[.slice A6 _ c6, .slice A7 _ c7], .bool false]) (by simp [results, Try.results31, go_sem, p0, p1]) rfl (ChangedC.mk_ rfl rfl st.1 ((b1.setCell (p := ⟨w.heap.size + 1, 0, none⟩) (Nat.le_succ _) _).setCell (p := ⟨w.heap.size + 1, 1, none⟩) (Nat.le_succ _) _))
      · have hhas : has q.rs t := Classical.byContradiction fun h => by rw [gOf_none.2 h] at e2; cases e2
        have HA : Hid (arOf q.rs t = os) := by
          show _ = _
          have := gOf_arOf q.rs t
          rw [e2] at this
          exact this.symm
        have HSO : Hid (storeB os = true) := ((HGQ.out t HT.out).2 os e2).1
        have CW := hid (storeObjects_any A A5 c c5 q.m os w3 ((hm0.below b1 (Nat.le_refl _)).more b1.size) hmc e4 (hid HQ.out.1) HSO)
        clear e2 e3 e4 hf'
        go_wp2_with (at_lookup; go_must (refine wpList_lookok_q rfl _ _ 78 23 rfl Try.underlying78 (zeroObs _) rfl hq t rfl hwt (.slice A5 os.length c5) (by rw [e1]; rfl) true (by rw [e1]; rfl) ?_))
        clear hq
        refine CW.out.mono ?_
        rintro e w4 ⟨A8, c8, zs, b6, rfl, hc8, hz8, HU, d6⟩
        have M4 := M3.later d6
        replace zz := b1.size
        replace x0 := x0.later d6
        replace x1 := x1.later d6
        replace b1 := b1.trans ((d6).mono b1.size)
        replace hq1 := hq0.on b1 b1.size
        clear y0 y1 r0 r1 rf
        obtain ⟨y0, y1, -⟩ := id x0.reads
        obtain ⟨r0, r1, rf⟩ := id x1.reads
        clear CW M3
        cases b6 with
        | false =>
          obtain rfl := pro_no ⟨HQ.out, HT.out⟩ (fun ⟨z, _, h2⟩ => HU.out.2.2 rfl ⟨z, by rw [HA.out] at h2; exact h2⟩) hy
          clear HU HA HSO hz8 hhas
          have CQ := hid (quarantineOf_any A c b _ q.m _ w4 ((hm0.below b1 (Nat.le_refl _)).more b1.size) HSM.out M4 (hid HGQ.out.sm) _ HLS.out)
          clear M4
          go_wp2_with fail
          refine CQ.out.mono ?_
          rintro e w7 ⟨v4, col, rfl, o4, d7⟩
          replace zz := b1.size
          replace x0 := x0.later d7
          replace x1 := x1.later d7
          replace b1 := b1.trans ((d7).mono b1.size)
          replace hq1 := hq0.on b1 b1.size
          clear y0 y1 r0 r1 rf
          obtain ⟨y0, y1, -⟩ := id x0.reads
          obtain ⟨r0, r1, rf⟩ := id x1.reads
          have o5 := o4.base (B' := w.heap.size) zz
          obtain ⟨A6, c6, A7, c7, rfl, -⟩ := id o5
          unfold qv at *
          have st := o5.stored x1
          obtain ⟨p0, p1, -⟩ := st.2.reads
          go_wp2
          refine bodyPost_ret (v := .tuple #[.agg #[.slice A6 _ c6, .slice A7 _ c7], .bool false]) (by simp [results, Try.results31, go_sem, p0, p1]) rfl (ChangedC.mk_ rfl rfl st.1 ((b1.setCell (p := ⟨w.heap.size + 1, 0, none⟩) (Nat.le_succ _) _).setCell (p := ⟨w.heap.size + 1, 1, none⟩) (Nat.le_succ _) _))
        | true =>
          obtain rfl := pro_yes ⟨HQ.out, HT.out⟩ hhas (by rw [HA.out]; exact HU.out.2.1 rfl) hy
          have HD : Hid (SmG (upd (gOf q.rs) t none) ∧ lsA (upd (gOf q.rs) t none) 0 12 = setA q.rs t [] ∧ (∀ o ∈ zs, o.zs.length ≤ 1048576) ∧ zs.length ≤ 1048576) := by
            have h1 := del_valid (t := t) HQ.out HQ.out.1
            have hg := HGQ.out.del_ (t := t) (rs' := setA q.rs t []) h1.2.1
            have hz := store_small HU.out.1
            exact ⟨hg.sm, lsA_all h1.1.2.1 hg, fun o ho => by have := (hz.1 o ho).1; omega, by omega⟩
          clear HU HA HSO hhas
          obtain ⟨f, hq, hf'⟩ := id M4
          go_wp2_with (at_delete; go_loud (refine wpList_delete_q rfl _ _ 78 23 rfl Try.underlying78 rfl hq t rfl hwt ?_; intro w5 m4 hq4 hg4; have M5 := AMap.drop_ hf' hq hq4 hg4; have hz9 : Objs w5 w5.heap.size A8 zs := (by obtain ⟨es, clock, hbk⟩ := hq.block; exact (hz8.reads (Reads.of_map hbk hg4)).more hg4.size); have x0' := x0.grown hg4 (fun e => by injection e with e; omega); have x1' := x1.grown hg4 (fun e => by injection e with e; omega); have b1' := b1.grown hg4 b1.size (fun j hj => by injection hj with hj; omega); have zz' := b1'.size; obtain ⟨y0', y1', -⟩ := id x0'.reads; obtain ⟨r0', r1', rf'⟩ := id x1'.reads))
          replace x0 := x0'
          replace x1 := x1'
          replace b1 := b1'
          replace zz := zz'
          replace hq1 := hq0.on b1 b1.size
          have CQ := hid (quarantineOf_any A8 c8 b m4 zs _ w5 hz9 HD.out.2.2 M5 (hid HD.out.1) _ HD.out.2.1)
          clear M4 M5 hq4 hg4 x0' x1' b1' zz' y0' y1' r0' r1' rf' hq hf' hz8 hz9
          refine CQ.out.mono ?_
          rintro e w7 ⟨v4, col, rfl, o4, d7⟩
          replace zz := b1.size
          replace x0 := x0.later d7
          replace x1 := x1.later d7
          replace b1 := b1.trans ((d7).mono b1.size)
          replace hq1 := hq0.on b1 b1.size
          clear y0 y1 r0 r1 rf
          obtain ⟨y0, y1, -⟩ := id x0.reads
          obtain ⟨r0, r1, rf⟩ := id x1.reads
          have o5 := o4.base (B' := w.heap.size) zz
          obtain ⟨A6, c6, A7, c7, rfl, -⟩ := id o5
          unfold qv at *
          have st := o5.stored x1
          obtain ⟨p0, p1, -⟩ := st.2.reads
          go_wp2
          refine bodyPost_ret (v := .tuple #[.agg #[.slice A6 _ c6, .slice A7 _ c7], .bool true]) (by simp [results, Try.results31, go_sem, p0, p1]) rfl (ChangedC.mk_ rfl rfl st.1 ((b1.setCell (p := ⟨w.heap.size + 1, 0, none⟩) (Nat.le_succ _) _).setCell (p := ⟨w.heap.size + 1, 1, none⟩) (Nat.le_succ _) _))
/- The map is looked up twice. -/
/- The objects os of the area and those of the list are put together; the outcome. -/
set_option linter.unusedSimpArgs false in
set_option maxRecDepth 100000 in
set_option maxHeartbeats 8000000 in
theorem implQuarantinePut_C (y : QWay) (v : Value) (q : Qr) (t : Int) (A3 : Option Addr) (c3 : Nat) (l : List Ob) (w : World) (h : Quar w w.heap.size v q) (hf : FitQ q) (hl0 : Objs w w.heap.size A3 l) (hfl : Fit l) (hll : l.length ≤ 1048576) (hy : IsPut q t l y) :
    Calls Try.prog 19 #[v, .int .i64 t, .slice A3 l.length c3] w (ChangedC q y w) := by
  have hq0 := h
  obtain ⟨A, c, A2, c2, rfl, hm0, hmc, ha0, -⟩ := h
  obtain ⟨bq, hbq⟩ := bool_of' (QV q)
  obtain ⟨bt, hbt⟩ := bool_of' (TxnV t)
  obtain ⟨bl, hbl⟩ := bool_of' (storeB l = true ∧ l ≠ [])
  have CV : Hid (∀ x, Quar x x.heap.size (qv A q.m.length c A2 q.rs.length c2) q → Calls Try.prog 29 #[.agg #[.slice A q.m.length c, .slice A2 q.rs.length c2]] x (Ret (.bool bq) x)) := fun x hx => implQuarantineValid_is bq _ q x hx hf hbq
  have CT : Hid (∀ x, Calls Try.prog 60 #[.int .i64 t] x (Same (.bool bt) x)) := fun x => txnQ_is bt t x hbt
  have CS : Hid (∀ x, Objs x x.heap.size A3 l → Calls Try.prog 61 #[.slice A3 l.length c3] x (Ret (.bool bl) x)) := fun x hx => areaObs_is bl A3 c3 l x hx hfl hll hbl
  unfold qv
  go_enter Try.func19, Try.ntmps19
  obtain ⟨w1, hw1⟩ : ∃ w1, (w.alloc (.cells #[.slice A q.m.length c, .slice A2 q.rs.length c2] 26)).alloc (.cells #[.slice none 0 0, .slice none 0 0] 26) = w1 := ⟨_, rfl⟩
  have x0 := (BlkQ.new_ w 26 (.slice A q.m.length c) (.slice A2 q.rs.length c2)).alloc (.cells #[.slice none 0 0, .slice none 0 0] 26)
  have x1 := BlkQ.new_ (w.alloc (.cells #[.slice A q.m.length c, .slice A2 q.rs.length c2] 26)) 26 (.slice none 0 0) (.slice none 0 0)
  have b1 := ((Below.refl w.heap.size w).alloc (Nat.le_refl _) (.cells #[.slice A q.m.length c, .slice A2 q.rs.length c2] 26)).alloc (by simp) (.cells #[.slice none 0 0, .slice none 0 0] 26)
  rw [World.size_alloc] at x1
  rw [hw1] at x0 x1 b1
  have hq1 := hq0.on b1 b1.size
  have zz := b1.size
  obtain ⟨y0, y1, -⟩ := id x0.reads
  obtain ⟨r0, r1, rf⟩ := id x1.reads
  go_wp2_with fail
  refine (CV.out _ hq1).mono ?_
  rintro e w2 ⟨rfl, d2⟩
  replace zz := b1.size
  replace x0 := x0.later d2
  replace x1 := x1.later d2
  replace b1 := b1.trans ((d2).mono b1.size)
  replace hq1 := hq0.on b1 b1.size
  clear y0 y1 r0 r1 rf
  obtain ⟨y0, y1, -⟩ := id x0.reads
  obtain ⟨r0, r1, rf⟩ := id x1.reads
  cases bq with
  | false =>
    obtain rfl := put_bad (fun e => by have := hbq.2 e.1; cases this) hy
    clear hbq hbt hbl CV CT CS hw1
    go_wp2_with fail
    have st := (OwnQC.none_ w2 w.heap.size).stored x1
    obtain ⟨p0, p1, -⟩ := st.2.reads
    refine bodyPost_ret (v := .tuple #[.agg #[.slice none 0 0, .slice none 0 0], .bool false]) (by simp [results, Try.results19, go_sem, p0, p1]) rfl (ChangedC.mk_ rfl rfl st.1 ((b1.setCell (p := ⟨w.heap.size + 1, 0, none⟩) (Nat.le_succ _) _).setCell (p := ⟨w.heap.size + 1, 1, none⟩) (Nat.le_succ _) _))
  | true =>
    have HQ := hid (hbq.1 rfl)
    clear hbq CV
    go_wp2_with fail
    refine (CT.out _).mono ?_
    rintro e w3 ⟨rfl, rfl⟩
    cases bt with
    | false =>
      obtain rfl := put_bad (fun e => by have := hbt.2 e.2.1; cases this) hy
      clear hbt hbl CT CS hw1
      go_wp2_with fail
      have st := (OwnQC.none_ w2 w.heap.size).stored x1
      obtain ⟨p0, p1, -⟩ := st.2.reads
      refine bodyPost_ret (v := .tuple #[.agg #[.slice none 0 0, .slice none 0 0], .bool false]) (by simp [results, Try.results19, go_sem, p0, p1]) rfl (ChangedC.mk_ rfl rfl st.1 ((b1.setCell (p := ⟨w.heap.size + 1, 0, none⟩) (Nat.le_succ _) _).setCell (p := ⟨w.heap.size + 1, 1, none⟩) (Nat.le_succ _) _))
    | true =>
      have HT := hid (hbt.1 rfl)
      clear hbt CT hw1
      go_wp2_with fail
      refine (CS.out _ ((hl0.below b1 (Nat.le_refl _)).more b1.size)).mono ?_
      rintro e w2 ⟨rfl, d3⟩
      replace zz := b1.size
      replace x0 := x0.later d3
      replace x1 := x1.later d3
      replace b1 := b1.trans ((d3).mono b1.size)
      replace hq1 := hq0.on b1 b1.size
      clear y0 y1 r0 r1 rf
      obtain ⟨y0, y1, -⟩ := id x0.reads
      obtain ⟨r0, r1, rf⟩ := id x1.reads
      cases bl with
      | false =>
        obtain rfl := put_bad (fun e => by have := hbl.2 ⟨e.2.2.1, e.2.2.2⟩; cases this) hy
        clear hbl CS
        go_wp2_with fail
        have st := (OwnQC.none_ w2 w.heap.size).stored x1
        obtain ⟨p0, p1, -⟩ := st.2.reads
        refine bodyPost_ret (v := .tuple #[.agg #[.slice none 0 0, .slice none 0 0], .bool false]) (by simp [results, Try.results19, go_sem, p0, p1]) rfl (ChangedC.mk_ rfl rfl st.1 ((b1.setCell (p := ⟨w.heap.size + 1, 0, none⟩) (Nat.le_succ _) _).setCell (p := ⟨w.heap.size + 1, 1, none⟩) (Nat.le_succ _) _))
      | true =>
        have HSL := hid (hbl.1 rfl).1
        have HVAL : Hid (QV q ∧ TxnV t ∧ storeB l = true ∧ l ≠ []) := ⟨HQ.out, HT.out, hbl.1 rfl⟩
        clear hbl CS
        have HGQ := hid (GQ.of HQ.out.2.1)
        have HLS : Hid (lsA (gOf q.rs) 0 12 = q.rs) := lsA_all HQ.out.2.1 HGQ.out
        have HSM : Hid ((∀ o ∈ q.m, o.zs.length ≤ 1048576) ∧ q.m.length ≤ 1048576) := ⟨HQ.out.small.1, HQ.out.small.2.1⟩
        have CM := hid (areasByTxn_any A2 c2 q.rs _ ((ha0.below b1 (Nat.le_refl _)).more b1.size) (hid HQ.out.2.1) hf.2.2.1)
        go_wp2_with fail
        refine CM.out.mono ?_
        rintro e w3 ⟨b, rfl, M3, hb3, d4⟩
        have hbb : w.heap.size + 1 < b := Nat.lt_of_lt_of_le x1.lt hb3
        replace zz := b1.size
        replace x0 := x0.later d4
        replace x1 := x1.later d4
        replace b1 := b1.trans ((d4).mono b1.size)
        replace hq1 := hq0.on b1 b1.size
        clear y0 y1 r0 r1 rf
        obtain ⟨y0, y1, -⟩ := id x0.reads
        obtain ⟨r0, r1, rf⟩ := id x1.reads
        clear CM hb3
        obtain ⟨f, hq, hf'⟩ := id M3
        have hwt := wfT_txn HT.out
        rcases hf' t with ⟨e1, e2⟩ | ⟨os, A5, c5, e2, e1, e3, e4⟩
        · have HN := hid (gOf_none.1 e2)
          have hlen := hq.len Try.underlying78
          clear e2 hf'
          by_cases hn : q.rs.length = 4
          · obtain rfl := put_no_way HVAL.out (fun ⟨x, z, h⟩ => by
              rcases h.2.2 with h | h
              · exact HN.out h
              · omega) hy
            have e0 : ((q.rs.length : Int) == 4) = true := by rw [beq_iff_eq]; omega
            clear hn HN
            go_wp2_with (first
              | (at_lookup; refine wpList_lookok_q rfl _ _ 78 23 rfl Try.underlying78 (zeroObs _) rfl hq t rfl hwt (.slice none 0 0) (by rw [e1]; rfl) false (by rw [e1]; rfl) ?_)
              | (at_lookup; refine wpList_look_q rfl _ _ 78 23 rfl Try.underlying78 (zeroObs _) rfl hq t rfl hwt (.slice none 0 0) (by rw [e1]; rfl) ?_))
            have CQ := hid (quarantineOf_any A c b _ q.m _ w3 ((hm0.below b1 (Nat.le_refl _)).more b1.size) HSM.out M3 (hid HGQ.out.sm) _ HLS.out)
            clear M3
            clear hq hlen
            refine CQ.out.mono ?_
            rintro e w7 ⟨v4, col, rfl, o4, d7⟩
            replace zz := b1.size
            replace x0 := x0.later d7
            replace x1 := x1.later d7
            replace b1 := b1.trans ((d7).mono b1.size)
            replace hq1 := hq0.on b1 b1.size
            clear y0 y1 r0 r1 rf
            obtain ⟨y0, y1, -⟩ := id x0.reads
            obtain ⟨r0, r1, rf⟩ := id x1.reads
            have o5 := o4.base (B' := w.heap.size) zz
            obtain ⟨A6, c6, A7, c7, rfl, -⟩ := id o5
            unfold qv at *
            have st := o5.stored x1
            obtain ⟨p0, p1, -⟩ := st.2.reads
            go_wp2
            refine bodyPost_ret (v := .tuple #[.agg #[.slice A6 _ c6, .slice A7 _ c7], .bool false]) (by simp [results, Try.results19, go_sem, p0, p1]) rfl (ChangedC.mk_ rfl rfl st.1 ((b1.setCell (p := ⟨w.heap.size + 1, 0, none⟩) (Nat.le_succ _) _).setCell (p := ⟨w.heap.size + 1, 1, none⟩) (Nat.le_succ _) _))
          · have e0 : ((q.rs.length : Int) == 4) = false := by rw [beq_eq_false_iff_ne]; omega
            have HB : Hid (has q.rs t ∨ q.rs.length < 4) := .inr (by have := HQ.out.2.2; omega)
            have HA : Hid (arOf q.rs t = []) := arOf_no HN.out
            have HSA : Hid (storeB ([] : List Ob) = true) := rfl
            have CW := hid (storeObjects_any none A3 0 c3 [] l w3 (.inl rfl) (Nat.le_refl _) ((hl0.below b1 (Nat.le_refl _)).more b1.size) HSA HSL)
            clear hn HN
            go_wp2_with (first
              | (at_lookup; refine wpList_lookok_q rfl _ _ 78 23 rfl Try.underlying78 (zeroObs _) rfl hq t rfl hwt (.slice none 0 0) (by rw [e1]; rfl) false (by rw [e1]; rfl) ?_)
              | (at_lookup; refine wpList_look_q rfl _ _ 78 23 rfl Try.underlying78 (zeroObs _) rfl hq t rfl hwt (.slice none 0 0) (by rw [e1]; rfl) ?_))
            clear hq hlen
            refine CW.out.mono ?_
            rintro e w4 ⟨A8, c8, xs, b5, rfl, hc8, hx8, HU, d6⟩
            have M4 := M3.later d6
            replace zz := b1.size
            replace x0 := x0.later d6
            replace x1 := x1.later d6
            replace b1 := b1.trans ((d6).mono b1.size)
            replace hq1 := hq0.on b1 b1.size
            clear y0 y1 r0 r1 rf
            obtain ⟨y0, y1, -⟩ := id x0.reads
            obtain ⟨r0, r1, rf⟩ := id x1.reads
            clear CW M3
            have HX := hid HU.out.1
            cases b5 with
            | false =>
              obtain rfl := put_no_way HVAL.out (fun ⟨x, z, h, _⟩ => HU.out.2.2 rfl ⟨x, by rw [HA.out] at h; exact h⟩) hy
              clear HU HA HSA hx8 HB HX
              have CQ := hid (quarantineOf_any A c b _ q.m _ w4 ((hm0.below b1 (Nat.le_refl _)).more b1.size) HSM.out M4 (hid HGQ.out.sm) _ HLS.out)
              clear M4
              go_wp2_with fail
              refine CQ.out.mono ?_
              rintro e w7 ⟨v4, col, rfl, o4, d7⟩
              replace zz := b1.size
              replace x0 := x0.later d7
              replace x1 := x1.later d7
              replace b1 := b1.trans ((d7).mono b1.size)
              replace hq1 := hq0.on b1 b1.size
              clear y0 y1 r0 r1 rf
              obtain ⟨y0, y1, -⟩ := id x0.reads
              obtain ⟨r0, r1, rf⟩ := id x1.reads
              have o5 := o4.base (B' := w.heap.size) zz
              obtain ⟨A6, c6, A7, c7, rfl, -⟩ := id o5
              unfold qv at *
              have st := o5.stored x1
              obtain ⟨p0, p1, -⟩ := st.2.reads
              go_wp2
              refine bodyPost_ret (v := .tuple #[.agg #[.slice A6 _ c6, .slice A7 _ c7], .bool false]) (by simp [results, Try.results19, go_sem, p0, p1]) rfl (ChangedC.mk_ rfl rfl st.1 ((b1.setCell (p := ⟨w.heap.size + 1, 0, none⟩) (Nat.le_succ _) _).setCell (p := ⟨w.heap.size + 1, 1, none⟩) (Nat.le_succ _) _))
            | true =>
              have HU1 := hid (HU.out.2.1 rfl)
              have CW2 := hid (storeObjects_any A A8 c c8 q.m xs w4 ((hm0.below b1 (Nat.le_refl _)).more b1.size) hmc hx8 (hid HQ.out.1) HX)
              clear HU
              go_wp2_with fail
              refine CW2.out.mono ?_
              rintro e w5 ⟨A9, c9, zs, b6, rfl, hc9, hz9, HV, d7⟩
              have M5 := M4.later d7
              have hx9 := (hx8.below d7 (Nat.le_refl _)).more d7.size
              replace zz := b1.size
              replace x0 := x0.later d7
              replace x1 := x1.later d7
              replace b1 := b1.trans ((d7).mono b1.size)
              replace hq1 := hq0.on b1 b1.size
              clear y0 y1 r0 r1 rf
              obtain ⟨y0, y1, -⟩ := id x0.reads
              obtain ⟨r0, r1, rf⟩ := id x1.reads
              clear CW2 M4 hx8 hz9 hc9
              cases b6 with
              | false =>
                have hno : ¬ ∃ x z, CanPut q t l x z := fun ⟨x, z, h, h', _⟩ => HV.out.2.2 rfl ⟨z, by
                  rw [HA.out] at h
                  rw [HU1.out.one h]
                  exact h'⟩
                obtain rfl := put_no_way HVAL.out hno hy
                clear HU1 HV HA HSA HB HX hno hx9
                have CQ := hid (quarantineOf_any A c b _ q.m _ w5 ((hm0.below b1 (Nat.le_refl _)).more b1.size) HSM.out M5 (hid HGQ.out.sm) _ HLS.out)
                clear M5
                go_wp2_with fail
                refine CQ.out.mono ?_
                rintro e w7 ⟨v4, col, rfl, o4, d7⟩
                replace zz := b1.size
                replace x0 := x0.later d7
                replace x1 := x1.later d7
                replace b1 := b1.trans ((d7).mono b1.size)
                replace hq1 := hq0.on b1 b1.size
                clear y0 y1 r0 r1 rf
                obtain ⟨y0, y1, -⟩ := id x0.reads
                obtain ⟨r0, r1, rf⟩ := id x1.reads
                have o5 := o4.base (B' := w.heap.size) zz
                obtain ⟨A6, c6, A7, c7, rfl, -⟩ := id o5
                unfold qv at *
                have st := o5.stored x1
                obtain ⟨p0, p1, -⟩ := st.2.reads
                go_wp2
                refine bodyPost_ret (v := .tuple #[.agg #[.slice A6 _ c6, .slice A7 _ c7], .bool false]) (by simp [results, Try.results19, go_sem, p0, p1]) rfl (ChangedC.mk_ rfl rfl st.1 ((b1.setCell (p := ⟨w.heap.size + 1, 0, none⟩) (Nat.le_succ _) _).setCell (p := ⟨w.heap.size + 1, 1, none⟩) (Nat.le_succ _) _))
              | true =>
                have HV1 := hid (HV.out.2.1 rfl)
                have hcan : CanPut q t l xs zs := ⟨by rw [HA.out]; exact HU1.out, HV1.out, HB.out⟩
                obtain rfl := put_yes_way HVAL.out hcan hy
                have HD : Hid (SmG (upd (gOf q.rs) t (some xs)) ∧ lsA (upd (gOf q.rs) t (some xs)) 0 12 = setA q.rs t xs) := by
                  have h1 := put_valid HQ.out HT.out HVAL.out.2.2.2 hcan
                  have hg := HGQ.out.set_ (t := t) (x := xs) (rs' := setA q.rs t xs) ⟨HX.out, uni_ne HU1.out HVAL.out.2.2.2⟩ h1.2.1
                  exact ⟨hg.sm, lsA_all h1.1.2.1 hg⟩
                clear HU1 HV HV1 HA HSA HB HX hcan
                obtain ⟨f, hq, hf'⟩ := id M5
                go_wp2_with (at_mapUpdate; go_loud (refine wpList_update_q rfl _ _ _ 78 23 rfl Try.underlying78 rfl hq (by unfold maxLen; have := HQ.out.2.2; omega) t _ rfl rfl hwt ?_; intro w6 hq4 hg4; have M6 := AMap.put_ hf' hq hx9 hc8 hq4 hg4; have x0' := x0.grown hg4 (fun e => by injection e with e; omega); have x1' := x1.grown hg4 (fun e => by injection e with e; omega); have b1' := b1.grown hg4 b1.size (fun j hj => by injection hj with hj; omega); have zz' := b1'.size; obtain ⟨y0', y1', -⟩ := id x0'.reads; obtain ⟨r0', r1', rf'⟩ := id x1'.reads))
                replace x0 := x0'
                replace x1 := x1'
                replace b1 := b1'
                replace zz := zz'
                replace hq1 := hq0.on b1 b1.size
                have CQ := hid (quarantineOf_any A c b _ q.m _ w6 ((hm0.below b1 (Nat.le_refl _)).more b1.size) HSM.out M6 (hid HD.out.1) _ HD.out.2)
                clear M5 M6 hq4 hg4 x0' x1' b1' zz' y0' y1' r0' r1' rf' hq hf' hx9
                refine CQ.out.mono ?_
                rintro e w7 ⟨v4, col, rfl, o4, d7⟩
                replace zz := b1.size
                replace x0 := x0.later d7
                replace x1 := x1.later d7
                replace b1 := b1.trans ((d7).mono b1.size)
                replace hq1 := hq0.on b1 b1.size
                clear y0 y1 r0 r1 rf
                obtain ⟨y0, y1, -⟩ := id x0.reads
                obtain ⟨r0, r1, rf⟩ := id x1.reads
                have o5 := o4.base (B' := w.heap.size) zz
                obtain ⟨A6, c6, A7, c7, rfl, -⟩ := id o5
                unfold qv at *
                have st := o5.stored x1
                obtain ⟨p0, p1, -⟩ := st.2.reads
                go_wp2
                refine bodyPost_ret (v := .tuple #[.agg #[.slice A6 _ c6, .slice A7 _ c7], .bool true]) (by simp [results, Try.results19, go_sem, p0, p1]) rfl (ChangedC.mk_ rfl rfl st.1 ((b1.setCell (p := ⟨w.heap.size + 1, 0, none⟩) (Nat.le_succ _) _).setCell (p := ⟨w.heap.size + 1, 1, none⟩) (Nat.le_succ _) _))
        · have hhas : has q.rs t := Classical.byContradiction fun h => by rw [gOf_none.2 h] at e2; cases e2
          have HB : Hid (has q.rs t ∨ q.rs.length < 4) := .inl hhas
          have HA : Hid (arOf q.rs t = os) := by
            show _ = _
            have := gOf_arOf q.rs t
            rw [e2] at this
            exact this.symm
          have HSA : Hid (storeB os = true) := ((HGQ.out t HT.out).2 os e2).1
          have CW := hid (storeObjects_any A5 A3 c5 c3 os l w3 e4 e3 ((hl0.below b1 (Nat.le_refl _)).more b1.size) HSA HSL)
          clear e2 e3 e4 hf' hhas
          go_wp2_with (first
            | (at_lookup; refine wpList_lookok_q rfl _ _ 78 23 rfl Try.underlying78 (zeroObs _) rfl hq t rfl hwt (.slice A5 os.length c5) (by rw [e1]; rfl) true (by rw [e1]; rfl) ?_)
            | (at_lookup; refine wpList_look_q rfl _ _ 78 23 rfl Try.underlying78 (zeroObs _) rfl hq t rfl hwt (.slice A5 os.length c5) (by rw [e1]; rfl) ?_))
          clear hq
          refine CW.out.mono ?_
          rintro e w4 ⟨A8, c8, xs, b5, rfl, hc8, hx8, HU, d6⟩
          have M4 := M3.later d6
          replace zz := b1.size
          replace x0 := x0.later d6
          replace x1 := x1.later d6
          replace b1 := b1.trans ((d6).mono b1.size)
          replace hq1 := hq0.on b1 b1.size
          clear y0 y1 r0 r1 rf
          obtain ⟨y0, y1, -⟩ := id x0.reads
          obtain ⟨r0, r1, rf⟩ := id x1.reads
          clear CW M3
          have HX := hid HU.out.1
          cases b5 with
          | false =>
            obtain rfl := put_no_way HVAL.out (fun ⟨x, z, h, _⟩ => HU.out.2.2 rfl ⟨x, by rw [HA.out] at h; exact h⟩) hy
            clear HU HA HSA hx8 HB HX
            have CQ := hid (quarantineOf_any A c b _ q.m _ w4 ((hm0.below b1 (Nat.le_refl _)).more b1.size) HSM.out M4 (hid HGQ.out.sm) _ HLS.out)
            clear M4
            go_wp2_with fail
            refine CQ.out.mono ?_
            rintro e w7 ⟨v4, col, rfl, o4, d7⟩
            replace zz := b1.size
            replace x0 := x0.later d7
            replace x1 := x1.later d7
            replace b1 := b1.trans ((d7).mono b1.size)
            replace hq1 := hq0.on b1 b1.size
            clear y0 y1 r0 r1 rf
            obtain ⟨y0, y1, -⟩ := id x0.reads
            obtain ⟨r0, r1, rf⟩ := id x1.reads
            have o5 := o4.base (B' := w.heap.size) zz
            obtain ⟨A6, c6, A7, c7, rfl, -⟩ := id o5
            unfold qv at *
            have st := o5.stored x1
            obtain ⟨p0, p1, -⟩ := st.2.reads
            go_wp2
            refine bodyPost_ret (v := .tuple #[.agg #[.slice A6 _ c6, .slice A7 _ c7], .bool false]) (by simp [results, Try.results19, go_sem, p0, p1]) rfl (ChangedC.mk_ rfl rfl st.1 ((b1.setCell (p := ⟨w.heap.size + 1, 0, none⟩) (Nat.le_succ _) _).setCell (p := ⟨w.heap.size + 1, 1, none⟩) (Nat.le_succ _) _))
          | true =>
            have HU1 := hid (HU.out.2.1 rfl)
            have CW2 := hid (storeObjects_any A A8 c c8 q.m xs w4 ((hm0.below b1 (Nat.le_refl _)).more b1.size) hmc hx8 (hid HQ.out.1) HX)
            clear HU
            go_wp2_with fail
            refine CW2.out.mono ?_
            rintro e w5 ⟨A9, c9, zs, b6, rfl, hc9, hz9, HV, d7⟩
            have M5 := M4.later d7
            have hx9 := (hx8.below d7 (Nat.le_refl _)).more d7.size
            replace zz := b1.size
            replace x0 := x0.later d7
            replace x1 := x1.later d7
            replace b1 := b1.trans ((d7).mono b1.size)
            replace hq1 := hq0.on b1 b1.size
            clear y0 y1 r0 r1 rf
            obtain ⟨y0, y1, -⟩ := id x0.reads
            obtain ⟨r0, r1, rf⟩ := id x1.reads
            clear CW2 M4 hx8 hz9 hc9
            cases b6 with
            | false =>
              have hno : ¬ ∃ x z, CanPut q t l x z := fun ⟨x, z, h, h', _⟩ => HV.out.2.2 rfl ⟨z, by
                rw [HA.out] at h
                rw [HU1.out.one h]
                exact h'⟩
              obtain rfl := put_no_way HVAL.out hno hy
              clear HU1 HV HA HSA HB HX hno hx9
              have CQ := hid (quarantineOf_any A c b _ q.m _ w5 ((hm0.below b1 (Nat.le_refl _)).more b1.size) HSM.out M5 (hid HGQ.out.sm) _ HLS.out)
              clear M5
              go_wp2_with fail
              refine CQ.out.mono ?_
              rintro e w7 ⟨v4, col, rfl, o4, d7⟩
              replace zz := b1.size
              replace x0 := x0.later d7
              replace x1 := x1.later d7
              replace b1 := b1.trans ((d7).mono b1.size)
              replace hq1 := hq0.on b1 b1.size
              clear y0 y1 r0 r1 rf
              obtain ⟨y0, y1, -⟩ := id x0.reads
              obtain ⟨r0, r1, rf⟩ := id x1.reads
              have o5 := o4.base (B' := w.heap.size) zz
              obtain ⟨A6, c6, A7, c7, rfl, -⟩ := id o5
              unfold qv at *
              have st := o5.stored x1
              obtain ⟨p0, p1, -⟩ := st.2.reads
              go_wp2
              refine bodyPost_ret (v := .tuple #[.agg #[.slice A6 _ c6, .slice A7 _ c7], .bool false]) (by simp [results, Try.results19, go_sem, p0, p1]) rfl (ChangedC.mk_ rfl rfl st.1 ((b1.setCell (p := ⟨w.heap.size + 1, 0, none⟩) (Nat.le_succ _) _).setCell (p := ⟨w.heap.size + 1, 1, none⟩) (Nat.le_succ _) _))
            | true =>
              have HV1 := hid (HV.out.2.1 rfl)
              have hcan : CanPut q t l xs zs := ⟨by rw [HA.out]; exact HU1.out, HV1.out, HB.out⟩
              obtain rfl := put_yes_way HVAL.out hcan hy
              have HD : Hid (SmG (upd (gOf q.rs) t (some xs)) ∧ lsA (upd (gOf q.rs) t (some xs)) 0 12 = setA q.rs t xs) := by
                have h1 := put_valid HQ.out HT.out HVAL.out.2.2.2 hcan
                have hg := HGQ.out.set_ (t := t) (x := xs) (rs' := setA q.rs t xs) ⟨HX.out, uni_ne HU1.out HVAL.out.2.2.2⟩ h1.2.1
                exact ⟨hg.sm, lsA_all h1.1.2.1 hg⟩
              clear HU1 HV HV1 HA HSA HB HX hcan
              obtain ⟨f, hq, hf'⟩ := id M5
              go_wp2_with (at_mapUpdate; go_loud (refine wpList_update_q rfl _ _ _ 78 23 rfl Try.underlying78 rfl hq (by unfold maxLen; have := HQ.out.2.2; omega) t _ rfl rfl hwt ?_; intro w6 hq4 hg4; have M6 := AMap.put_ hf' hq hx9 hc8 hq4 hg4; have x0' := x0.grown hg4 (fun e => by injection e with e; omega); have x1' := x1.grown hg4 (fun e => by injection e with e; omega); have b1' := b1.grown hg4 b1.size (fun j hj => by injection hj with hj; omega); have zz' := b1'.size; obtain ⟨y0', y1', -⟩ := id x0'.reads; obtain ⟨r0', r1', rf'⟩ := id x1'.reads))
              replace x0 := x0'
              replace x1 := x1'
              replace b1 := b1'
              replace zz := zz'
              replace hq1 := hq0.on b1 b1.size
              have CQ := hid (quarantineOf_any A c b _ q.m _ w6 ((hm0.below b1 (Nat.le_refl _)).more b1.size) HSM.out M6 (hid HD.out.1) _ HD.out.2)
              clear M5 M6 hq4 hg4 x0' x1' b1' zz' y0' y1' r0' r1' rf' hq hf' hx9
              refine CQ.out.mono ?_
              rintro e w7 ⟨v4, col, rfl, o4, d7⟩
              replace zz := b1.size
              replace x0 := x0.later d7
              replace x1 := x1.later d7
              replace b1 := b1.trans ((d7).mono b1.size)
              replace hq1 := hq0.on b1 b1.size
              clear y0 y1 r0 r1 rf
              obtain ⟨y0, y1, -⟩ := id x0.reads
              obtain ⟨r0, r1, rf⟩ := id x1.reads
              have o5 := o4.base (B' := w.heap.size) zz
              obtain ⟨A6, c6, A7, c7, rfl, -⟩ := id o5
              unfold qv at *
              have st := o5.stored x1
              obtain ⟨p0, p1, -⟩ := st.2.reads
              go_wp2
              refine bodyPost_ret (v := .tuple #[.agg #[.slice A6 _ c6, .slice A7 _ c7], .bool true]) (by simp [results, Try.results19, go_sem, p0, p1]) rfl (ChangedC.mk_ rfl rfl st.1 ((b1.setCell (p := ⟨w.heap.size + 1, 0, none⟩) (Nat.le_succ _) _).setCell (p := ⟨w.heap.size + 1, 1, none⟩) (Nat.le_succ _) _))
theorem implQuarantineDiscard_is (y : QWay) (v : Value) (q : Qr) (t : Int) (w : World) (h : Quar w w.heap.size v q) (hf : FitQ q) (hy : IsDis q t y) :
    Calls Try.prog 34 #[v, .int .i64 t] w (Changed q y w) := (implQuarantineDiscard_C y v q t w h hf hy).mono fun _ _ hc => hc.plain
theorem implQuarantinePromote_is (y : QWay) (v : Value) (q : Qr) (t : Int) (w : World) (h : Quar w w.heap.size v q) (hf : FitQ q) (hy : IsPro q t y) :
    Calls Try.prog 31 #[v, .int .i64 t] w (Changed q y w) := (implQuarantinePromote_C y v q t w h hf hy).mono fun _ _ hc => hc.plain
theorem implQuarantinePut_is (y : QWay) (v : Value) (q : Qr) (t : Int) (A3 : Option Addr) (c3 : Nat) (l : List Ob) (w : World) (h : Quar w w.heap.size v q) (hf : FitQ q) (hl0 : Objs w w.heap.size A3 l) (hfl : Fit l) (hll : l.length ≤ 1048576) (hy : IsPut q t l y) :
    Calls Try.prog 19 #[v, .int .i64 t, .slice A3 l.length c3] w (Changed q y w) := (implQuarantinePut_C y v q t A3 c3 l w h hf hl0 hfl hll hy).mono fun _ _ hc => hc.plain
end Go.Proofs.Ytblknnifccmpkaa
