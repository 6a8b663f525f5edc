/-
  Walks: objects put into a quarantine, promoted and discarded, by the model.
  Walks: what is discarded and promoted, by the model.
-/
import Derived.Test.YtblknnifccmpkaaQuarG
import Derived.Test.YtblknnifccmpkaaQuarV
namespace Go.Proofs.Ytblknnifccmpkaa
open Go.RowKit Wo Pu Qu

/-- What a change of a quarantine answers. -/
def Changed (q : Qr) (y : QWay) (w : World) (e : Ending) (w' : World) : Prop := NewQB (y.q q) y.ok w e w'
theorem Changed.mk_ {q q' : Qr} {y : QWay} {b : Bool} {w w' : World} {v : Value} (hq : y.q q = q') (hb : y.ok = b) (ho : OwnQ w' w.heap.size v q') (hbw : Below w.heap.size w w') : Changed q y w (.returned (.tuple #[v, .bool b])) w' := by
  unfold Changed
  rw [hq, hb]
  exact ⟨v, rfl, ho, hbw⟩
end Go.Proofs.Ytblknnifccmpkaa
namespace Go.Proofs.Ytblknnifccmpkaa
open Go.RowKit Wo Pu Qu

theorem dis_bad {q : Qr} {t : Int} {y : QWay} (h : ¬ (QV q ∧ TxnV t)) (hy : IsDis q t y) : y = .bad := by
  cases y with
  | bad => rfl
  | no => exact absurd hy.1 h
  | yes q' => exact absurd hy.1 h
theorem dis_no {q : Qr} {t : Int} {y : QWay} (h : QV q ∧ TxnV t) (hn : ¬ has q.rs t) (hy : IsDis q t y) : y = .no := by
  cases y with
  | bad => exact absurd h hy
  | no => rfl
  | yes q' => exact absurd hy.2.1 hn
theorem dis_yes {q : Qr} {t : Int} {y : QWay} (h : QV q ∧ TxnV t) (hn : has q.rs t) (hy : IsDis q t y) : y = .yes ⟨q.m, setA q.rs t []⟩ := by
  cases y with
  | bad => exact absurd h hy
  | no => exact absurd hn hy.2
  | yes q' => rw [hy.2.2]
/-- A quarantine is stored into the result and read again. -/
theorem OwnQ.stored {w : World} {B g : Nat} {A A2 : Option Addr} {n c n2 c2 : Nat} {q : Qr} {u0 u1 : Value} (h : OwnQ w B (.agg #[.slice A n c, .slice A2 n2 c2]) q) (hg : BlkQ w g 26 u0 u1) :
    OwnQ ((w.setCell ⟨g, 0, none⟩ (.slice A n c)).setCell ⟨g, 1, none⟩ (.slice A2 n2 c2)) B (.agg #[.slice A n c, .slice A2 n2 c2]) q ∧ BlkQ ((w.setCell ⟨g, 0, none⟩ (.slice A n c)).setCell ⟨g, 1, none⟩ (.slice A2 n2 c2)) g 26 (.slice A n c) (.slice A2 n2 c2) := by
  obtain ⟨A', c', A2', c2', e, h1, h2, h3, h4⟩ := h
  refine ⟨⟨A', c', A2', c2', e, (h1.farQ hg 0 _).farQ (hg.set0 _) 1 _, h2, (h3.farQ hg 0 _).farQ (hg.set0 _) 1 _, h4⟩, (hg.set0 _).set1 _⟩
set_option maxRecDepth 100000 in
set_option maxHeartbeats 4000000 in
theorem specQuarantineDiscard_is (y : QWay) (v : Value) (q : Qr) (t : Int) (w : World) (h : Quar w w.heap.size v q) (hf : FitQ q) (hy : IsDis q t y) :
    Calls Try.prog 35 #[v, .int .i64 t] w (Changed q y w) := by
  have hq0 := h
  obtain ⟨A, c, A2, c2, rfl, -, -, -, -⟩ := h
  obtain ⟨bq, hbq⟩ := bool_of' (QV q)
  obtain ⟨bt, hbt⟩ := bool_of' (TxnV t)
  obtain ⟨r, hr⟩ := idx_ex q.rs t
  have CV : Hid (∀ x, Quar x x.heap.size (qv A q.m.length c A2 q.rs.length c2) q → Calls Try.prog 22 #[.agg #[.slice A q.m.length c, .slice A2 q.rs.length c2]] x (Ret (.bool bq) x)) := fun x hx => specQuarantineValid_is bq _ q x hx hf hbq
  have CT : Hid (∀ x, Calls Try.prog 65 #[.int .i64 t] x (Same (.bool bt) x)) := fun x => l12Txn_is bt t x hbt
  unfold qv
  go_enter Try.func35, Try.ntmps35
  obtain ⟨w1, hw1⟩ : ∃ w1, (w.alloc (.cells #[.slice A q.m.length c, .slice A2 q.rs.length c2] 26)).alloc (.cells #[.slice none 0 0, .slice none 0 0] 26) = w1 := ⟨_, rfl⟩
  have x0 := (BlkQ.new_ w 26 (.slice A q.m.length c) (.slice A2 q.rs.length c2)).alloc (.cells #[.slice none 0 0, .slice none 0 0] 26)
  have x1 := BlkQ.new_ (w.alloc (.cells #[.slice A q.m.length c, .slice A2 q.rs.length c2] 26)) 26 (.slice none 0 0) (.slice none 0 0)
  have b1 := ((Below.refl w.heap.size w).alloc (Nat.le_refl _) (.cells #[.slice A q.m.length c, .slice A2 q.rs.length c2] 26)).alloc (by simp) (.cells #[.slice none 0 0, .slice none 0 0] 26)
  rw [World.size_alloc] at x1
  rw [hw1] at x0 x1 b1
  have hq1 := hq0.on b1 b1.size
  have zz := b1.size
  obtain ⟨y0, y1, -⟩ := id x0.reads
  obtain ⟨r0, r1, rf⟩ := id x1.reads
  go_wp2_with fail
  refine (CV.out _ hq1).mono ?_
  rintro e w2 ⟨rfl, d2⟩
  replace zz := b1.size
  replace x0 := x0.later d2
  replace x1 := x1.later d2
  replace b1 := b1.trans ((d2).mono b1.size)
  replace hq1 := hq0.on b1 b1.size
  clear y0 y1 r0 r1 rf
  obtain ⟨y0, y1, -⟩ := id x0.reads
  obtain ⟨r0, r1, rf⟩ := id x1.reads
  cases bq with
  | false =>
    obtain rfl := dis_bad (fun e => by have := hbq.2 e.1; cases this) hy
    clear hbq hbt hr CV CT hw1
    go_wp2_with fail
    have st := (OwnQ.none_ w2 w.heap.size).stored x1
    obtain ⟨p0, p1, -⟩ := st.2.reads
    refine bodyPost_ret (v := .tuple #[.agg #[.slice none 0 0, .slice none 0 0], .bool false]) (by simp [results, Try.results35, go_sem, p0, p1]) rfl (Changed.mk_ rfl rfl st.1 ((b1.setCell (p := ⟨w.heap.size + 1, 0, none⟩) (Nat.le_succ _) _).setCell (p := ⟨w.heap.size + 1, 1, none⟩) (Nat.le_succ _) _))
  | true =>
    have HQ := hid (hbq.1 rfl)
    clear hbq CV
    go_wp2_with fail
    refine (CT.out _).mono ?_
    rintro e w3 ⟨rfl, rfl⟩
    cases bt with
    | false =>
      obtain rfl := dis_bad (fun e => by have := hbt.2 e.2; cases this) hy
      clear hbt hr CT hw1
      go_wp2_with fail
      have st := (OwnQ.none_ w2 w.heap.size).stored x1
      obtain ⟨p0, p1, -⟩ := st.2.reads
      refine bodyPost_ret (v := .tuple #[.agg #[.slice none 0 0, .slice none 0 0], .bool false]) (by simp [results, Try.results35, go_sem, p0, p1]) rfl (Changed.mk_ rfl rfl st.1 ((b1.setCell (p := ⟨w.heap.size + 1, 0, none⟩) (Nat.le_succ _) _).setCell (p := ⟨w.heap.size + 1, 1, none⟩) (Nat.le_succ _) _))
    | true =>
      have HT := hid (hbt.1 rfl)
      have CF : Hid (∀ x, Quar x x.heap.size (qv A q.m.length c A2 q.rs.length c2) q → Calls Try.prog 66 #[.agg #[.slice A q.m.length c, .slice A2 q.rs.length c2], .int .i64 t] x (Ret (.int .i64 r) x)) := fun x hx => l13Find_is r _ q t x hx hf.2.2.1 hr
      clear hbt CT hw1
      go_wp2_with fail
      refine (CF.out _ hq1).mono ?_
      rintro e w3 ⟨rfl, d3⟩
      replace zz := b1.size
      replace x0 := x0.later d3
      replace x1 := x1.later d3
      replace b1 := b1.trans ((d3).mono b1.size)
      replace hq1 := hq0.on b1 b1.size
      clear y0 y1 r0 r1 rf
      obtain ⟨y0, y1, -⟩ := id x0.reads
      obtain ⟨r0, r1, rf⟩ := id x1.reads
      rcases hr.has with ⟨h1, h2⟩ | ⟨h1, h1', h2⟩
      · obtain rfl := dis_no ⟨HQ.out, HT.out⟩ h2 hy
        have e0 : decide (r < 0) = true := decide_eq_true (by omega)
        clear CF hr h1 h2
        go_wp2_with fail
        refine (l13Copy_any _ q _ hq1 HQ.out.small).mono ?_
        rintro e w4 ⟨v4, rfl, o4, d4⟩
        replace zz := b1.size
        replace x0 := x0.later d4
        replace x1 := x1.later d4
        replace b1 := b1.trans ((d4).mono b1.size)
        replace hq1 := hq0.on b1 b1.size
        clear y0 y1 r0 r1 rf
        obtain ⟨y0, y1, -⟩ := id x0.reads
        obtain ⟨r0, r1, rf⟩ := id x1.reads
        have o5 := o4.base (B' := w.heap.size) zz
        obtain ⟨A6, c6, A7, c7, rfl, -⟩ := id o5
        unfold qv at *
        have st := o5.stored x1
        obtain ⟨p0, p1, -⟩ := st.2.reads
        go_wp2
        refine bodyPost_ret (v := .tuple #[.agg #[.slice A6 _ c6, .slice A7 _ c7], .bool false]) (by simp [results, Try.results35, go_sem, p0, p1]) rfl (Changed.mk_ rfl rfl st.1 ((b1.setCell (p := ⟨w.heap.size + 1, 0, none⟩) (Nat.le_succ _) _).setCell (p := ⟨w.heap.size + 1, 1, none⟩) (Nat.le_succ _) _))
      · obtain rfl := dis_yes ⟨HQ.out, HT.out⟩ h2 hy
        have e0 : decide (r < 0) = false := decide_eq_false (by omega)
        have HN := hid h2
        clear CF hr h1 h1' h2
        have al := (Below.refl w3.heap.size w3).alloc (Nat.le_refl _) (.cells #[] 38)
        have hq2 := hq0.on (b1.alloc b1.size (.cells #[] 38)) (b1.alloc b1.size (.cells #[] 38)).size
        have CL := hid (l13Set_any (qv A q.m.length c A2 q.rs.length c2) q t (some ⟨w3.heap.size, 0, none⟩) 0 [] _ hq2 HQ.out.small (.inl rfl) ⟨(fun o ho => by cases ho), Nat.zero_le _⟩)
        go_wp2_with fail
        refine CL.out.mono ?_
        rintro e w4 ⟨v4, rfl, o4, d4'⟩
        have d4 := al.trans (d4'.mono (B' := w3.heap.size) (by simp))
        replace o4 := o4.base (B' := w3.heap.size) (by simp)
        clear d4' al hq2 CL
        replace zz := b1.size
        replace x0 := x0.later d4
        replace x1 := x1.later d4
        replace b1 := b1.trans ((d4).mono b1.size)
        replace hq1 := hq0.on b1 b1.size
        clear y0 y1 r0 r1 rf
        obtain ⟨y0, y1, -⟩ := id x0.reads
        obtain ⟨r0, r1, rf⟩ := id x1.reads
        have o5 := o4.base (B' := w.heap.size) zz
        obtain ⟨A6, c6, A7, c7, rfl, -⟩ := id o5
        unfold qv at *
        have st := o5.stored x1
        obtain ⟨p0, p1, -⟩ := st.2.reads
        go_wp2
        refine bodyPost_ret (v := .tuple #[.agg #[.slice A6 _ c6, .slice A7 _ c7], .bool true]) (by simp [results, Try.results35, go_sem, p0, p1]) rfl (Changed.mk_ rfl rfl st.1 ((b1.setCell (p := ⟨w.heap.size + 1, 0, none⟩) (Nat.le_succ _) _).setCell (p := ⟨w.heap.size + 1, 1, none⟩) (Nat.le_succ _) _))
end Go.Proofs.Ytblknnifccmpkaa
