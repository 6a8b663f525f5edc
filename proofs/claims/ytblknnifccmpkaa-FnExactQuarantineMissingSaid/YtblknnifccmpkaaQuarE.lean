/-
  Walks: what is promoted, by the model.
-/
import Derived.Test.YtblknnifccmpkaaG9C
import Derived.Deep.RegionHeld3
namespace Go.Proofs.Ytblknnifccmpkaa
open Go.RowKit Wo Pu Qu

theorem pro_bad {q : Qr} {t : Int} {y : QWay} (h : ¬ (QV q ∧ TxnV t)) (hy : IsPro q t y) : y = .bad := by
  cases y with
  | bad => rfl
  | no => exact absurd hy.1 h
  | yes q' => exact absurd hy.1 h
theorem pro_no {q : Qr} {t : Int} {y : QWay} (h : QV q ∧ TxnV t) (hn : ¬ ∃ z, has q.rs t ∧ Uni q.m (arOf q.rs t) z) (hy : IsPro q t y) : y = .no := by
  cases y with
  | bad => exact absurd h hy
  | no => rfl
  | yes q' =>
    obtain ⟨z, h1, h2, _⟩ := hy.2
    exact absurd ⟨z, h1, h2⟩ hn
theorem pro_yes {q : Qr} {t : Int} {y : QWay} {z : List Ob} (h : QV q ∧ TxnV t) (hh : has q.rs t) (hz : Uni q.m (arOf q.rs t) z) (hy : IsPro q t y) : y = .yes ⟨z, setA q.rs t []⟩ := by
  cases y with
  | bad => exact absurd h hy
  | no => exact absurd ⟨z, hh, hz⟩ hy.2
  | yes q' =>
    obtain ⟨z', h1, h2, h3⟩ := hy.2
    rw [h3, hz.one h2]
set_option maxRecDepth 100000 in
set_option maxHeartbeats 4000000 in
theorem specQuarantinePromote_is (y : QWay) (v : Value) (q : Qr) (t : Int) (w : World) (h : Quar w w.heap.size v q) (hf : FitQ q) (hy : IsPro q t y) :
    Calls Try.prog 32 #[v, .int .i64 t] w (Changed q y w) := by
  have hq0 := h
  obtain ⟨A, c, A2, c2, rfl, hm0, -, ha0, -⟩ := h
  obtain ⟨bq, hbq⟩ := bool_of' (QV q)
  obtain ⟨bt, hbt⟩ := bool_of' (TxnV t)
  obtain ⟨r, hr⟩ := idx_ex q.rs t
  have CV : Hid (∀ x, Quar x x.heap.size (qv A q.m.length c A2 q.rs.length c2) q → Calls Try.prog 22 #[.agg #[.slice A q.m.length c, .slice A2 q.rs.length c2]] x (Ret (.bool bq) x)) := fun x hx => specQuarantineValid_is bq _ q x hx hf hbq
  have CT : Hid (∀ x, Calls Try.prog 65 #[.int .i64 t] x (Same (.bool bt) x)) := fun x => l12Txn_is bt t x hbt
  unfold qv
  go_enter Try.func32, Try.ntmps32
  obtain ⟨w1, hw1⟩ : ∃ w1, (w.alloc (.cells #[.slice A q.m.length c, .slice A2 q.rs.length c2] 26)).alloc (.cells #[.slice none 0 0, .slice none 0 0] 26) = w1 := ⟨_, rfl⟩
  have x0 := (BlkQ.new_ w 26 (.slice A q.m.length c) (.slice A2 q.rs.length c2)).alloc (.cells #[.slice none 0 0, .slice none 0 0] 26)
  have x1 := BlkQ.new_ (w.alloc (.cells #[.slice A q.m.length c, .slice A2 q.rs.length c2] 26)) 26 (.slice none 0 0) (.slice none 0 0)
  have b1 := ((Below.refl w.heap.size w).alloc (Nat.le_refl _) (.cells #[.slice A q.m.length c, .slice A2 q.rs.length c2] 26)).alloc (by simp) (.cells #[.slice none 0 0, .slice none 0 0] 26)
  rw [World.size_alloc] at x1
  rw [hw1] at x0 x1 b1
  have hq1 := hq0.on b1 b1.size
  have zz := b1.size
  obtain ⟨y0, y1, -⟩ := id x0.reads
  obtain ⟨r0, r1, rf⟩ := id x1.reads
  go_wp2_with fail
  refine (CV.out _ hq1).mono ?_
  rintro e w2 ⟨rfl, d2⟩
  replace zz := b1.size
  replace x0 := x0.later d2
  replace x1 := x1.later d2
  replace b1 := b1.trans ((d2).mono b1.size)
  replace hq1 := hq0.on b1 b1.size
  clear y0 y1 r0 r1 rf
  obtain ⟨y0, y1, -⟩ := id x0.reads
  obtain ⟨r0, r1, rf⟩ := id x1.reads
  cases bq with
  | false =>
    obtain rfl := pro_bad (fun e => by have := hbq.2 e.1; cases this) hy
    clear hbq hbt hr CV CT hw1
    go_wp2_with fail
    have st := (OwnQ.none_ w2 w.heap.size).stored x1
    obtain ⟨p0, p1, -⟩ := st.2.reads
    refine bodyPost_ret (v := .tuple #[.agg #[.slice none 0 0, .slice none 0 0], .bool false]) (by simp [results, Try.results32, go_sem, p0, p1]) rfl (Changed.mk_ rfl rfl st.1 ((b1.setCell (p := ⟨w.heap.size + 1, 0, none⟩) (Nat.le_succ _) _).setCell (p := ⟨w.heap.size + 1, 1, none⟩) (Nat.le_succ _) _))
  | true =>
    have HQ := hid (hbq.1 rfl)
    clear hbq CV
    go_wp2_with fail
    refine (CT.out _).mono ?_
    rintro e w3 ⟨rfl, rfl⟩
    cases bt with
    | false =>
      obtain rfl := pro_bad (fun e => by have := hbt.2 e.2; cases this) hy
      clear hbt hr CT hw1
      go_wp2_with fail
      have st := (OwnQ.none_ w2 w.heap.size).stored x1
      obtain ⟨p0, p1, -⟩ := st.2.reads
      refine bodyPost_ret (v := .tuple #[.agg #[.slice none 0 0, .slice none 0 0], .bool false]) (by simp [results, Try.results32, go_sem, p0, p1]) rfl (Changed.mk_ rfl rfl st.1 ((b1.setCell (p := ⟨w.heap.size + 1, 0, none⟩) (Nat.le_succ _) _).setCell (p := ⟨w.heap.size + 1, 1, none⟩) (Nat.le_succ _) _))
    | true =>
      have HT := hid (hbt.1 rfl)
      have CF : Hid (∀ x, Quar x x.heap.size (qv A q.m.length c A2 q.rs.length c2) q → Calls Try.prog 66 #[.agg #[.slice A q.m.length c, .slice A2 q.rs.length c2], .int .i64 t] x (Ret (.int .i64 r) x)) := fun x hx => l13Find_is r _ q t x hx hf.2.2.1 hr
      clear hbt CT hw1
      go_wp2_with fail
      refine (CF.out _ hq1).mono ?_
      rintro e w3 ⟨rfl, d3⟩
      replace zz := b1.size
      replace x0 := x0.later d3
      replace x1 := x1.later d3
      replace b1 := b1.trans ((d3).mono b1.size)
      replace hq1 := hq0.on b1 b1.size
      clear y0 y1 r0 r1 rf
      obtain ⟨y0, y1, -⟩ := id x0.reads
      obtain ⟨r0, r1, rf⟩ := id x1.reads
      rcases hr with ⟨rfl, h2, -⟩ | ⟨k, hk, rfl, -, h2, h3⟩
      · obtain rfl := pro_no ⟨HQ.out, HT.out⟩ (fun ⟨z, h, _⟩ => h2 h) hy
        clear CF h2
        go_wp2_with fail
        refine (l13Copy_any _ q _ hq1 HQ.out.small).mono ?_
        rintro e w4 ⟨v4, rfl, o4, d4⟩
        replace zz := b1.size
        replace x0 := x0.later d4
        replace x1 := x1.later d4
        replace b1 := b1.trans ((d4).mono b1.size)
        replace hq1 := hq0.on b1 b1.size
        clear y0 y1 r0 r1 rf
        obtain ⟨y0, y1, -⟩ := id x0.reads
        obtain ⟨r0, r1, rf⟩ := id x1.reads
        have o5 := o4.base (B' := w.heap.size) zz
        obtain ⟨A6, c6, A7, c7, rfl, -⟩ := id o5
        unfold qv at *
        have st := o5.stored x1
        obtain ⟨p0, p1, -⟩ := st.2.reads
        go_wp2
        refine bodyPost_ret (v := .tuple #[.agg #[.slice A6 _ c6, .slice A7 _ c7], .bool false]) (by simp [results, Try.results32, go_sem, p0, p1]) rfl (Changed.mk_ rfl rfl st.1 ((b1.setCell (p := ⟨w.heap.size + 1, 0, none⟩) (Nat.le_succ _) _).setCell (p := ⟨w.heap.size + 1, 1, none⟩) (Nat.le_succ _) _))
      · have HH : Hid (has q.rs t) := ⟨_, List.getElem_mem hk, h2⟩
        obtain ⟨a, ad, A', c', ho, rfl, had, g0, g1, -, g3⟩ := ha0.ar hk
        have HA : Hid (arOf q.rs t = a.os) := by show _ = _; rw [h3, ho]
        have HS : Hid (storeB a.os = true) := by
          show _ = _
          rw [← HA.out]
          exact arOf_store HQ.out.2.1 t
        have q0 : (0 : Int) ≤ (k : Int) := by omega
        have q1 : (k : Int) < (q.rs.length : Int) := by omega
        have q2 : decide ((k : Int) < 0) = false := decide_eq_false (by omega)
        have e1 := (b1.cell (p := ⟨(ad.add (k * 2)).block, (ad.add (k * 2)).off + 1, none⟩) had).trans g1
        have CA := hid (l13All_any A A' c c' q.m a.os w3.drew (((hm0.below b1 (Nat.le_refl _)).more b1.size).below (Below.refl _ _).drew (Nat.le_refl _)) (((g3.below b1 (Nat.le_refl _)).more b1.size).below (Below.refl _ _).drew (Nat.le_refl _)) (hid HQ.out.1) HS)
        have HK : Hid (∀ x, Below w3.heap.size w3 x → x.cell? ⟨w.heap.size, 0, none⟩ = some (.slice A q.m.length c) ∧ x.cell? ⟨w.heap.size, 1, none⟩ = some (.slice (some ad) q.rs.length c2) ∧ x.cell? ⟨(ad.add (k * 2)).block, (ad.add (k * 2)).off + 1, none⟩ = some (.slice A' a.os.length c')) :=
          fun x hx => ⟨(x0.later hx).reads.1, (x0.later hx).reads.2.1, (hx.cell (p := ⟨(ad.add (k * 2)).block, (ad.add (k * 2)).off + 1, none⟩) (Nat.lt_of_lt_of_le had b1.size)).trans e1⟩
        have bd := (Below.refl w3.heap.size w3).drew
        clear CF h2 h3 ho g0 g1 hk
        go_wp2_with fail
        go_region_held3 (fun w' => w'.cell? ⟨w.heap.size, 0, none⟩ = some (.slice A q.m.length c) ∧ w'.cell? ⟨w.heap.size, 1, none⟩ = some (.slice (some ad) q.rs.length c2) ∧ w'.cell? ⟨(ad.add (k * 2)).block, (ad.add (k * 2)).off + 1, none⟩ = some (.slice A' a.os.length c')) (first | with_reducible exact HK.out _ bd | with_reducible exact HK.out _ d4 | go_keep)
          (first
            | (go_at_call 67; (with_reducible refine CA.out.mono ?_); rintro e w4 ⟨v5, xs, b5, rfl, o5, HU, d4'⟩; have d4 : Below w3.heap.size w3 w4 := bd.trans d4'; clear d4'))
        replace zz := b1.size
        replace x0 := x0.later d4
        replace x1 := x1.later d4
        replace b1 := b1.trans ((d4).mono b1.size)
        replace hq1 := hq0.on b1 b1.size
        clear y0 y1 r0 r1 rf
        obtain ⟨y0, y1, -⟩ := id x0.reads
        obtain ⟨r0, r1, rf⟩ := id x1.reads
        obtain ⟨A5, c5, rfl, -, -⟩ := o5.formq
        have o6 := o5.base (B' := w.heap.size) zz
        cases b5 with
        | false =>
          obtain rfl := pro_no ⟨HQ.out, HT.out⟩ (fun ⟨z, _, h⟩ => (HU.out.2.2 rfl).2 ⟨z, by rw [HA.out] at h; exact h⟩) hy
          clear HU
          go_wp2_with fail
          refine (l13Copy_any _ q _ hq1 HQ.out.small).mono ?_
          rintro e w5 ⟨v4, rfl, o4, d5⟩
          replace zz := b1.size
          replace x0 := x0.later d5
          replace x1 := x1.later d5
          replace b1 := b1.trans ((d5).mono b1.size)
          replace hq1 := hq0.on b1 b1.size
          clear y0 y1 r0 r1 rf
          obtain ⟨y0, y1, -⟩ := id x0.reads
          obtain ⟨r0, r1, rf⟩ := id x1.reads
          have o5 := o4.base (B' := w.heap.size) zz
          obtain ⟨A6, c6, A7, c7, rfl, -⟩ := id o5
          unfold qv at *
          have st := o5.stored x1
          obtain ⟨p0, p1, -⟩ := st.2.reads
          go_wp2
          refine bodyPost_ret (v := .tuple #[.agg #[.slice A6 _ c6, .slice A7 _ c7], .bool false]) (by simp [results, Try.results32, go_sem, p0, p1]) rfl (Changed.mk_ rfl rfl st.1 ((b1.setCell (p := ⟨w.heap.size + 1, 0, none⟩) (Nat.le_succ _) _).setCell (p := ⟨w.heap.size + 1, 1, none⟩) (Nat.le_succ _) _))
        | true =>
          obtain rfl := pro_yes ⟨HQ.out, HT.out⟩ HH.out (by rw [HA.out]; exact HU.out.2.1 rfl) hy
          clear HU
          have al := (Below.refl w4.heap.size w4).alloc (Nat.le_refl _) (.cells #[] 38)
          have hq2 := hq0.on (b1.alloc b1.size (.cells #[] 38)) (b1.alloc b1.size (.cells #[] 38)).size
          have CL := hid (l13Set_any (qv A q.m.length c (some ad) q.rs.length c2) q t (some ⟨w4.heap.size, 0, none⟩) 0 [] _ hq2 HQ.out.small (.inl rfl) ⟨(fun o ho => by cases ho), Nat.zero_le _⟩)
          go_wp2_with fail
          refine CL.out.mono ?_
          rintro e w5 ⟨v4, rfl, o4, d5'⟩
          have d5 := al.trans (d5'.mono (B' := w4.heap.size) (by simp))
          replace o4 := o4.base (B' := w4.heap.size) (by simp)
          replace o6 := o6.below d5
          clear d5' al hq2 CL
          replace zz := b1.size
          replace x0 := x0.later d5
          replace x1 := x1.later d5
          replace b1 := b1.trans ((d5).mono b1.size)
          replace hq1 := hq0.on b1 b1.size
          clear y0 y1 r0 r1 rf
          obtain ⟨y0, y1, -⟩ := id x0.reads
          obtain ⟨r0, r1, rf⟩ := id x1.reads
          obtain ⟨A6, c6, A7, c7, rfl, -, -, o7, -⟩ := o4.base (B' := w.heap.size) zz
          unfold qv
          have ah := (Below.refl w5.heap.size w5).alloc (Nat.le_refl _) (.cells #[.slice A5 xs.length c5, .slice A7 (setA q.rs t []).length c7] 26)
          have X1 := x1.later ah
          obtain ⟨j0, j1, jf⟩ := id X1.reads
          have OQ : OwnQ (w5.alloc (.cells #[.slice A5 xs.length c5, .slice A7 (setA q.rs t []).length c7] 26)) w.heap.size (.agg #[.slice A5 xs.length c5, .slice A7 (setA q.rs t []).length c7]) ⟨xs, setA q.rs t []⟩ := OwnQ.mk_ (o6.below ah) (o7.below ah)
          have st := OQ.stored X1
          obtain ⟨p0, p1, -⟩ := st.2.reads
          have b6 := b1.trans (ah.mono b1.size)
          go_wp2
          refine bodyPost_ret (v := .tuple #[.agg #[.slice A5 _ c5, .slice A7 _ c7], .bool true]) (by simp [results, Try.results32, go_sem, p0, p1]) rfl (Changed.mk_ rfl rfl st.1 ((b6.setCell (p := ⟨w.heap.size + 1, 0, none⟩) (Nat.le_succ _) _).setCell (p := ⟨w.heap.size + 1, 1, none⟩) (Nat.le_succ _) _))
end Go.Proofs.Ytblknnifccmpkaa
