/-
  Walks: what is put into a quarantine, by the model.
-/
import Derived.Test.YtblknnifccmpkaaQuarE
namespace Go.Proofs.Ytblknnifccmpkaa
open Go.RowKit Wo Pu Qu

theorem put_bad {q : Qr} {t : Int} {l : List Ob} {y : QWay} (h : ¬ (QV q ∧ TxnV t ∧ storeB l = true ∧ l ≠ [])) (hy : IsPut q t l y) : y = .bad := by
  cases y with
  | bad => rfl
  | no => exact absurd hy.1 h
  | yes q' => exact absurd hy.1 h
theorem put_no_way {q : Qr} {t : Int} {l : List Ob} {y : QWay} (h : QV q ∧ TxnV t ∧ storeB l = true ∧ l ≠ []) (hn : ¬ ∃ x z, CanPut q t l x z) (hy : IsPut q t l y) : y = .no := by
  cases y with
  | bad => exact absurd h hy
  | no => rfl
  | yes q' =>
    obtain ⟨x, z, h1, _⟩ := hy.2
    exact absurd ⟨x, z, h1⟩ hn
theorem put_yes_way {q : Qr} {t : Int} {l x z : List Ob} {y : QWay} (h : QV q ∧ TxnV t ∧ storeB l = true ∧ l ≠ []) (hp : CanPut q t l x z) (hy : IsPut q t l y) : y = .yes ⟨q.m, setA q.rs t x⟩ := by
  cases y with
  | bad => exact absurd h hy
  | no => exact absurd ⟨x, z, hp⟩ hy.2
  | yes q' =>
    obtain ⟨x', z', h1, h3⟩ := hy.2
    rw [h3, hp.1.one h1.1]
set_option maxRecDepth 100000 in
set_option maxHeartbeats 8000000 in
theorem specQuarantinePut_is (y : QWay) (v : Value) (q : Qr) (t : Int) (A3 : Option Addr) (c3 : Nat) (l : List Ob) (w : World) (h : Quar w w.heap.size v q) (hf : FitQ q) (hl0 : Objs w w.heap.size A3 l) (hfl : Fit l) (hll : l.length ≤ 1048576) (hy : IsPut q t l y) :
    Calls Try.prog 20 #[v, .int .i64 t, .slice A3 l.length c3] w (Changed q y w) := by
  have hq0 := h
  obtain ⟨A, c, A2, c2, rfl, hm0, -, ha0, -⟩ := h
  obtain ⟨bq, hbq⟩ := bool_of' (QV q)
  obtain ⟨bt, hbt⟩ := bool_of' (TxnV t)
  obtain ⟨bs, hbs⟩ : ∃ bs, storeB l = bs := ⟨_, rfl⟩
  obtain ⟨r, hr⟩ := idx_ex q.rs t
  have CV : Hid (∀ x, Quar x x.heap.size (qv A q.m.length c A2 q.rs.length c2) q → Calls Try.prog 22 #[.agg #[.slice A q.m.length c, .slice A2 q.rs.length c2]] x (Ret (.bool bq) x)) := fun x hx => specQuarantineValid_is bq _ q x hx hf hbq
  have CT : Hid (∀ x, Calls Try.prog 65 #[.int .i64 t] x (Same (.bool bt) x)) := fun x => l12Txn_is bt t x hbt
  have CS : Hid (∀ x, Objs x x.heap.size A3 l → Calls Try.prog 23 #[.slice A3 l.length c3] x (Ret (.bool bs) x)) := fun x hx => by
    rw [← hbs]
    exact specStoreValid_any A3 c3 l x hx hfl (by unfold maxLen; omega)
  unfold qv
  go_enter Try.func20, Try.ntmps20
  obtain ⟨w1, hw1⟩ : ∃ w1, (w.alloc (.cells #[.slice A q.m.length c, .slice A2 q.rs.length c2] 26)).alloc (.cells #[.slice none 0 0, .slice none 0 0] 26) = w1 := ⟨_, rfl⟩
  have x0 := (BlkQ.new_ w 26 (.slice A q.m.length c) (.slice A2 q.rs.length c2)).alloc (.cells #[.slice none 0 0, .slice none 0 0] 26)
  have x1 := BlkQ.new_ (w.alloc (.cells #[.slice A q.m.length c, .slice A2 q.rs.length c2] 26)) 26 (.slice none 0 0) (.slice none 0 0)
  have b1 := ((Below.refl w.heap.size w).alloc (Nat.le_refl _) (.cells #[.slice A q.m.length c, .slice A2 q.rs.length c2] 26)).alloc (by simp) (.cells #[.slice none 0 0, .slice none 0 0] 26)
  rw [World.size_alloc] at x1
  rw [hw1] at x0 x1 b1
  have hq1 := hq0.on b1 b1.size
  have zz := b1.size
  obtain ⟨y0, y1, -⟩ := id x0.reads
  obtain ⟨r0, r1, rf⟩ := id x1.reads
  go_wp2_with fail
  refine (CV.out _ hq1).mono ?_
  rintro e w2 ⟨rfl, d2⟩
  replace zz := b1.size
  replace x0 := x0.later d2
  replace x1 := x1.later d2
  replace b1 := b1.trans ((d2).mono b1.size)
  replace hq1 := hq0.on b1 b1.size
  clear y0 y1 r0 r1 rf
  obtain ⟨y0, y1, -⟩ := id x0.reads
  obtain ⟨r0, r1, rf⟩ := id x1.reads
  cases bq with
  | false =>
    obtain rfl := put_bad (fun e => by have := hbq.2 e.1; cases this) hy
    clear hbq hbt hbs hr CV CT CS hw1
    go_wp2_with fail
    have st := (OwnQ.none_ w2 w.heap.size).stored x1
    obtain ⟨p0, p1, -⟩ := st.2.reads
    refine bodyPost_ret (v := .tuple #[.agg #[.slice none 0 0, .slice none 0 0], .bool false]) (by simp [results, Try.results20, go_sem, p0, p1]) rfl (Changed.mk_ rfl rfl st.1 ((b1.setCell (p := ⟨w.heap.size + 1, 0, none⟩) (Nat.le_succ _) _).setCell (p := ⟨w.heap.size + 1, 1, none⟩) (Nat.le_succ _) _))
  | true =>
    have HQ := hid (hbq.1 rfl)
    clear hbq CV
    go_wp2_with fail
    refine (CT.out _).mono ?_
    rintro e w3 ⟨rfl, rfl⟩
    cases bt with
    | false =>
      obtain rfl := put_bad (fun e => by have := hbt.2 e.2.1; cases this) hy
      clear hbt hbs hr CT CS hw1
      go_wp2_with fail
      have st := (OwnQ.none_ w2 w.heap.size).stored x1
      obtain ⟨p0, p1, -⟩ := st.2.reads
      refine bodyPost_ret (v := .tuple #[.agg #[.slice none 0 0, .slice none 0 0], .bool false]) (by simp [results, Try.results20, go_sem, p0, p1]) rfl (Changed.mk_ rfl rfl st.1 ((b1.setCell (p := ⟨w.heap.size + 1, 0, none⟩) (Nat.le_succ _) _).setCell (p := ⟨w.heap.size + 1, 1, none⟩) (Nat.le_succ _) _))
    | true =>
      have HT := hid (hbt.1 rfl)
      clear hbt CT hw1
      go_wp2_with fail
      refine (CS.out _ ((hl0.below b1 (Nat.le_refl _)).more b1.size)).mono ?_
      rintro e w2 ⟨rfl, d3⟩
      replace zz := b1.size
      replace x0 := x0.later d3
      replace x1 := x1.later d3
      replace b1 := b1.trans ((d3).mono b1.size)
      replace hq1 := hq0.on b1 b1.size
      clear y0 y1 r0 r1 rf
      obtain ⟨y0, y1, -⟩ := id x0.reads
      obtain ⟨r0, r1, rf⟩ := id x1.reads
      cases bs with
      | false =>
        obtain rfl := put_bad (fun e => by have := e.2.2.1; rw [hbs] at this; cases this) hy
        clear hbs hr CS
        go_wp2_with fail
        have st := (OwnQ.none_ w2 w.heap.size).stored x1
        obtain ⟨p0, p1, -⟩ := st.2.reads
        refine bodyPost_ret (v := .tuple #[.agg #[.slice none 0 0, .slice none 0 0], .bool false]) (by simp [results, Try.results20, go_sem, p0, p1]) rfl (Changed.mk_ rfl rfl st.1 ((b1.setCell (p := ⟨w.heap.size + 1, 0, none⟩) (Nat.le_succ _) _).setCell (p := ⟨w.heap.size + 1, 1, none⟩) (Nat.le_succ _) _))
      | true =>
        have HSL := hid hbs
        clear hbs CS
        by_cases hem : l.length = 0
        · obtain rfl := put_bad (fun e => e.2.2.2 (List.eq_nil_of_length_eq_zero hem)) hy
          have e0 : ((l.length : Int) == 0) = true := by rw [beq_iff_eq]; omega
          clear hr hem
          go_wp2_with fail
          have st := (OwnQ.none_ w2 w.heap.size).stored x1
          obtain ⟨p0, p1, -⟩ := st.2.reads
          refine bodyPost_ret (v := .tuple #[.agg #[.slice none 0 0, .slice none 0 0], .bool false]) (by simp [results, Try.results20, go_sem, p0, p1]) rfl (Changed.mk_ rfl rfl st.1 ((b1.setCell (p := ⟨w.heap.size + 1, 0, none⟩) (Nat.le_succ _) _).setCell (p := ⟨w.heap.size + 1, 1, none⟩) (Nat.le_succ _) _))
        · have HVAL : Hid (QV q ∧ TxnV t ∧ storeB l = true ∧ l ≠ []) := ⟨HQ.out, HT.out, HSL.out, fun e => hem (by rw [e]; rfl)⟩
          have e0 : ((l.length : Int) == 0) = false := by rw [beq_eq_false_iff_ne]; omega
          have CF : Hid (∀ x, Quar x x.heap.size (qv A q.m.length c A2 q.rs.length c2) q → Calls Try.prog 66 #[.agg #[.slice A q.m.length c, .slice A2 q.rs.length c2], .int .i64 t] x (Ret (.int .i64 r) x)) := fun x hx => l13Find_is r _ q t x hx hf.2.2.1 hr
          clear hem
          go_wp2_with fail
          clear e0
          refine (CF.out _ hq1).mono ?_
          rintro e w4 ⟨rfl, d4⟩
          replace zz := b1.size
          replace x0 := x0.later d4
          replace x1 := x1.later d4
          replace b1 := b1.trans ((d4).mono b1.size)
          replace hq1 := hq0.on b1 b1.size
          clear y0 y1 r0 r1 rf
          obtain ⟨y0, y1, -⟩ := id x0.reads
          obtain ⟨r0, r1, rf⟩ := id x1.reads
          have ah := (Below.refl w4.heap.size w4).alloc (Nat.le_refl _) (.cells #[] 38)
          replace zz := b1.size
          replace x0 := x0.later ah
          replace x1 := x1.later ah
          replace b1 := b1.trans ((ah).mono b1.size)
          replace hq1 := hq0.on b1 b1.size
          clear y0 y1 r0 r1 rf
          obtain ⟨y0, y1, -⟩ := id x0.reads
          obtain ⟨r0, r1, rf⟩ := id x1.reads
          rcases hr with ⟨rfl, h2, h3⟩ | ⟨k, hk, rfl, -, h2, h3⟩
          · have HN := hid h2
            obtain ⟨area, har⟩ : ∃ area : List Ob, area = [] := ⟨_, rfl⟩
            have HA : Hid (arOf q.rs t = area) := by show _ = _; rw [h3, har]
            have HSA : Hid (storeB area = true) := by show _ = _; rw [har]; rfl
            have ho9 : Objs (w4.alloc (.cells #[] 38)) (w4.alloc (.cells #[] 38)).heap.size (some ⟨w4.heap.size, 0, none⟩) area := .inl har
            have CQ := hid (l13All_any (some ⟨w4.heap.size, 0, none⟩) A3 0 c3 area l _ ho9 ((hl0.below b1 (Nat.le_refl _)).more b1.size) HSA HSL)
            subst har
            clear CF h2 h3 ho9
            by_cases hroom : q.rs.length < 4
            · have HB : Hid (has q.rs t ∨ q.rs.length < 4) := .inr hroom
              have e2 : decide ((4 : Int) ≤ (q.rs.length : Int)) = false := decide_eq_false (by omega)
              clear hroom
              go_wp2_with fail
              refine CQ.out.mono ?_
              rintro e w5 ⟨v5, xs, b5, rfl, o5, HU, d5⟩
              replace zz := b1.size
              replace x0 := x0.later d5
              replace x1 := x1.later d5
              replace b1 := b1.trans ((d5).mono b1.size)
              replace hq1 := hq0.on b1 b1.size
              clear y0 y1 r0 r1 rf
              obtain ⟨y0, y1, -⟩ := id x0.reads
              obtain ⟨r0, r1, rf⟩ := id x1.reads
              obtain ⟨A5, c5, rfl, hx5, -⟩ := o5.formq
              have HX := hid HU.out.1
              have CW := hid (l13All_any A A5 c c5 q.m xs _ ((hm0.below b1 (Nat.le_refl _)).more b1.size) hx5 (hid HQ.out.1) HX)
              go_wp2_with fail
              refine CW.out.mono ?_
              rintro e w6 ⟨v6, zs, b6, rfl, o7, HV, d6⟩
              replace zz := b1.size
              replace x0 := x0.later d6
              replace x1 := x1.later d6
              replace b1 := b1.trans ((d6).mono b1.size)
              replace hq1 := hq0.on b1 b1.size
              clear y0 y1 r0 r1 rf
              obtain ⟨y0, y1, -⟩ := id x0.reads
              obtain ⟨r0, r1, rf⟩ := id x1.reads
              obtain ⟨A8, c8, rfl, -, -⟩ := o7.formq
              have hx6 := (hx5.below d6 (Nat.le_refl _)).more d6.size
              cases b5 with
              | false =>
                have hno : ¬ ∃ x z, CanPut q t l x z := fun ⟨x, z, h, _⟩ => (HU.out.2.2 rfl).2 ⟨x, by rw [HA.out] at h; exact h⟩
                obtain rfl := put_no_way HVAL.out hno hy
                clear HU HV hno
                go_wp2_with fail
                refine (l13Copy_any _ q _ hq1 HQ.out.small).mono ?_
                rintro e w7 ⟨v4, rfl, o4, d7⟩
                replace zz := b1.size
                replace x0 := x0.later d7
                replace x1 := x1.later d7
                replace b1 := b1.trans ((d7).mono b1.size)
                replace hq1 := hq0.on b1 b1.size
                clear y0 y1 r0 r1 rf
                obtain ⟨y0, y1, -⟩ := id x0.reads
                obtain ⟨r0, r1, rf⟩ := id x1.reads
                have o5 := o4.base (B' := w.heap.size) zz
                obtain ⟨A6, c6, A7, c7, rfl, -⟩ := id o5
                unfold qv at *
                have st := o5.stored x1
                obtain ⟨p0, p1, -⟩ := st.2.reads
                go_wp2
                refine bodyPost_ret (v := .tuple #[.agg #[.slice A6 _ c6, .slice A7 _ c7], .bool false]) (by simp [results, Try.results20, go_sem, p0, p1]) rfl (Changed.mk_ rfl rfl st.1 ((b1.setCell (p := ⟨w.heap.size + 1, 0, none⟩) (Nat.le_succ _) _).setCell (p := ⟨w.heap.size + 1, 1, none⟩) (Nat.le_succ _) _))
              | true =>
                have HU1 := hid (HU.out.2.1 rfl)
                cases b6 with
                | false =>
                  have hno : ¬ ∃ x z, CanPut q t l x z := fun ⟨x, z, h, h', _⟩ => (HV.out.2.2 rfl).2 ⟨z, by
                    rw [HA.out] at h
                    rw [HU1.out.one h]
                    exact h'⟩
                  obtain rfl := put_no_way HVAL.out hno hy
                  clear HU HV HU1 hno
                  go_wp2_with fail
                  refine (l13Copy_any _ q _ hq1 HQ.out.small).mono ?_
                  rintro e w7 ⟨v4, rfl, o4, d7⟩
                  replace zz := b1.size
                  replace x0 := x0.later d7
                  replace x1 := x1.later d7
                  replace b1 := b1.trans ((d7).mono b1.size)
                  replace hq1 := hq0.on b1 b1.size
                  clear y0 y1 r0 r1 rf
                  obtain ⟨y0, y1, -⟩ := id x0.reads
                  obtain ⟨r0, r1, rf⟩ := id x1.reads
                  have o5 := o4.base (B' := w.heap.size) zz
                  obtain ⟨A6, c6, A7, c7, rfl, -⟩ := id o5
                  unfold qv at *
                  have st := o5.stored x1
                  obtain ⟨p0, p1, -⟩ := st.2.reads
                  go_wp2
                  refine bodyPost_ret (v := .tuple #[.agg #[.slice A6 _ c6, .slice A7 _ c7], .bool false]) (by simp [results, Try.results20, go_sem, p0, p1]) rfl (Changed.mk_ rfl rfl st.1 ((b1.setCell (p := ⟨w.heap.size + 1, 0, none⟩) (Nat.le_succ _) _).setCell (p := ⟨w.heap.size + 1, 1, none⟩) (Nat.le_succ _) _))
                | true =>
                  have HV1 := hid (HV.out.2.1 rfl)
                  clear HU HV
                  obtain rfl := put_yes_way HVAL.out ⟨by rw [HA.out]; exact HU1.out, HV1.out, HB.out⟩ hy
                  have HSM : Hid ((∀ o ∈ xs, o.zs.length ≤ 1048576) ∧ xs.length ≤ 1048576) := by
                    have := store_small HX.out
                    exact ⟨fun o ho => by have := (this.1 o ho).1; omega, by omega⟩
                  have CL := hid (l13Set_any _ q t A5 c5 xs _ hq1 HQ.out.small hx6 HSM.out)
                  go_wp2_with fail
                  refine CL.out.mono ?_
                  rintro e w7 ⟨v4, rfl, o4, d7⟩
                  replace zz := b1.size
                  replace x0 := x0.later d7
                  replace x1 := x1.later d7
                  replace b1 := b1.trans ((d7).mono b1.size)
                  replace hq1 := hq0.on b1 b1.size
                  clear y0 y1 r0 r1 rf
                  obtain ⟨y0, y1, -⟩ := id x0.reads
                  obtain ⟨r0, r1, rf⟩ := id x1.reads
                  have o5 := o4.base (B' := w.heap.size) zz
                  obtain ⟨A6, c6, A7, c7, rfl, -⟩ := id o5
                  unfold qv at *
                  have st := o5.stored x1
                  obtain ⟨p0, p1, -⟩ := st.2.reads
                  go_wp2
                  refine bodyPost_ret (v := .tuple #[.agg #[.slice A6 _ c6, .slice A7 _ c7], .bool true]) (by simp [results, Try.results20, go_sem, p0, p1]) rfl (Changed.mk_ rfl rfl st.1 ((b1.setCell (p := ⟨w.heap.size + 1, 0, none⟩) (Nat.le_succ _) _).setCell (p := ⟨w.heap.size + 1, 1, none⟩) (Nat.le_succ _) _))
            · have HB : Hid (¬ (has q.rs t ∨ q.rs.length < 4)) := fun h => h.elim HN.out hroom
              have e2 : decide ((4 : Int) ≤ (q.rs.length : Int)) = true := decide_eq_true (by omega)
              clear hroom
              go_wp2_with fail
              refine CQ.out.mono ?_
              rintro e w5 ⟨v5, xs, b5, rfl, o5, HU, d5⟩
              replace zz := b1.size
              replace x0 := x0.later d5
              replace x1 := x1.later d5
              replace b1 := b1.trans ((d5).mono b1.size)
              replace hq1 := hq0.on b1 b1.size
              clear y0 y1 r0 r1 rf
              obtain ⟨y0, y1, -⟩ := id x0.reads
              obtain ⟨r0, r1, rf⟩ := id x1.reads
              obtain ⟨A5, c5, rfl, hx5, -⟩ := o5.formq
              have HX := hid HU.out.1
              have CW := hid (l13All_any A A5 c c5 q.m xs _ ((hm0.below b1 (Nat.le_refl _)).more b1.size) hx5 (hid HQ.out.1) HX)
              go_wp2_with fail
              refine CW.out.mono ?_
              rintro e w6 ⟨v6, zs, b6, rfl, o7, HV, d6⟩
              replace zz := b1.size
              replace x0 := x0.later d6
              replace x1 := x1.later d6
              replace b1 := b1.trans ((d6).mono b1.size)
              replace hq1 := hq0.on b1 b1.size
              clear y0 y1 r0 r1 rf
              obtain ⟨y0, y1, -⟩ := id x0.reads
              obtain ⟨r0, r1, rf⟩ := id x1.reads
              obtain ⟨A8, c8, rfl, -, -⟩ := o7.formq
              have hx6 := (hx5.below d6 (Nat.le_refl _)).more d6.size
              cases b5 with
              | false =>
                have hno : ¬ ∃ x z, CanPut q t l x z := fun ⟨x, z, h, _⟩ => (HU.out.2.2 rfl).2 ⟨x, by rw [HA.out] at h; exact h⟩
                obtain rfl := put_no_way HVAL.out hno hy
                clear HU HV hno
                go_wp2_with fail
                refine (l13Copy_any _ q _ hq1 HQ.out.small).mono ?_
                rintro e w7 ⟨v4, rfl, o4, d7⟩
                replace zz := b1.size
                replace x0 := x0.later d7
                replace x1 := x1.later d7
                replace b1 := b1.trans ((d7).mono b1.size)
                replace hq1 := hq0.on b1 b1.size
                clear y0 y1 r0 r1 rf
                obtain ⟨y0, y1, -⟩ := id x0.reads
                obtain ⟨r0, r1, rf⟩ := id x1.reads
                have o5 := o4.base (B' := w.heap.size) zz
                obtain ⟨A6, c6, A7, c7, rfl, -⟩ := id o5
                unfold qv at *
                have st := o5.stored x1
                obtain ⟨p0, p1, -⟩ := st.2.reads
                go_wp2
                refine bodyPost_ret (v := .tuple #[.agg #[.slice A6 _ c6, .slice A7 _ c7], .bool false]) (by simp [results, Try.results20, go_sem, p0, p1]) rfl (Changed.mk_ rfl rfl st.1 ((b1.setCell (p := ⟨w.heap.size + 1, 0, none⟩) (Nat.le_succ _) _).setCell (p := ⟨w.heap.size + 1, 1, none⟩) (Nat.le_succ _) _))
              | true =>
                have HU1 := hid (HU.out.2.1 rfl)
                cases b6 with
                | false =>
                  have hno : ¬ ∃ x z, CanPut q t l x z := fun ⟨x, z, h, h', _⟩ => (HV.out.2.2 rfl).2 ⟨z, by
                    rw [HA.out] at h
                    rw [HU1.out.one h]
                    exact h'⟩
                  obtain rfl := put_no_way HVAL.out hno hy
                  clear HU HV HU1 hno
                  go_wp2_with fail
                  refine (l13Copy_any _ q _ hq1 HQ.out.small).mono ?_
                  rintro e w7 ⟨v4, rfl, o4, d7⟩
                  replace zz := b1.size
                  replace x0 := x0.later d7
                  replace x1 := x1.later d7
                  replace b1 := b1.trans ((d7).mono b1.size)
                  replace hq1 := hq0.on b1 b1.size
                  clear y0 y1 r0 r1 rf
                  obtain ⟨y0, y1, -⟩ := id x0.reads
                  obtain ⟨r0, r1, rf⟩ := id x1.reads
                  have o5 := o4.base (B' := w.heap.size) zz
                  obtain ⟨A6, c6, A7, c7, rfl, -⟩ := id o5
                  unfold qv at *
                  have st := o5.stored x1
                  obtain ⟨p0, p1, -⟩ := st.2.reads
                  go_wp2
                  refine bodyPost_ret (v := .tuple #[.agg #[.slice A6 _ c6, .slice A7 _ c7], .bool false]) (by simp [results, Try.results20, go_sem, p0, p1]) rfl (Changed.mk_ rfl rfl st.1 ((b1.setCell (p := ⟨w.heap.size + 1, 0, none⟩) (Nat.le_succ _) _).setCell (p := ⟨w.heap.size + 1, 1, none⟩) (Nat.le_succ _) _))
                | true =>
                  have HV1 := hid (HV.out.2.1 rfl)
                  clear HU HV
                  obtain rfl := put_no_way HVAL.out (fun ⟨x, z, h⟩ => HB.out h.2.2) hy
                  go_wp2_with fail
                  refine (l13Copy_any _ q _ hq1 HQ.out.small).mono ?_
                  rintro e w7 ⟨v4, rfl, o4, d7⟩
                  replace zz := b1.size
                  replace x0 := x0.later d7
                  replace x1 := x1.later d7
                  replace b1 := b1.trans ((d7).mono b1.size)
                  replace hq1 := hq0.on b1 b1.size
                  clear y0 y1 r0 r1 rf
                  obtain ⟨y0, y1, -⟩ := id x0.reads
                  obtain ⟨r0, r1, rf⟩ := id x1.reads
                  have o5 := o4.base (B' := w.heap.size) zz
                  obtain ⟨A6, c6, A7, c7, rfl, -⟩ := id o5
                  unfold qv at *
                  have st := o5.stored x1
                  obtain ⟨p0, p1, -⟩ := st.2.reads
                  go_wp2
                  refine bodyPost_ret (v := .tuple #[.agg #[.slice A6 _ c6, .slice A7 _ c7], .bool false]) (by simp [results, Try.results20, go_sem, p0, p1]) rfl (Changed.mk_ rfl rfl st.1 ((b1.setCell (p := ⟨w.heap.size + 1, 0, none⟩) (Nat.le_succ _) _).setCell (p := ⟨w.heap.size + 1, 1, none⟩) (Nat.le_succ _) _))
          · obtain ⟨a, ad, A', c', ho, rfl, had, g0, g1, -, g3⟩ := ha0.ar hk
            have HB : Hid (has q.rs t ∨ q.rs.length < 4) := .inl ⟨_, List.getElem_mem hk, h2⟩
            have HA : Hid (arOf q.rs t = a.os) := by show _ = _; rw [h3, ho]
            have HSA : Hid (storeB a.os = true) := by
              show _ = _
              rw [← HA.out]
              exact arOf_store HQ.out.2.1 t
            have q0 : (0 : Int) ≤ (k : Int) := by omega
            have q1 : (k : Int) < (q.rs.length : Int) := by omega
            have q2 : decide ((k : Int) < 0) = false := decide_eq_false (by omega)
            have q3 : decide ((0 : Int) ≤ (k : Int)) = true := decide_eq_true (by omega)
            have e1 := (b1.cell (p := ⟨(ad.add (k * 2)).block, (ad.add (k * 2)).off + 1, none⟩) had).trans g1
            have CQ := hid (l13All_any A' A3 c' c3 a.os l _ ((g3.below b1 (Nat.le_refl _)).more b1.size) ((hl0.below b1 (Nat.le_refl _)).more b1.size) HSA HSL)
            clear CF h2 h3 ho g0 g1 g3 hk
            go_wp2_with fail
            refine CQ.out.mono ?_
            rintro e w5 ⟨v5, xs, b5, rfl, o5, HU, d5⟩
            replace zz := b1.size
            replace x0 := x0.later d5
            replace x1 := x1.later d5
            replace b1 := b1.trans ((d5).mono b1.size)
            replace hq1 := hq0.on b1 b1.size
            clear y0 y1 r0 r1 rf
            obtain ⟨y0, y1, -⟩ := id x0.reads
            obtain ⟨r0, r1, rf⟩ := id x1.reads
            obtain ⟨A5, c5, rfl, hx5, -⟩ := o5.formq
            have HX := hid HU.out.1
            have CW := hid (l13All_any A A5 c c5 q.m xs _ ((hm0.below b1 (Nat.le_refl _)).more b1.size) hx5 (hid HQ.out.1) HX)
            go_wp2_with fail
            refine CW.out.mono ?_
            rintro e w6 ⟨v6, zs, b6, rfl, o7, HV, d6⟩
            replace zz := b1.size
            replace x0 := x0.later d6
            replace x1 := x1.later d6
            replace b1 := b1.trans ((d6).mono b1.size)
            replace hq1 := hq0.on b1 b1.size
            clear y0 y1 r0 r1 rf
            obtain ⟨y0, y1, -⟩ := id x0.reads
            obtain ⟨r0, r1, rf⟩ := id x1.reads
            obtain ⟨A8, c8, rfl, -, -⟩ := o7.formq
            have hx6 := (hx5.below d6 (Nat.le_refl _)).more d6.size
            cases b5 with
            | false =>
              have hno : ¬ ∃ x z, CanPut q t l x z := fun ⟨x, z, h, _⟩ => (HU.out.2.2 rfl).2 ⟨x, by rw [HA.out] at h; exact h⟩
              obtain rfl := put_no_way HVAL.out hno hy
              clear HU HV hno
              go_wp2_with fail
              refine (l13Copy_any _ q _ hq1 HQ.out.small).mono ?_
              rintro e w7 ⟨v4, rfl, o4, d7⟩
              replace zz := b1.size
              replace x0 := x0.later d7
              replace x1 := x1.later d7
              replace b1 := b1.trans ((d7).mono b1.size)
              replace hq1 := hq0.on b1 b1.size
              clear y0 y1 r0 r1 rf
              obtain ⟨y0, y1, -⟩ := id x0.reads
              obtain ⟨r0, r1, rf⟩ := id x1.reads
              have o5 := o4.base (B' := w.heap.size) zz
              obtain ⟨A6, c6, A7, c7, rfl, -⟩ := id o5
              unfold qv at *
              have st := o5.stored x1
              obtain ⟨p0, p1, -⟩ := st.2.reads
              go_wp2
              refine bodyPost_ret (v := .tuple #[.agg #[.slice A6 _ c6, .slice A7 _ c7], .bool false]) (by simp [results, Try.results20, go_sem, p0, p1]) rfl (Changed.mk_ rfl rfl st.1 ((b1.setCell (p := ⟨w.heap.size + 1, 0, none⟩) (Nat.le_succ _) _).setCell (p := ⟨w.heap.size + 1, 1, none⟩) (Nat.le_succ _) _))
            | true =>
              have HU1 := hid (HU.out.2.1 rfl)
              cases b6 with
              | false =>
                have hno : ¬ ∃ x z, CanPut q t l x z := fun ⟨x, z, h, h', _⟩ => (HV.out.2.2 rfl).2 ⟨z, by
                  rw [HA.out] at h
                  rw [HU1.out.one h]
                  exact h'⟩
                obtain rfl := put_no_way HVAL.out hno hy
                clear HU HV HU1 hno
                go_wp2_with fail
                refine (l13Copy_any _ q _ hq1 HQ.out.small).mono ?_
                rintro e w7 ⟨v4, rfl, o4, d7⟩
                replace zz := b1.size
                replace x0 := x0.later d7
                replace x1 := x1.later d7
                replace b1 := b1.trans ((d7).mono b1.size)
                replace hq1 := hq0.on b1 b1.size
                clear y0 y1 r0 r1 rf
                obtain ⟨y0, y1, -⟩ := id x0.reads
                obtain ⟨r0, r1, rf⟩ := id x1.reads
                have o5 := o4.base (B' := w.heap.size) zz
                obtain ⟨A6, c6, A7, c7, rfl, -⟩ := id o5
                unfold qv at *
                have st := o5.stored x1
                obtain ⟨p0, p1, -⟩ := st.2.reads
                go_wp2
                refine bodyPost_ret (v := .tuple #[.agg #[.slice A6 _ c6, .slice A7 _ c7], .bool false]) (by simp [results, Try.results20, go_sem, p0, p1]) rfl (Changed.mk_ rfl rfl st.1 ((b1.setCell (p := ⟨w.heap.size + 1, 0, none⟩) (Nat.le_succ _) _).setCell (p := ⟨w.heap.size + 1, 1, none⟩) (Nat.le_succ _) _))
              | true =>
                have HV1 := hid (HV.out.2.1 rfl)
                clear HU HV
                obtain rfl := put_yes_way HVAL.out ⟨by rw [HA.out]; exact HU1.out, HV1.out, HB.out⟩ hy
                have HSM : Hid ((∀ o ∈ xs, o.zs.length ≤ 1048576) ∧ xs.length ≤ 1048576) := by
                  have := store_small HX.out
                  exact ⟨fun o ho => by have := (this.1 o ho).1; omega, by omega⟩
                have CL := hid (l13Set_any _ q t A5 c5 xs _ hq1 HQ.out.small hx6 HSM.out)
                go_wp2_with fail
                refine CL.out.mono ?_
                rintro e w7 ⟨v4, rfl, o4, d7⟩
                replace zz := b1.size
                replace x0 := x0.later d7
                replace x1 := x1.later d7
                replace b1 := b1.trans ((d7).mono b1.size)
                replace hq1 := hq0.on b1 b1.size
                clear y0 y1 r0 r1 rf
                obtain ⟨y0, y1, -⟩ := id x0.reads
                obtain ⟨r0, r1, rf⟩ := id x1.reads
                have o5 := o4.base (B' := w.heap.size) zz
                obtain ⟨A6, c6, A7, c7, rfl, -⟩ := id o5
                unfold qv at *
                have st := o5.stored x1
                obtain ⟨p0, p1, -⟩ := st.2.reads
                go_wp2
                refine bodyPost_ret (v := .tuple #[.agg #[.slice A6 _ c6, .slice A7 _ c7], .bool true]) (by simp [results, Try.results20, go_sem, p0, p1]) rfl (Changed.mk_ rfl rfl st.1 ((b1.setCell (p := ⟨w.heap.size + 1, 0, none⟩) (Nat.le_succ _) _).setCell (p := ⟨w.heap.size + 1, 1, none⟩) (Nat.le_succ _) _))
end Go.Proofs.Ytblknnifccmpkaa
