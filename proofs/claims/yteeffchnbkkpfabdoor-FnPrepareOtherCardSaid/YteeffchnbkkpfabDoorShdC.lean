/- The coordinator with the slices $SA and $SB is stored as the answer, with the word $BB. -/
/-
  Walk: a record follows on others, by the model.
-/
import Derived.Test.YteeffchnbkkpfabDoorG4C
import Derived.Test.YteeffchnbkkpfabDoorRefA
import Derived.Deep.RegionHeld3
namespace Go.Proofs.YteeffchnbkkpfabDoor
open Go.RowKit Wo Pu Rf Lk Sh

/-- Whether a record may follow, and the state behind it. -/
def StepTo (rs : List Rec) (s : St) (r : Rec) (b : Bool) (s' : St) : Prop := (b = true ∧ Step rs s r s') ∨ (b = false ∧ (¬ ∃ x, Step rs s r x) ∧ s' = s)
theorem step_ex (rs : List Rec) (s : St) (r : Rec) : ∃ b s', StepTo rs s r b s' := by
  by_cases h : ∃ x, Step rs s r x
  · obtain ⟨x, hx⟩ := h
    exact ⟨true, x, .inl ⟨rfl, hx⟩⟩
  · exact ⟨false, s, .inr ⟨rfl, h, rfl⟩⟩
theorem StepTo.no {rs : List Rec} {s : St} {r : Rec} {b : Bool} {s' : St} (h : StepTo rs s r b s') (hn : ¬ ∃ x, Step rs s r x) : b = false ∧ s' = s := by
  rcases h with ⟨_, h2⟩ | ⟨h1, _, h3⟩
  · exact absurd ⟨_, h2⟩ hn
  · exact ⟨h1, h3⟩
theorem StepTo.yes {rs : List Rec} {s : St} {r : Rec} {b : Bool} {s' x : St} (h : StepTo rs s r b s') (hx : Step rs s r x) : b = true ∧ s' = x := by
  rcases h with ⟨h1, h2⟩ | ⟨_, h2, _⟩
  · exact ⟨h1, h2.one hx⟩
  · exact absurd ⟨_, hx⟩ h2
theorem step_kind {rs : List Rec} {s : St} {r : Rec} {x : St} (h : Step rs s r x) : r.k = 1 ∨ r.k = 2 ∨ r.k = 3 := by cases h <;> omega
theorem step_1 {rs : List Rec} {s : St} {r : Rec} {x : St} (h : Step rs s r x) (hk : r.k = 1) : Sh.ask rs r.t = 0 ∧ UV r.us ∧ Fits s.refs r.us ∧ Fits s.locks (lk r.t r.us) := by
  cases h with
  | prepare _ h1 h2 h3 h4 => exact ⟨h1, h2, h3, h4⟩
  | commit h _ _ => omega
  | abort h _ _ => omega
theorem step_2 {rs : List Rec} {s : St} {r : Rec} {x : St} (h : Step rs s r x) (hk : r.k = 2) : Sh.ask rs r.t = 1 ∧ r.us = [] := by
  cases h with
  | prepare h _ _ _ _ => omega
  | commit _ h1 h2 => exact ⟨h1, h2⟩
  | abort h _ _ => omega
theorem step_3 {rs : List Rec} {s : St} {r : Rec} {x : St} (h : Step rs s r x) (hk : r.k = 3) : (Sh.ask rs r.t = 0 ∨ Sh.ask rs r.t = 1) ∧ r.us = [] := by
  cases h with
  | prepare h _ _ _ _ => omega
  | commit h _ _ => omega
  | abort _ h1 h2 => exact ⟨h1, h2⟩
/- The state and the record lie in boxes, the result behind them. -/
/- The state s is handed back, and false. -/
/- A state of two lists is told, and whether. -/
/- A transaction is freed, in the drawn order; the state and true are told. -/
theorem upd_len {rs : List Rec} {m : Nat} (h : ∀ r ∈ rs, r.us.length ≤ m) {t : Int} : (Sh.upd rs t).length ≤ m := by
  induction rs with
  | nil => exact Nat.zero_le _
  | cons a rs ih =>
    show (if a.t = t ∧ a.k = 1 then a.us else Sh.upd rs t).length ≤ m
    split
    · exact h a List.mem_cons_self
    · exact ih fun r hr => h r (List.mem_cons_of_mem _ hr)
/- The three calls of a commit, one at a time. -/
/- The state is built, stored and told. -/
set_option linter.unusedSimpArgs false in
set_option maxRecDepth 100000 in
set_option maxHeartbeats 8000000 in
theorem l21Step_any (b : Bool) (s' : St) (A0 : Option Addr) (c0 : Nat) (rs : List Rec) (v : Value) (s : St) (A3 : Option Addr) (c3 : Nat) (r : Rec) (w : World) (h : Recs w w.heap.size A0 rs) (hf : FitR rs) (hs : Stt w w.heap.size v s) (hi : Hid (Inv rs s)) (hu0 : Row w w.heap.size A3 (upsV r.us)) (hul : r.us.length ≤ 1048600) (HST : Hid (StepTo rs s r b s')) :
    Calls Tryd.prog 80 #[.slice A0 rs.length c0, v, .agg #[.int .i64 r.k, .int .i64 r.t, .slice A3 r.us.length c3]] w (NewStB s' b w) := by
  have hs0 := hs
  obtain ⟨A, c, A2, c2, rfl, hr0, hrc, hl0, hlc⟩ := hs
  obtain ⟨z, hz⟩ : ∃ z, Sh.ask rs r.t = z := ⟨_, rfl⟩
  have HZ := hid hz
  have CA : Hid (∀ x, Recs x x.heap.size A0 rs → Calls Tryd.prog 66 #[.slice A0 rs.length c0, .int .i64 r.t] x (Same (.int .i64 z) x)) := fun x hx => l21Ask_is z A0 c0 rs r.t x x.heap.size hx (by have := hf.1; omega) hz
  clear hz
  unfold stV
  go_enter Tryd.func80, Tryd.ntmps80
  obtain ⟨w1, hw1⟩ : ∃ w1, ((w.alloc (.cells #[.slice A s.refs.length c, .slice A2 s.locks.length c2] 37)).alloc (.cells #[.int .i64 r.k, .int .i64 r.t, .slice A3 r.us.length c3] 33)).alloc (.cells #[.slice none 0 0, .slice none 0 0] 37) = w1 := ⟨_, rfl⟩
  have x0 := ((Blk2s.new_ w 37 (.slice A s.refs.length c) (.slice A2 s.locks.length c2)).alloc (.cells #[.int .i64 r.k, .int .i64 r.t, .slice A3 r.us.length c3] 33)).alloc (.cells #[.slice none 0 0, .slice none 0 0] 37)
  have x1 := (Blk3s.new_ (w.alloc (.cells #[.slice A s.refs.length c, .slice A2 s.locks.length c2] 37)) 33 (.int .i64 r.k) (.int .i64 r.t) (.slice A3 r.us.length c3)).alloc (.cells #[.slice none 0 0, .slice none 0 0] 37)
  have x2 := Blk2s.new_ ((w.alloc (.cells #[.slice A s.refs.length c, .slice A2 s.locks.length c2] 37)).alloc (.cells #[.int .i64 r.k, .int .i64 r.t, .slice A3 r.us.length c3] 33)) 37 (.slice none 0 0) (.slice none 0 0)
  have b1 := (((Below.refl w.heap.size w).alloc (Nat.le_refl _) (.cells #[.slice A s.refs.length c, .slice A2 s.locks.length c2] 37)).alloc (by simp) (.cells #[.int .i64 r.k, .int .i64 r.t, .slice A3 r.us.length c3] 33)).alloc (by simp; omega) (.cells #[.slice none 0 0, .slice none 0 0] 37)
  rw [World.size_alloc] at x1 x2
  rw [World.size_alloc] at x2
  rw [hw1] at x0 x1 x2 b1
  have zz := b1.size
  obtain ⟨y0, y1, -⟩ := id x0.reads
  obtain ⟨r0, r1, r2, -⟩ := id x1.reads
  obtain ⟨t0, t1, tf⟩ := id x2.reads
  go_wp2_with fail
  refine (CA.out _ ((h.below b1 (Nat.le_refl _)).more zz)).mono ?_
  rintro e w2 ⟨rfl, rfl⟩
  clear hw1 CA
  by_cases hk1 : r.k = 1
  · have e1 : (r.k == 1) = true := by rw [beq_iff_eq]; exact hk1
    by_cases hz0 : z = 0
    · have e2 : (z != 0) = false := by rw [bne_eq_false_iff_eq]; exact hz0
      obtain ⟨vu, hvu⟩ := bool_of (UV r.us)
      have CU := hid (specUpdatesValid_is vu A3 c3 r.us w1 ((hu0.below b1 (Nat.le_refl _)).more zz) hul hvu)
      go_wp2_with fail
      refine CU.out.mono ?_
      rintro e w2 ⟨rfl, d2⟩
      replace x0 := x0.later d2
      replace x1 := x1.later d2
      replace x2 := x2.later d2
      replace b1 := b1.trans ((d2).mono b1.size)
      replace zz := b1.size
      clear y0 y1 r0 r1 r2 t0 t1 tf
      obtain ⟨y0, y1, -⟩ := id x0.reads
      obtain ⟨r0, r1, r2, -⟩ := id x1.reads
      obtain ⟨t0, t1, tf⟩ := id x2.reads
      cases vu with
      | false =>
        have HNO : Hid (¬ ∃ x, Step rs s r x) := fun ⟨x, hx⟩ => by have := hvu.2 (step_1 hx hk1).2.1; cases this
        clear CU hvu e1 e2
        obtain ⟨p0, p1, -⟩ := ((x2.set0 (.slice A s.refs.length c)).set1 (.slice A2 s.locks.length c2)).reads
        have b7 := (b1.setCell (p := ⟨w.heap.size + 1 + 1, 0, none⟩) (by show w.heap.size ≤ w.heap.size + 1 + 1; omega) (.slice A s.refs.length c)).setCell (p := ⟨w.heap.size + 1 + 1, 1, none⟩) (by show w.heap.size ≤ w.heap.size + 1 + 1; omega) (.slice A2 s.locks.length c2)
        have HRS : Hid (Stt _ _ (stV A s.refs.length c A2 s.locks.length c2) s) := hs0.on b7 b7.size
        go_wp2
        refine bodyPost_ret (v := .tuple #[.agg #[.slice A s.refs.length c, .slice A2 s.locks.length c2], .bool false]) (by simp [results, Tryd.results80, go_sem, p0, p1]) rfl ?_
        obtain ⟨hb', hs'⟩ := HST.out.no HNO.out
        rw [hb', hs']
        exact ⟨_, rfl, HRS.out, b7⟩
      | true =>
        have HUV := hid (hvu.1 rfl)
        clear CU hvu
        obtain ⟨vf, hvf⟩ := bool_of (Fits s.refs r.us)
        have CF := hid (l11Fits_is vf A A3 c c3 s.refs r.us w2 w.heap.size w.heap.size (hr0.below b1 (Nat.le_refl _)) hi.out.refs.1 (hu0.below b1 (Nat.le_refl _)) (refs4_of HUV.out) hul hvf)
        go_wp2_with fail
        refine CF.out.mono ?_
        rintro e w3 ⟨rfl, d3⟩
        replace x0 := x0.later d3
        replace x1 := x1.later d3
        replace x2 := x2.later d3
        replace b1 := b1.trans ((d3).mono b1.size)
        replace zz := b1.size
        clear y0 y1 r0 r1 r2 t0 t1 tf
        obtain ⟨y0, y1, -⟩ := id x0.reads
        obtain ⟨r0, r1, r2, -⟩ := id x1.reads
        obtain ⟨t0, t1, tf⟩ := id x2.reads
        clear CF
        cases vf with
        | false =>
          have HNO : Hid (¬ ∃ x, Step rs s r x) := fun ⟨x, hx⟩ => by have := hvf.2 (step_1 hx hk1).2.2.1; cases this
          clear hvf e1 e2
          obtain ⟨p0, p1, -⟩ := ((x2.set0 (.slice A s.refs.length c)).set1 (.slice A2 s.locks.length c2)).reads
          have b7 := (b1.setCell (p := ⟨w.heap.size + 1 + 1, 0, none⟩) (by show w.heap.size ≤ w.heap.size + 1 + 1; omega) (.slice A s.refs.length c)).setCell (p := ⟨w.heap.size + 1 + 1, 1, none⟩) (by show w.heap.size ≤ w.heap.size + 1 + 1; omega) (.slice A2 s.locks.length c2)
          have HRS : Hid (Stt _ _ (stV A s.refs.length c A2 s.locks.length c2) s) := hs0.on b7 b7.size
          go_wp2
          refine bodyPost_ret (v := .tuple #[.agg #[.slice A s.refs.length c, .slice A2 s.locks.length c2], .bool false]) (by simp [results, Tryd.results80, go_sem, p0, p1]) rfl ?_
          obtain ⟨hb', hs'⟩ := HST.out.no HNO.out
          rw [hb', hs']
          exact ⟨_, rfl, HRS.out, b7⟩
        | true =>
          have HF := hid (hvf.1 rfl)
          clear hvf
          obtain ⟨ok, hok⟩ := bool_of (Fits s.locks (lk r.t r.us))
          have CT := hid (l12Take_any ok A2 A3 c2 c3 s.locks r.t r.us w3 ((hl0.below b1 (Nat.le_refl _)).more zz) hi.out.locks.1 ((hu0.below b1 (Nat.le_refl _)).more zz) (refs4_of HUV.out) hul hok)
          obtain ⟨qs, hqs⟩ : ∃ qs, takes s.locks r.t r.us ok = qs := ⟨_, rfl⟩
          rw [hqs] at CT
          have HQ : Hid (b = ok ∧ s' = ⟨s.refs, qs⟩ ∧ qs.length = s.locks.length) := by
            cases ok with
            | true =>
              obtain ⟨h1, h2⟩ := HST.out.yes (.prepare hk1 (by rw [HZ.out]; exact hz0) HUV.out HF.out (hok.1 rfl))
              refine ⟨h1, by rw [h2, ← hqs]; rfl, by rw [← hqs]; exact setR_length _ _⟩
            | false =>
              obtain ⟨h1, h2⟩ := HST.out.no fun ⟨x, hx⟩ => by have := hok.2 (step_1 hx hk1).2.2.2; cases this
              exact ⟨h1, by rw [h2, ← hqs]; rfl, by rw [← hqs]; rfl⟩
          clear hok hqs
          go_wp2_with fail
          refine CT.out.mono ?_
          rintro e w4 ⟨A5, c5, rfl, o5, d4⟩
          have hc5 : qs.length ≤ c5 := by obtain ⟨_, _, e, _, h⟩ := o5.form; injection e with _ _ e; omega
          replace x0 := x0.later d4
          replace x1 := x1.later d4
          replace x2 := x2.later d4
          replace b1 := b1.trans ((d4).mono b1.size)
          replace zz := b1.size
          clear y0 y1 r0 r1 r2 t0 t1 tf
          obtain ⟨y0, y1, -⟩ := id x0.reads
          obtain ⟨r0, r1, r2, -⟩ := id x1.reads
          obtain ⟨t0, t1, tf⟩ := id x2.reads
          clear CT e1 e2
          have o6 := (o5.keptT (by decide) (but_set w4 (w.heap.size + 1 + 1) 0 (.slice A s.refs.length c)) (blk_type x2)).keptT (by decide) (but_set _ (w.heap.size + 1 + 1) 1 (.slice A5 qs.length c5)) (blk_type (x2.set0 _))
          obtain ⟨p0, p1, -⟩ := ((x2.set0 (.slice A s.refs.length c)).set1 (.slice A5 qs.length c5)).reads
          have b7 := (b1.setCell (p := ⟨w.heap.size + 1 + 1, 0, none⟩) (by show w.heap.size ≤ w.heap.size + 1 + 1; omega) (.slice A s.refs.length c)).setCell (p := ⟨w.heap.size + 1 + 1, 1, none⟩) (by show w.heap.size ≤ w.heap.size + 1 + 1; omega) (.slice A5 qs.length c5)
          have HRS : Hid (Stt _ _ (stV A s.refs.length c A5 qs.length c5) ⟨s.refs, qs⟩) := ⟨A, c, A5, c5, rfl, (hr0.below b7 (Nat.le_refl _)).more b7.size, hrc, o6.row, hc5⟩
          clear o5 o6
          go_wp2
          refine bodyPost_ret (v := .tuple #[.agg #[.slice A s.refs.length c, .slice A5 qs.length c5], .bool ok]) (by simp [results, Tryd.results80, go_sem, p0, p1]) rfl ?_
          obtain ⟨hb', hs', -⟩ := HQ.out
          rw [hb', hs']
          exact ⟨_, rfl, HRS.out, b7⟩
    · have e2 : (z != 0) = true := by rw [bne_iff_ne]; exact hz0
      have HNO : Hid (¬ ∃ x, Step rs s r x) := fun ⟨x, hx⟩ => hz0 (by rw [← HZ.out]; exact (step_1 hx hk1).1)
      obtain ⟨p0, p1, -⟩ := ((x2.set0 (.slice A s.refs.length c)).set1 (.slice A2 s.locks.length c2)).reads
      have b7 := (b1.setCell (p := ⟨w.heap.size + 1 + 1, 0, none⟩) (by show w.heap.size ≤ w.heap.size + 1 + 1; omega) (.slice A s.refs.length c)).setCell (p := ⟨w.heap.size + 1 + 1, 1, none⟩) (by show w.heap.size ≤ w.heap.size + 1 + 1; omega) (.slice A2 s.locks.length c2)
      have HRS : Hid (Stt _ _ (stV A s.refs.length c A2 s.locks.length c2) s) := hs0.on b7 b7.size
      go_wp2
      refine bodyPost_ret (v := .tuple #[.agg #[.slice A s.refs.length c, .slice A2 s.locks.length c2], .bool false]) (by simp [results, Tryd.results80, go_sem, p0, p1]) rfl ?_
      obtain ⟨hb', hs'⟩ := HST.out.no HNO.out
      rw [hb', hs']
      exact ⟨_, rfl, HRS.out, b7⟩
  · have e1 : (r.k == 1) = false := by rw [beq_eq_false_iff_ne]; exact hk1
    by_cases hk2 : r.k = 2
    · have e2 : (r.k == 2) = true := by rw [beq_iff_eq]; exact hk2
      by_cases hz1 : z = 1
      · have e3 : (z != 1) = false := by rw [bne_eq_false_iff_eq]; exact hz1
        by_cases hl : r.us.length = 0
        · have e4 : decide ((0 : Int) < (r.us.length : Int)) = false := decide_eq_false (by omega)
          have hx : Step rs s r ⟨setR s.refs (Sh.upd rs r.t), freeL r.t s.locks⟩ := .commit hk2 (by rw [HZ.out]; exact hz1) (List.eq_nil_of_length_eq_zero hl)
          obtain ⟨us, hus⟩ : ∃ us, Sh.upd rs r.t = us := ⟨_, rfl⟩
          have HQ0 := HST.out.yes hx
          rw [hus] at HQ0
          obtain ⟨qr, hqr⟩ : ∃ qr, setR s.refs us = qr := ⟨_, rfl⟩
          obtain ⟨ql, hql⟩ : ∃ ql, freeL r.t s.locks = ql := ⟨_, rfl⟩
          rw [hqr, hql] at HQ0
          have HQ := hid HQ0
          have HR4 : Hid (Refs4 us) := by
            show Refs4 us
            rw [← hus]
            exact refs4_of (hi.out.prep _ (by rw [HZ.out]; exact hz1)).2.1
          have hul2 : us.length ≤ 1048600 := by
            have := upd_len hf.2 (t := r.t)
            rw [hus] at this
            omega
          have x0d : Blk2s w1.drew w.heap.size 37 (.slice A s.refs.length c) (.slice A2 s.locks.length c2) := x0
          have x1d : Blk3s w1.drew (w.heap.size + 1) 33 (.int .i64 r.k) (.int .i64 r.t) (.slice A3 r.us.length c3) := x1
          have x2d : Blk2s w1.drew (w.heap.size + 1 + 1) 37 (.slice none 0 0) (.slice none 0 0) := x2
          have b1d : Below w.heap.size w w1.drew := b1.drew
          have ba : Hid (∀ x, Below w1.drew.heap.size w1.drew x → Below w.heap.size w x) := fun x hb => b1d.trans (hb.mono b1d.size)
          have CU : Hid (∀ x, Below w1.drew.heap.size w1.drew x → Calls Tryd.prog 98 #[.slice A0 rs.length c0, .int .i64 r.t] x (ShownU us x)) := fun x hb => l21Updates_any us A0 c0 rs r.t x ((h.below (ba.out x hb) (Nat.le_refl _)).more (ba.out x hb).size) (by have := hf.1; omega) hus
          have CS : Hid (∀ x A5 c5, Below w1.drew.heap.size w1.drew x → Row x x.heap.size A5 (upsV us) → Calls Tryd.prog 97 #[.slice A s.refs.length c, .slice A5 us.length c5] x (IntsOf qr x)) := fun x A5 c5 hb hr => by
            rw [← hqr]
            exact l11Set_any A A5 c c5 s.refs us x ((hr0.below (ba.out x hb) (Nat.le_refl _)).more (ba.out x hb).size) hi.out.refs.1 hr HR4.out hul2
          have CFr : Hid (∀ x, Below w1.drew.heap.size w1.drew x → Calls Tryd.prog 99 #[.slice A2 s.locks.length c2, .int .i64 r.t] x (IntsOf ql x)) := fun x hb => by
            rw [← hql]
            exact l12Free_any A2 c2 s.locks r.t x ((hl0.below (ba.out x hb) (Nat.le_refl _)).more (ba.out x hb).size) (by have := hi.out.locks.1; omega)
          have HKP : Hid (∀ x, Below w1.drew.heap.size w1.drew x → x.cell? ⟨w.heap.size, 0, none⟩ = some (.slice A s.refs.length c) ∧ x.cell? ⟨w.heap.size, 1, none⟩ = some (.slice A2 s.locks.length c2) ∧ x.cell? ⟨w.heap.size + 1, 1, none⟩ = some (.int .i64 r.t)) := fun x hb => ⟨(x0d.later hb).reads.1, (x0d.later hb).reads.2.1, (x1d.later hb).reads.2.1⟩
          have NB0 := Below.refl w1.drew.heap.size w1.drew
          clear hqr hql hus hx HZ HST HQ0 HR4
          subst hz1
          go_wp2_with fail
          refine wp_region_held_drew (S := fun x => x.cell? ⟨w.heap.size, 0, none⟩ = some (.slice A s.refs.length c) ∧ x.cell? ⟨w.heap.size, 1, none⟩ = some (.slice A2 s.locks.length c2) ∧ x.cell? ⟨w.heap.size + 1, 1, none⟩ = some (.int .i64 r.t)) (by kernel_rfl) (HKP.out _ NB0) (fun hHeld => ?_)
          refine wpAnyH_take (i := 0) (oi := _) (v := ?_) rfl (by kernel_rfl) (by kernel_rfl) (by kernel_rfl) (fun _ _ _ h => h) (Or.inl ⟨by rfl, ?_⟩) hHeld ?_
          rotate_left
          · (intro w' hSw; (try dsimp only at hSw); go_simp <;> with_reducible rfl)
          try simp only [Act.put, List.getElem_toArray, List.getElem_cons_succ, List.getElem_cons_zero, List.setIfInBounds_toArray, List.set_cons_zero, List.set_cons_succ]
          refine wpAnyH_take (i := 1) (oi := _) (v := ?_) rfl (by kernel_rfl) (by kernel_rfl) (by kernel_rfl) (fun _ _ _ h => h) (Or.inl ⟨by rfl, ?_⟩) hHeld ?_
          rotate_left
          · (intro w' hSw; (try dsimp only at hSw); go_simp <;> with_reducible rfl)
          try simp only [Act.put, List.getElem_toArray, List.getElem_cons_succ, List.getElem_cons_zero, List.setIfInBounds_toArray, List.set_cons_zero, List.set_cons_succ]
          refine wpAnyH_take (i := 2) (oi := _) (v := ?_) rfl (by kernel_rfl) (by kernel_rfl) (by kernel_rfl) (fun _ _ _ h => h) (Or.inl ⟨by rfl, ?_⟩) hHeld ?_
          rotate_left
          · (intro w' hSw; (try dsimp only at hSw); go_simp <;> with_reducible rfl)
          try simp only [Act.put, List.getElem_toArray, List.getElem_cons_succ, List.getElem_cons_zero, List.setIfInBounds_toArray, List.set_cons_zero, List.set_cons_succ]
          refine wpAnyH_take (i := 3) (oi := _) (v := ?_) rfl (by kernel_rfl) (by kernel_rfl) (by kernel_rfl) (fun _ _ _ h => h) (Or.inl ⟨by rfl, ?_⟩) hHeld ?_
          rotate_left
          · (intro w' hSw; (try dsimp only at hSw); go_simp <;> with_reducible rfl)
          try simp only [Act.put, List.getElem_toArray, List.getElem_cons_succ, List.getElem_cons_zero, List.setIfInBounds_toArray, List.set_cons_zero, List.set_cons_succ]
          refine wpAnyH_take (i := 4) (oi := _) (v := ?_) rfl (by kernel_rfl) (by kernel_rfl) (by kernel_rfl) (fun _ _ _ h => h) (Or.inl ⟨by rfl, ?_⟩) hHeld ?_
          rotate_left
          · (intro w' hSw; (try dsimp only at hSw); go_simp <;> with_reducible rfl)
          try simp only [Act.put, List.getElem_toArray, List.getElem_cons_succ, List.getElem_cons_zero, List.setIfInBounds_toArray, List.set_cons_zero, List.set_cons_succ]
          refine wpAnyH_take (i := 7) (oi := _) (v := ?_) rfl (by kernel_rfl) (by kernel_rfl) (by kernel_rfl) (fun _ _ _ h => h) (Or.inl ⟨by rfl, ?_⟩) hHeld ?_
          rotate_left
          · (intro w' hSw; (try dsimp only at hSw); go_simp <;> with_reducible rfl)
          try simp only [Act.put, List.getElem_toArray, List.getElem_cons_succ, List.getElem_cons_zero, List.setIfInBounds_toArray, List.set_cons_zero, List.set_cons_succ]
          refine wpAnyH_take (i := 8) (oi := _) (v := ?_) rfl (by kernel_rfl) (by kernel_rfl) (by kernel_rfl) (fun _ _ _ h => h) (Or.inl ⟨by rfl, ?_⟩) hHeld ?_
          rotate_left
          · (intro w' hSw; (try dsimp only at hSw); go_simp <;> with_reducible rfl)
          try simp only [Act.put, List.getElem_toArray, List.getElem_cons_succ, List.getElem_cons_zero, List.setIfInBounds_toArray, List.set_cons_zero, List.set_cons_succ]
          refine wpAnyH_take (i := 9) (oi := _) (v := ?_) rfl (by kernel_rfl) (by kernel_rfl) (by kernel_rfl) (fun _ _ _ h => h) (Or.inl ⟨by rfl, ?_⟩) hHeld ?_
          rotate_left
          · (intro w' hSw; (try dsimp only at hSw); go_simp <;> with_reducible rfl)
          try simp only [Act.put, List.getElem_toArray, List.getElem_cons_succ, List.getElem_cons_zero, List.setIfInBounds_toArray, List.set_cons_zero, List.set_cons_succ]
          refine wpAnyH_take (i := 10) (oi := _) (v := ?_) rfl (by kernel_rfl) (by kernel_rfl) (by kernel_rfl) (fun _ _ _ h => h) (Or.inl ⟨by rfl, ?_⟩) hHeld ?_
          rotate_left
          · (intro w' hSw; (try dsimp only at hSw); go_simp <;> with_reducible rfl)
          try simp only [Act.put, List.getElem_toArray, List.getElem_cons_succ, List.getElem_cons_zero, List.setIfInBounds_toArray, List.set_cons_zero, List.set_cons_succ]
          refine wpAnyH_ready (rs := [5]) (by kernel_rfl) (by simp) (AllReadyH.cons (o := _) rfl (fun K hK => ?_) AllReadyH.nil)
          try simp only [Act.put, List.getElem_toArray, List.getElem_cons_succ, List.getElem_cons_zero, List.setIfInBounds_toArray, List.set_cons_zero, List.set_cons_succ]
          go_simp
          go_at_call 98
          refine (CU.out _ NB0).mono ?_
          rintro e w5 ⟨A5, c5, rfl, hc5, hu5, d5⟩
          have NB1 := (NB0).trans (d5.mono (NB0).size)
          refine hK.out _ _ (HKP.out _ NB1) (fun hHeld => ?_)
          clear hK K
          try simp only [Act.put, List.getElem_toArray, List.getElem_cons_succ, List.getElem_cons_zero, List.setIfInBounds_toArray, List.set_cons_zero, List.set_cons_succ]
          refine wpAnyH_ready (rs := [6]) (by kernel_rfl) (by simp) (AllReadyH.cons (o := _) rfl (fun K hK => ?_) AllReadyH.nil)
          try simp only [Act.put, List.getElem_toArray, List.getElem_cons_succ, List.getElem_cons_zero, List.setIfInBounds_toArray, List.set_cons_zero, List.set_cons_succ]
          go_simp
          go_at_call 97
          refine (CS.out _ A5 c5 NB1 hu5).mono ?_
          rintro e w6 ⟨A6, c6, rfl, o6, d6⟩
          have NB2 := (NB1).trans (d6.mono (NB1).size)
          replace o6 := o6.base (Nat.le_trans b1d.size (NB1).size)
          refine hK.out _ _ (HKP.out _ NB2) (fun hHeld => ?_)
          clear hK K
          try simp only [Act.put, List.getElem_toArray, List.getElem_cons_succ, List.getElem_cons_zero, List.setIfInBounds_toArray, List.set_cons_zero, List.set_cons_succ]
          refine wpAnyH_ready (rs := [11]) (by kernel_rfl) (by simp) (AllReadyH.cons (o := _) rfl (fun K hK => ?_) AllReadyH.nil)
          try simp only [Act.put, List.getElem_toArray, List.getElem_cons_succ, List.getElem_cons_zero, List.setIfInBounds_toArray, List.set_cons_zero, List.set_cons_succ]
          go_simp
          go_at_call 99
          refine (CFr.out _ NB2).mono ?_
          rintro e w7 ⟨A7, c7, rfl, o7, d7⟩
          have NB3 := (NB2).trans (d7.mono (NB2).size)
          replace o7 := o7.base (Nat.le_trans b1d.size (NB2).size)
          refine hK.out _ _ (HKP.out _ NB3) (fun hHeld => ?_)
          clear hK K
          try simp only [Act.put, List.getElem_toArray, List.getElem_cons_succ, List.getElem_cons_zero, List.setIfInBounds_toArray, List.set_cons_zero, List.set_cons_succ]
          replace o6 := o6.below d7 (Nat.le_refl _)
          have hc6 : qr.length ≤ c6 := by obtain ⟨_, _, e, _, h⟩ := o6.form; injection e with _ _ e; omega
          have hc7 : ql.length ≤ c7 := by obtain ⟨_, _, e, _, h⟩ := o7.form; injection e with _ _ e; omega
          have z2 := x2d.later NB3
          have bw := ba.out _ NB3
          have p6 := (o6.keptT (by decide) (but_set w7 (w.heap.size + 1 + 1) 0 (.slice A6 qr.length c6)) (blk_type z2)).keptT (by decide) (but_set _ (w.heap.size + 1 + 1) 1 (.slice A7 ql.length c7)) (blk_type (z2.set0 _))
          have p7 := (o7.keptT (by decide) (but_set w7 (w.heap.size + 1 + 1) 0 (.slice A6 qr.length c6)) (blk_type z2)).keptT (by decide) (but_set _ (w.heap.size + 1 + 1) 1 (.slice A7 ql.length c7)) (blk_type (z2.set0 _))
          obtain ⟨p0, p1, -⟩ := ((z2.set0 (.slice A6 qr.length c6)).set1 (.slice A7 ql.length c7)).reads
          have b7 := (bw.setCell (p := ⟨w.heap.size + 1 + 1, 0, none⟩) (by show w.heap.size ≤ w.heap.size + 1 + 1; omega) (.slice A6 qr.length c6)).setCell (p := ⟨w.heap.size + 1 + 1, 1, none⟩) (by show w.heap.size ≤ w.heap.size + 1 + 1; omega) (.slice A7 ql.length c7)
          have HRS : Hid (Stt _ _ (stV A6 qr.length c6 A7 ql.length c7) ⟨qr, ql⟩) := ⟨A6, c6, A7, c7, rfl, p6.row, hc6, p7.row, hc7⟩
          have HS9 : Hid ((((w7).setCell ⟨w.heap.size + 1 + 1, 0, none⟩ (.slice A6 qr.length c6)).setCell ⟨w.heap.size + 1 + 1, 1, none⟩ (.slice A7 ql.length c7)).cell? ⟨w.heap.size, 0, none⟩ = some (.slice A s.refs.length c) ∧ (((w7).setCell ⟨w.heap.size + 1 + 1, 0, none⟩ (.slice A6 qr.length c6)).setCell ⟨w.heap.size + 1 + 1, 1, none⟩ (.slice A7 ql.length c7)).cell? ⟨w.heap.size, 1, none⟩ = some (.slice A2 s.locks.length c2) ∧ (((w7).setCell ⟨w.heap.size + 1 + 1, 0, none⟩ (.slice A6 qr.length c6)).setCell ⟨w.heap.size + 1 + 1, 1, none⟩ (.slice A7 ql.length c7)).cell? ⟨w.heap.size + 1, 1, none⟩ = some (.int .i64 r.t)) := by
            have f0 := ((x0d.later NB3).far (p := ⟨w.heap.size + 1 + 1, 0, none⟩) (by show w.heap.size ≠ w.heap.size + 1 + 1; omega) (.slice A6 qr.length c6)).far (p := ⟨w.heap.size + 1 + 1, 1, none⟩) (by show w.heap.size ≠ w.heap.size + 1 + 1; omega) (.slice A7 ql.length c7)
            have f1 := ((x1d.later NB3).far (p := ⟨w.heap.size + 1 + 1, 0, none⟩) (by show w.heap.size + 1 ≠ w.heap.size + 1 + 1; omega) (.slice A6 qr.length c6)).far (p := ⟨w.heap.size + 1 + 1, 1, none⟩) (by show w.heap.size + 1 ≠ w.heap.size + 1 + 1; omega) (.slice A7 ql.length c7)
            exact ⟨f0.reads.1, f0.reads.2.1, f1.reads.2.1⟩
          clear o6 o7 p6 p7 y0 y1 r0 r1 r2 t0 t1 tf
          obtain ⟨t0, t1, tf⟩ := id z2.reads
          refine wpAnyH_take (i := 12) (oi := _) (v := ?_) rfl (by kernel_rfl) (by kernel_rfl) (by kernel_rfl) (fun _ _ _ h => h) (Or.inl ⟨by rfl, ?_⟩) hHeld ?_
          rotate_left
          · (intro w' hSw; (try dsimp only at hSw); go_simp <;> with_reducible rfl)
          try simp only [Act.put, List.getElem_toArray, List.getElem_cons_succ, List.getElem_cons_zero, List.setIfInBounds_toArray, List.set_cons_zero, List.set_cons_succ]
          refine wpAnyH_ready (rs := [13]) (by kernel_rfl) (by simp) (AllReadyH.cons (o := _) rfl (fun K hK => ?_) AllReadyH.nil)
          try simp only [Act.put, List.getElem_toArray, List.getElem_cons_succ, List.getElem_cons_zero, List.setIfInBounds_toArray, List.set_cons_zero, List.set_cons_succ]
          go_simp
          refine hK.out _ _ (HS9.out) (fun hHeld => ?_)
          clear hK K
          try simp only [Act.put, List.getElem_toArray, List.getElem_cons_succ, List.getElem_cons_zero, List.setIfInBounds_toArray, List.set_cons_zero, List.set_cons_succ]
          refine wpAnyH_take (i := 14) (oi := _) (v := ?_) rfl (by kernel_rfl) (by kernel_rfl) (by kernel_rfl) (fun _ _ _ h => h) (Or.inl ⟨by rfl, ?_⟩) hHeld ?_
          rotate_left
          · (intro w' hSw; (try dsimp only at hSw); go_simp <;> with_reducible rfl)
          try simp only [Act.put, List.getElem_toArray, List.getElem_cons_succ, List.getElem_cons_zero, List.setIfInBounds_toArray, List.set_cons_zero, List.set_cons_succ]
          refine wpAnyH_done (by kernel_rfl) ?_ _
          go_wp2
          refine bodyPost_ret (v := .tuple #[.agg #[.slice A6 qr.length c6, .slice A7 ql.length c7], .bool true]) (by simp [results, Tryd.results80, go_sem, p0, p1]) rfl ?_
          obtain ⟨hb', hs'⟩ := HQ.out
          rw [hb', hs']
          exact ⟨_, rfl, HRS.out, b7⟩
        · have e4 : decide ((0 : Int) < (r.us.length : Int)) = true := decide_eq_true (by omega)
          have e5 : 0 < r.us.length := by omega
          have HNO : Hid (¬ ∃ x, Step rs s r x) := fun ⟨x, hx⟩ => hl (by rw [(step_2 hx hk2).2]; rfl)
          obtain ⟨p0, p1, -⟩ := ((x2.set0 (.slice A s.refs.length c)).set1 (.slice A2 s.locks.length c2)).reads
          have b7 := (b1.setCell (p := ⟨w.heap.size + 1 + 1, 0, none⟩) (by show w.heap.size ≤ w.heap.size + 1 + 1; omega) (.slice A s.refs.length c)).setCell (p := ⟨w.heap.size + 1 + 1, 1, none⟩) (by show w.heap.size ≤ w.heap.size + 1 + 1; omega) (.slice A2 s.locks.length c2)
          have HRS : Hid (Stt _ _ (stV A s.refs.length c A2 s.locks.length c2) s) := hs0.on b7 b7.size
          go_wp2
          refine bodyPost_ret (v := .tuple #[.agg #[.slice A s.refs.length c, .slice A2 s.locks.length c2], .bool false]) (by simp [results, Tryd.results80, go_sem, p0, p1]) rfl ?_
          obtain ⟨hb', hs'⟩ := HST.out.no HNO.out
          rw [hb', hs']
          exact ⟨_, rfl, HRS.out, b7⟩
      · have e3 : (z != 1) = true := by rw [bne_iff_ne]; exact hz1
        have HNO : Hid (¬ ∃ x, Step rs s r x) := fun ⟨x, hx⟩ => hz1 (by rw [← HZ.out]; exact (step_2 hx hk2).1)
        obtain ⟨p0, p1, -⟩ := ((x2.set0 (.slice A s.refs.length c)).set1 (.slice A2 s.locks.length c2)).reads
        have b7 := (b1.setCell (p := ⟨w.heap.size + 1 + 1, 0, none⟩) (by show w.heap.size ≤ w.heap.size + 1 + 1; omega) (.slice A s.refs.length c)).setCell (p := ⟨w.heap.size + 1 + 1, 1, none⟩) (by show w.heap.size ≤ w.heap.size + 1 + 1; omega) (.slice A2 s.locks.length c2)
        have HRS : Hid (Stt _ _ (stV A s.refs.length c A2 s.locks.length c2) s) := hs0.on b7 b7.size
        go_wp2
        refine bodyPost_ret (v := .tuple #[.agg #[.slice A s.refs.length c, .slice A2 s.locks.length c2], .bool false]) (by simp [results, Tryd.results80, go_sem, p0, p1]) rfl ?_
        obtain ⟨hb', hs'⟩ := HST.out.no HNO.out
        rw [hb', hs']
        exact ⟨_, rfl, HRS.out, b7⟩
    · have e2 : (r.k == 2) = false := by rw [beq_eq_false_iff_ne]; exact hk2
      by_cases hk3 : r.k = 3
      · have e3 : (r.k == 3) = true := by rw [beq_iff_eq]; exact hk3
        by_cases hz1 : z = 0 ∨ z = 1
        · by_cases hl : r.us.length = 0
          · have e4 : decide ((0 : Int) < (r.us.length : Int)) = false := decide_eq_false (by omega)
            have hx : Step rs s r ⟨s.refs, freeL r.t s.locks⟩ := .abort hk3 (by rw [HZ.out]; exact hz1) (List.eq_nil_of_length_eq_zero hl)
            have HQ := hid (HST.out.yes hx)
            obtain ⟨qs, hqs⟩ : ∃ qs, freeL r.t s.locks = qs := ⟨_, rfl⟩
            have x0d : Blk2s w1.drew w.heap.size 37 (.slice A s.refs.length c) (.slice A2 s.locks.length c2) := x0
            have x1d : Blk3s w1.drew (w.heap.size + 1) 33 (.int .i64 r.k) (.int .i64 r.t) (.slice A3 r.us.length c3) := x1
            have x2d : Blk2s w1.drew (w.heap.size + 1 + 1) 37 (.slice none 0 0) (.slice none 0 0) := x2
            have b1d : Below w.heap.size w w1.drew := b1.drew
            have CFr := hid (l12Free_any A2 c2 s.locks r.t w1.drew ((hl0.below b1d (Nat.le_refl _)).more b1d.size) (by have := hi.out.locks.1; omega))
            rw [hqs] at CFr HQ
            have HKP : Hid (∀ x, Below w1.drew.heap.size w1.drew x → x.cell? ⟨w.heap.size, 0, none⟩ = some (.slice A s.refs.length c) ∧ x.cell? ⟨w.heap.size, 1, none⟩ = some (.slice A2 s.locks.length c2) ∧ x.cell? ⟨w.heap.size + 1, 1, none⟩ = some (.int .i64 r.t)) := fun x hb => ⟨(x0d.later hb).reads.1, (x0d.later hb).reads.2.1, (x1d.later hb).reads.2.1⟩
            clear hqs hx HZ HST
            have HGO : z = 0 ∨ z = 1 := hz1
            rcases HGO with rfl | rfl
            · skip
              go_wp2_with fail
              refine wp_region_held_drew (S := fun x => x.cell? ⟨w.heap.size, 0, none⟩ = some (.slice A s.refs.length c) ∧ x.cell? ⟨w.heap.size, 1, none⟩ = some (.slice A2 s.locks.length c2) ∧ x.cell? ⟨w.heap.size + 1, 1, none⟩ = some (.int .i64 r.t)) (by kernel_rfl) (HKP.out _ (Below.refl _ _)) (fun hHeld => ?_)
              refine wpAnyH_take (i := 0) (oi := _) (v := ?_) rfl (by kernel_rfl) (by kernel_rfl) (by kernel_rfl) (fun _ _ _ h => h) (Or.inl ⟨by rfl, ?_⟩) hHeld ?_
              rotate_left
              · (intro w' hSw; (try dsimp only at hSw); go_simp <;> with_reducible rfl)
              try simp only [Act.put, List.getElem_toArray, List.getElem_cons_succ, List.getElem_cons_zero, List.setIfInBounds_toArray, List.set_cons_zero, List.set_cons_succ]
              refine wpAnyH_take (i := 1) (oi := _) (v := ?_) rfl (by kernel_rfl) (by kernel_rfl) (by kernel_rfl) (fun _ _ _ h => h) (Or.inl ⟨by rfl, ?_⟩) hHeld ?_
              rotate_left
              · (intro w' hSw; (try dsimp only at hSw); go_simp <;> with_reducible rfl)
              try simp only [Act.put, List.getElem_toArray, List.getElem_cons_succ, List.getElem_cons_zero, List.setIfInBounds_toArray, List.set_cons_zero, List.set_cons_succ]
              refine wpAnyH_take (i := 2) (oi := _) (v := ?_) rfl (by kernel_rfl) (by kernel_rfl) (by kernel_rfl) (fun _ _ _ h => h) (Or.inl ⟨by rfl, ?_⟩) hHeld ?_
              rotate_left
              · (intro w' hSw; (try dsimp only at hSw); go_simp <;> with_reducible rfl)
              try simp only [Act.put, List.getElem_toArray, List.getElem_cons_succ, List.getElem_cons_zero, List.setIfInBounds_toArray, List.set_cons_zero, List.set_cons_succ]
              refine wpAnyH_take (i := 3) (oi := _) (v := ?_) rfl (by kernel_rfl) (by kernel_rfl) (by kernel_rfl) (fun _ _ _ h => h) (Or.inl ⟨by rfl, ?_⟩) hHeld ?_
              rotate_left
              · (intro w' hSw; (try dsimp only at hSw); go_simp <;> with_reducible rfl)
              try simp only [Act.put, List.getElem_toArray, List.getElem_cons_succ, List.getElem_cons_zero, List.setIfInBounds_toArray, List.set_cons_zero, List.set_cons_succ]
              refine wpAnyH_take (i := 4) (oi := _) (v := ?_) rfl (by kernel_rfl) (by kernel_rfl) (by kernel_rfl) (fun _ _ _ h => h) (Or.inl ⟨by rfl, ?_⟩) hHeld ?_
              rotate_left
              · (intro w' hSw; (try dsimp only at hSw); go_simp <;> with_reducible rfl)
              try simp only [Act.put, List.getElem_toArray, List.getElem_cons_succ, List.getElem_cons_zero, List.setIfInBounds_toArray, List.set_cons_zero, List.set_cons_succ]
              refine wpAnyH_take (i := 5) (oi := _) (v := ?_) rfl (by kernel_rfl) (by kernel_rfl) (by kernel_rfl) (fun _ _ _ h => h) (Or.inl ⟨by rfl, ?_⟩) hHeld ?_
              rotate_left
              · (intro w' hSw; (try dsimp only at hSw); go_simp <;> with_reducible rfl)
              try simp only [Act.put, List.getElem_toArray, List.getElem_cons_succ, List.getElem_cons_zero, List.setIfInBounds_toArray, List.set_cons_zero, List.set_cons_succ]
              refine wpAnyH_ready (rs := [6]) (by kernel_rfl) (by simp) (AllReadyH.cons (o := _) rfl (fun K hK => ?_) AllReadyH.nil)
              try simp only [Act.put, List.getElem_toArray, List.getElem_cons_succ, List.getElem_cons_zero, List.setIfInBounds_toArray, List.set_cons_zero, List.set_cons_succ]
              go_simp
              go_at_call 99
              refine CFr.out.mono ?_
              rintro e w4 ⟨A5, c5, rfl, o5, d4⟩
              have hc5 : qs.length ≤ c5 := by obtain ⟨_, _, e, _, h⟩ := o5.form; injection e with _ _ e; omega
              replace x0 := x0d.later d4
              replace x2 := x2d.later d4
              replace b1 := b1d.trans (d4.mono b1d.size)
              clear y0 y1 r0 r1 r2 t0 t1 tf
              obtain ⟨t0, t1, tf⟩ := id x2.reads
              have o6 := (o5.keptT (by decide) (but_set w4 (w.heap.size + 1 + 1) 0 (.slice A s.refs.length c)) (blk_type x2)).keptT (by decide) (but_set _ (w.heap.size + 1 + 1) 1 (.slice A5 qs.length c5)) (blk_type (x2.set0 _))
              obtain ⟨p0, p1, -⟩ := ((x2.set0 (.slice A s.refs.length c)).set1 (.slice A5 qs.length c5)).reads
              have b7 := (b1.setCell (p := ⟨w.heap.size + 1 + 1, 0, none⟩) (by show w.heap.size ≤ w.heap.size + 1 + 1; omega) (.slice A s.refs.length c)).setCell (p := ⟨w.heap.size + 1 + 1, 1, none⟩) (by show w.heap.size ≤ w.heap.size + 1 + 1; omega) (.slice A5 qs.length c5)
              have HRS : Hid (Stt _ _ (stV A s.refs.length c A5 qs.length c5) ⟨s.refs, qs⟩) := ⟨A, c, A5, c5, rfl, (hr0.below b7 (Nat.le_refl _)).more b7.size, hrc, o6.row, hc5⟩
              have HS9 : Hid (((w4.setCell ⟨w.heap.size + 1 + 1, 0, none⟩ (.slice A s.refs.length c)).setCell ⟨w.heap.size + 1 + 1, 1, none⟩ (.slice A5 qs.length c5)).cell? ⟨w.heap.size, 0, none⟩ = some (.slice A s.refs.length c) ∧ ((w4.setCell ⟨w.heap.size + 1 + 1, 0, none⟩ (.slice A s.refs.length c)).setCell ⟨w.heap.size + 1 + 1, 1, none⟩ (.slice A5 qs.length c5)).cell? ⟨w.heap.size, 1, none⟩ = some (.slice A2 s.locks.length c2) ∧ ((w4.setCell ⟨w.heap.size + 1 + 1, 0, none⟩ (.slice A s.refs.length c)).setCell ⟨w.heap.size + 1 + 1, 1, none⟩ (.slice A5 qs.length c5)).cell? ⟨w.heap.size + 1, 1, none⟩ = some (.int .i64 r.t)) := by
                have f0 := (x0.far (p := ⟨w.heap.size + 1 + 1, 0, none⟩) (by show w.heap.size ≠ w.heap.size + 1 + 1; omega) (.slice A s.refs.length c)).far (p := ⟨w.heap.size + 1 + 1, 1, none⟩) (by show w.heap.size ≠ w.heap.size + 1 + 1; omega) (.slice A5 qs.length c5)
                have f1 := ((x1d.later d4).far (p := ⟨w.heap.size + 1 + 1, 0, none⟩) (by show w.heap.size + 1 ≠ w.heap.size + 1 + 1; omega) (.slice A s.refs.length c)).far (p := ⟨w.heap.size + 1 + 1, 1, none⟩) (by show w.heap.size + 1 ≠ w.heap.size + 1 + 1; omega) (.slice A5 qs.length c5)
                exact ⟨f0.reads.1, f0.reads.2.1, f1.reads.2.1⟩
              clear o5 o6
              refine hK.out _ _ (HKP.out _ d4) (fun hHeld => ?_)
              clear hK K
              try simp only [Act.put, List.getElem_toArray, List.getElem_cons_succ, List.getElem_cons_zero, List.setIfInBounds_toArray, List.set_cons_zero, List.set_cons_succ]
              refine wpAnyH_take (i := 7) (oi := _) (v := ?_) rfl (by kernel_rfl) (by kernel_rfl) (by kernel_rfl) (fun _ _ _ h => h) (Or.inl ⟨by rfl, ?_⟩) hHeld ?_
              rotate_left
              · (intro w' hSw; (try dsimp only at hSw); go_simp <;> with_reducible rfl)
              try simp only [Act.put, List.getElem_toArray, List.getElem_cons_succ, List.getElem_cons_zero, List.setIfInBounds_toArray, List.set_cons_zero, List.set_cons_succ]
              refine wpAnyH_ready (rs := [8]) (by kernel_rfl) (by simp) (AllReadyH.cons (o := _) rfl (fun K hK => ?_) AllReadyH.nil)
              try simp only [Act.put, List.getElem_toArray, List.getElem_cons_succ, List.getElem_cons_zero, List.setIfInBounds_toArray, List.set_cons_zero, List.set_cons_succ]
              go_simp
              refine hK.out _ _ (HS9.out) (fun hHeld => ?_)
              clear hK K
              try simp only [Act.put, List.getElem_toArray, List.getElem_cons_succ, List.getElem_cons_zero, List.setIfInBounds_toArray, List.set_cons_zero, List.set_cons_succ]
              refine wpAnyH_take (i := 9) (oi := _) (v := ?_) rfl (by kernel_rfl) (by kernel_rfl) (by kernel_rfl) (fun _ _ _ h => h) (Or.inl ⟨by rfl, ?_⟩) hHeld ?_
              rotate_left
              · (intro w' hSw; (try dsimp only at hSw); go_simp <;> with_reducible rfl)
              try simp only [Act.put, List.getElem_toArray, List.getElem_cons_succ, List.getElem_cons_zero, List.setIfInBounds_toArray, List.set_cons_zero, List.set_cons_succ]
              refine wpAnyH_done (by kernel_rfl) ?_ _
              go_wp2
              refine bodyPost_ret (v := .tuple #[.agg #[.slice A s.refs.length c, .slice A5 qs.length c5], .bool true]) (by simp [results, Tryd.results80, go_sem, p0, p1]) rfl ?_
              obtain ⟨hb', hs'⟩ := HQ.out
              rw [hb', hs']
              exact ⟨_, rfl, HRS.out, b7⟩
            · skip
              go_wp2_with fail
              refine wp_region_held_drew (S := fun x => x.cell? ⟨w.heap.size, 0, none⟩ = some (.slice A s.refs.length c) ∧ x.cell? ⟨w.heap.size, 1, none⟩ = some (.slice A2 s.locks.length c2) ∧ x.cell? ⟨w.heap.size + 1, 1, none⟩ = some (.int .i64 r.t)) (by kernel_rfl) (HKP.out _ (Below.refl _ _)) (fun hHeld => ?_)
              refine wpAnyH_take (i := 0) (oi := _) (v := ?_) rfl (by kernel_rfl) (by kernel_rfl) (by kernel_rfl) (fun _ _ _ h => h) (Or.inl ⟨by rfl, ?_⟩) hHeld ?_
              rotate_left
              · (intro w' hSw; (try dsimp only at hSw); go_simp <;> with_reducible rfl)
              try simp only [Act.put, List.getElem_toArray, List.getElem_cons_succ, List.getElem_cons_zero, List.setIfInBounds_toArray, List.set_cons_zero, List.set_cons_succ]
              refine wpAnyH_take (i := 1) (oi := _) (v := ?_) rfl (by kernel_rfl) (by kernel_rfl) (by kernel_rfl) (fun _ _ _ h => h) (Or.inl ⟨by rfl, ?_⟩) hHeld ?_
              rotate_left
              · (intro w' hSw; (try dsimp only at hSw); go_simp <;> with_reducible rfl)
              try simp only [Act.put, List.getElem_toArray, List.getElem_cons_succ, List.getElem_cons_zero, List.setIfInBounds_toArray, List.set_cons_zero, List.set_cons_succ]
              refine wpAnyH_take (i := 2) (oi := _) (v := ?_) rfl (by kernel_rfl) (by kernel_rfl) (by kernel_rfl) (fun _ _ _ h => h) (Or.inl ⟨by rfl, ?_⟩) hHeld ?_
              rotate_left
              · (intro w' hSw; (try dsimp only at hSw); go_simp <;> with_reducible rfl)
              try simp only [Act.put, List.getElem_toArray, List.getElem_cons_succ, List.getElem_cons_zero, List.setIfInBounds_toArray, List.set_cons_zero, List.set_cons_succ]
              refine wpAnyH_take (i := 3) (oi := _) (v := ?_) rfl (by kernel_rfl) (by kernel_rfl) (by kernel_rfl) (fun _ _ _ h => h) (Or.inl ⟨by rfl, ?_⟩) hHeld ?_
              rotate_left
              · (intro w' hSw; (try dsimp only at hSw); go_simp <;> with_reducible rfl)
              try simp only [Act.put, List.getElem_toArray, List.getElem_cons_succ, List.getElem_cons_zero, List.setIfInBounds_toArray, List.set_cons_zero, List.set_cons_succ]
              refine wpAnyH_take (i := 4) (oi := _) (v := ?_) rfl (by kernel_rfl) (by kernel_rfl) (by kernel_rfl) (fun _ _ _ h => h) (Or.inl ⟨by rfl, ?_⟩) hHeld ?_
              rotate_left
              · (intro w' hSw; (try dsimp only at hSw); go_simp <;> with_reducible rfl)
              try simp only [Act.put, List.getElem_toArray, List.getElem_cons_succ, List.getElem_cons_zero, List.setIfInBounds_toArray, List.set_cons_zero, List.set_cons_succ]
              refine wpAnyH_take (i := 5) (oi := _) (v := ?_) rfl (by kernel_rfl) (by kernel_rfl) (by kernel_rfl) (fun _ _ _ h => h) (Or.inl ⟨by rfl, ?_⟩) hHeld ?_
              rotate_left
              · (intro w' hSw; (try dsimp only at hSw); go_simp <;> with_reducible rfl)
              try simp only [Act.put, List.getElem_toArray, List.getElem_cons_succ, List.getElem_cons_zero, List.setIfInBounds_toArray, List.set_cons_zero, List.set_cons_succ]
              refine wpAnyH_ready (rs := [6]) (by kernel_rfl) (by simp) (AllReadyH.cons (o := _) rfl (fun K hK => ?_) AllReadyH.nil)
              try simp only [Act.put, List.getElem_toArray, List.getElem_cons_succ, List.getElem_cons_zero, List.setIfInBounds_toArray, List.set_cons_zero, List.set_cons_succ]
              go_simp
              go_at_call 99
              refine CFr.out.mono ?_
              rintro e w4 ⟨A5, c5, rfl, o5, d4⟩
              have hc5 : qs.length ≤ c5 := by obtain ⟨_, _, e, _, h⟩ := o5.form; injection e with _ _ e; omega
              replace x0 := x0d.later d4
              replace x2 := x2d.later d4
              replace b1 := b1d.trans (d4.mono b1d.size)
              clear y0 y1 r0 r1 r2 t0 t1 tf
              obtain ⟨t0, t1, tf⟩ := id x2.reads
              have o6 := (o5.keptT (by decide) (but_set w4 (w.heap.size + 1 + 1) 0 (.slice A s.refs.length c)) (blk_type x2)).keptT (by decide) (but_set _ (w.heap.size + 1 + 1) 1 (.slice A5 qs.length c5)) (blk_type (x2.set0 _))
              obtain ⟨p0, p1, -⟩ := ((x2.set0 (.slice A s.refs.length c)).set1 (.slice A5 qs.length c5)).reads
              have b7 := (b1.setCell (p := ⟨w.heap.size + 1 + 1, 0, none⟩) (by show w.heap.size ≤ w.heap.size + 1 + 1; omega) (.slice A s.refs.length c)).setCell (p := ⟨w.heap.size + 1 + 1, 1, none⟩) (by show w.heap.size ≤ w.heap.size + 1 + 1; omega) (.slice A5 qs.length c5)
              have HRS : Hid (Stt _ _ (stV A s.refs.length c A5 qs.length c5) ⟨s.refs, qs⟩) := ⟨A, c, A5, c5, rfl, (hr0.below b7 (Nat.le_refl _)).more b7.size, hrc, o6.row, hc5⟩
              have HS9 : Hid (((w4.setCell ⟨w.heap.size + 1 + 1, 0, none⟩ (.slice A s.refs.length c)).setCell ⟨w.heap.size + 1 + 1, 1, none⟩ (.slice A5 qs.length c5)).cell? ⟨w.heap.size, 0, none⟩ = some (.slice A s.refs.length c) ∧ ((w4.setCell ⟨w.heap.size + 1 + 1, 0, none⟩ (.slice A s.refs.length c)).setCell ⟨w.heap.size + 1 + 1, 1, none⟩ (.slice A5 qs.length c5)).cell? ⟨w.heap.size, 1, none⟩ = some (.slice A2 s.locks.length c2) ∧ ((w4.setCell ⟨w.heap.size + 1 + 1, 0, none⟩ (.slice A s.refs.length c)).setCell ⟨w.heap.size + 1 + 1, 1, none⟩ (.slice A5 qs.length c5)).cell? ⟨w.heap.size + 1, 1, none⟩ = some (.int .i64 r.t)) := by
                have f0 := (x0.far (p := ⟨w.heap.size + 1 + 1, 0, none⟩) (by show w.heap.size ≠ w.heap.size + 1 + 1; omega) (.slice A s.refs.length c)).far (p := ⟨w.heap.size + 1 + 1, 1, none⟩) (by show w.heap.size ≠ w.heap.size + 1 + 1; omega) (.slice A5 qs.length c5)
                have f1 := ((x1d.later d4).far (p := ⟨w.heap.size + 1 + 1, 0, none⟩) (by show w.heap.size + 1 ≠ w.heap.size + 1 + 1; omega) (.slice A s.refs.length c)).far (p := ⟨w.heap.size + 1 + 1, 1, none⟩) (by show w.heap.size + 1 ≠ w.heap.size + 1 + 1; omega) (.slice A5 qs.length c5)
                exact ⟨f0.reads.1, f0.reads.2.1, f1.reads.2.1⟩
              clear o5 o6
              refine hK.out _ _ (HKP.out _ d4) (fun hHeld => ?_)
              clear hK K
              try simp only [Act.put, List.getElem_toArray, List.getElem_cons_succ, List.getElem_cons_zero, List.setIfInBounds_toArray, List.set_cons_zero, List.set_cons_succ]
              refine wpAnyH_take (i := 7) (oi := _) (v := ?_) rfl (by kernel_rfl) (by kernel_rfl) (by kernel_rfl) (fun _ _ _ h => h) (Or.inl ⟨by rfl, ?_⟩) hHeld ?_
              rotate_left
              · (intro w' hSw; (try dsimp only at hSw); go_simp <;> with_reducible rfl)
              try simp only [Act.put, List.getElem_toArray, List.getElem_cons_succ, List.getElem_cons_zero, List.setIfInBounds_toArray, List.set_cons_zero, List.set_cons_succ]
              refine wpAnyH_ready (rs := [8]) (by kernel_rfl) (by simp) (AllReadyH.cons (o := _) rfl (fun K hK => ?_) AllReadyH.nil)
              try simp only [Act.put, List.getElem_toArray, List.getElem_cons_succ, List.getElem_cons_zero, List.setIfInBounds_toArray, List.set_cons_zero, List.set_cons_succ]
              go_simp
              refine hK.out _ _ (HS9.out) (fun hHeld => ?_)
              clear hK K
              try simp only [Act.put, List.getElem_toArray, List.getElem_cons_succ, List.getElem_cons_zero, List.setIfInBounds_toArray, List.set_cons_zero, List.set_cons_succ]
              refine wpAnyH_take (i := 9) (oi := _) (v := ?_) rfl (by kernel_rfl) (by kernel_rfl) (by kernel_rfl) (fun _ _ _ h => h) (Or.inl ⟨by rfl, ?_⟩) hHeld ?_
              rotate_left
              · (intro w' hSw; (try dsimp only at hSw); go_simp <;> with_reducible rfl)
              try simp only [Act.put, List.getElem_toArray, List.getElem_cons_succ, List.getElem_cons_zero, List.setIfInBounds_toArray, List.set_cons_zero, List.set_cons_succ]
              refine wpAnyH_done (by kernel_rfl) ?_ _
              go_wp2
              refine bodyPost_ret (v := .tuple #[.agg #[.slice A s.refs.length c, .slice A5 qs.length c5], .bool true]) (by simp [results, Tryd.results80, go_sem, p0, p1]) rfl ?_
              obtain ⟨hb', hs'⟩ := HQ.out
              rw [hb', hs']
              exact ⟨_, rfl, HRS.out, b7⟩
          · have e4 : decide ((0 : Int) < (r.us.length : Int)) = true := decide_eq_true (by omega)
            have e5 : 0 < r.us.length := by omega
            have HNO : Hid (¬ ∃ x, Step rs s r x) := fun ⟨x, hx⟩ => hl (by rw [(step_3 hx hk3).2]; rfl)
            rcases hz1 with rfl | rfl
            · skip
              obtain ⟨p0, p1, -⟩ := ((x2.set0 (.slice A s.refs.length c)).set1 (.slice A2 s.locks.length c2)).reads
              have b7 := (b1.setCell (p := ⟨w.heap.size + 1 + 1, 0, none⟩) (by show w.heap.size ≤ w.heap.size + 1 + 1; omega) (.slice A s.refs.length c)).setCell (p := ⟨w.heap.size + 1 + 1, 1, none⟩) (by show w.heap.size ≤ w.heap.size + 1 + 1; omega) (.slice A2 s.locks.length c2)
              have HRS : Hid (Stt _ _ (stV A s.refs.length c A2 s.locks.length c2) s) := hs0.on b7 b7.size
              go_wp2
              refine bodyPost_ret (v := .tuple #[.agg #[.slice A s.refs.length c, .slice A2 s.locks.length c2], .bool false]) (by simp [results, Tryd.results80, go_sem, p0, p1]) rfl ?_
              obtain ⟨hb', hs'⟩ := HST.out.no HNO.out
              rw [hb', hs']
              exact ⟨_, rfl, HRS.out, b7⟩
            · skip
              obtain ⟨p0, p1, -⟩ := ((x2.set0 (.slice A s.refs.length c)).set1 (.slice A2 s.locks.length c2)).reads
              have b7 := (b1.setCell (p := ⟨w.heap.size + 1 + 1, 0, none⟩) (by show w.heap.size ≤ w.heap.size + 1 + 1; omega) (.slice A s.refs.length c)).setCell (p := ⟨w.heap.size + 1 + 1, 1, none⟩) (by show w.heap.size ≤ w.heap.size + 1 + 1; omega) (.slice A2 s.locks.length c2)
              have HRS : Hid (Stt _ _ (stV A s.refs.length c A2 s.locks.length c2) s) := hs0.on b7 b7.size
              go_wp2
              refine bodyPost_ret (v := .tuple #[.agg #[.slice A s.refs.length c, .slice A2 s.locks.length c2], .bool false]) (by simp [results, Tryd.results80, go_sem, p0, p1]) rfl ?_
              obtain ⟨hb', hs'⟩ := HST.out.no HNO.out
              rw [hb', hs']
              exact ⟨_, rfl, HRS.out, b7⟩
        · have e5 : (z != 0) = true := by rw [bne_iff_ne]; exact fun e => hz1 (.inl e)
          have e6 : (z != 1) = true := by rw [bne_iff_ne]; exact fun e => hz1 (.inr e)
          have HNO : Hid (¬ ∃ x, Step rs s r x) := fun ⟨x, hx⟩ => hz1 (by rw [← HZ.out]; exact (step_3 hx hk3).1)
          clear hz1
          obtain ⟨p0, p1, -⟩ := ((x2.set0 (.slice A s.refs.length c)).set1 (.slice A2 s.locks.length c2)).reads
          have b7 := (b1.setCell (p := ⟨w.heap.size + 1 + 1, 0, none⟩) (by show w.heap.size ≤ w.heap.size + 1 + 1; omega) (.slice A s.refs.length c)).setCell (p := ⟨w.heap.size + 1 + 1, 1, none⟩) (by show w.heap.size ≤ w.heap.size + 1 + 1; omega) (.slice A2 s.locks.length c2)
          have HRS : Hid (Stt _ _ (stV A s.refs.length c A2 s.locks.length c2) s) := hs0.on b7 b7.size
          go_wp2
          refine bodyPost_ret (v := .tuple #[.agg #[.slice A s.refs.length c, .slice A2 s.locks.length c2], .bool false]) (by simp [results, Tryd.results80, go_sem, p0, p1]) rfl ?_
          obtain ⟨hb', hs'⟩ := HST.out.no HNO.out
          rw [hb', hs']
          exact ⟨_, rfl, HRS.out, b7⟩
      · have e3 : (r.k == 3) = false := by rw [beq_eq_false_iff_ne]; exact hk3
        have HNO : Hid (¬ ∃ x, Step rs s r x) := fun ⟨x, hx⟩ => by rcases step_kind hx with h | h | h <;> contradiction
        obtain ⟨p0, p1, -⟩ := ((x2.set0 (.slice A s.refs.length c)).set1 (.slice A2 s.locks.length c2)).reads
        have b7 := (b1.setCell (p := ⟨w.heap.size + 1 + 1, 0, none⟩) (by show w.heap.size ≤ w.heap.size + 1 + 1; omega) (.slice A s.refs.length c)).setCell (p := ⟨w.heap.size + 1 + 1, 1, none⟩) (by show w.heap.size ≤ w.heap.size + 1 + 1; omega) (.slice A2 s.locks.length c2)
        have HRS : Hid (Stt _ _ (stV A s.refs.length c A2 s.locks.length c2) s) := hs0.on b7 b7.size
        go_wp2
        refine bodyPost_ret (v := .tuple #[.agg #[.slice A s.refs.length c, .slice A2 s.locks.length c2], .bool false]) (by simp [results, Tryd.results80, go_sem, p0, p1]) rfl ?_
        obtain ⟨hb', hs'⟩ := HST.out.no HNO.out
        rw [hb', hs']
        exact ⟨_, rfl, HRS.out, b7⟩
end Go.Proofs.YteeffchnbkkpfabDoor
