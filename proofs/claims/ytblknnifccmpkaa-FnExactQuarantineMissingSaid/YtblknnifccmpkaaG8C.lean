/-
  Walk: what is missing in a quarantine, by the model.
  Walks: which areas and quarantines are valid, by the program.
  Colours of a quarantine that is being made: what is new gets a colour, and the rows of areas are painted by their type.
-/
import Derived.Test.YtblknnifccmpkaaG7C
import Derived.Test.YtblknnifccmpkaaQuarV
import Derived.Test.YtblknnifccmpkaaG5C
import Derived.Test.YtblknnifccmpkaaMarkQ
namespace Go.Proofs.Ytblknnifccmpkaa
open Go.RowKit Wo Pu Qu

/-- What QuarantineMissing answers. -/
def Missed (q : Qr) (t : Int) (fr : List Int) (w : World) (e : Ending) (w' : World) : Prop := ∃ M, QMis q t fr M ∧ NewOwn M w e w'
theorem qmis_nil {q : Qr} {t : Int} {fr : List Int} (h : ¬ MisOk q t fr) : QMis q t fr [] := ⟨List.Pairwise.nil, .inr ⟨h, rfl⟩⟩
set_option maxRecDepth 100000 in
set_option maxHeartbeats 4000000 in
theorem specQuarantineMissing_is (v : Value) (q : Qr) (t : Int) (A3 : Option Addr) (c3 : Nat) (fr : List Int) (w : World) (h : Quar w w.heap.size v q) (hf : FitQ q) (hfr : Row w w.heap.size A3 (ints fr)) (hfl : fr.length ≤ 1048576) :
    Calls Try.prog 38 #[v, .int .i64 t, .slice A3 fr.length c3] w (Missed q t fr w) := by
  have hq0 := h
  obtain ⟨A, c, A2, c2, rfl, hm0, hmc, ha0, hac⟩ := h
  obtain ⟨bq, hbq⟩ := bool_of' (QV q)
  obtain ⟨bt, hbt⟩ := bool_of' (TxnV t)
  obtain ⟨r, hr⟩ := idx_ex q.rs t
  obtain ⟨i0, hi, hz0, hz1, hz2⟩ := info_of info_ob
  have CV : Hid (∀ x, Quar x x.heap.size (qv A q.m.length c A2 q.rs.length c2) q → Calls Try.prog 22 #[.agg #[.slice A q.m.length c, .slice A2 q.rs.length c2]] x (Ret (.bool bq) x)) := fun x hx => specQuarantineValid_is bq _ q x hx hf hbq
  have CT : Hid (∀ x, Calls Try.prog 65 #[.int .i64 t] x (Same (.bool bt) x)) := fun x => l12Txn_is bt t x hbt
  unfold qv
  go_enter Try.func38, Try.ntmps38
  obtain ⟨w1, hw1⟩ : ∃ w1, w.alloc (.cells #[.slice A q.m.length c, .slice A2 q.rs.length c2] 26) = w1 := ⟨_, rfl⟩
  have b1 := (Below.refl w.heap.size w).alloc (Nat.le_refl _) (.cells #[.slice A q.m.length c, .slice A2 q.rs.length c2] 26)
  have x1 := BlkQ.new_ w 26 (.slice A q.m.length c) (.slice A2 q.rs.length c2)
  rw [hw1] at b1 x1
  have hq1 := hq0.on b1 b1.size
  obtain ⟨y0, y1, -⟩ := id x1.reads
  go_wp2_with fail
  refine (CV.out _ hq1).mono ?_
  rintro e w2 ⟨rfl, d2⟩
  have b2 := b1.trans (d2.mono b1.size)
  have x2 := x1.later d2
  clear hw1 hq1 d2 x1 b1 y0 y1 CV
  cases bq with
  | false =>
    have NO : Hid (¬ MisOk q t fr) := fun e => by have := hbq.2 e.1; cases this
    clear hbq hbt hr CT
    have HB9 := b2
    go_wp2_with fail
    go_ret
    exact ⟨[], qmis_nil NO.out, _, rfl, .nil_new HB9.size, HB9.alloc HB9.size _⟩
  | true =>
    have HQ := hid (hbq.1 rfl)
    clear hbq
    go_wp2_with fail
    refine (CT.out _).mono ?_
    rintro e w3 ⟨rfl, rfl⟩
    cases bt with
    | false =>
      have NO : Hid (¬ MisOk q t fr) := fun e => by have := hbt.2 e.2.1; cases this
      clear hbt hr CT
      have HB9 := b2
      go_wp2_with fail
      go_ret
      exact ⟨[], qmis_nil NO.out, _, rfl, .nil_new HB9.size, HB9.alloc HB9.size _⟩
    | true =>
      have HT := hid (hbt.1 rfl)
      clear hbt CT
      have rf2 := (hfr.below b2 (Nat.le_refl _)).more b2.size
      cases hasc : ascB (-1) fr with
      | false =>
        have NO : Hid (¬ MisOk q t fr) := fun e => by have := e.2.2; rw [links_a hasc] at this; cases this
        clear hr
        go_wp2_with fail
        refine (l1Ids_any _ A3 c3 fr w2 rf2 (by unfold maxLen; omega)).mono ?_
        rintro e w3 ⟨rfl, d, rfl⟩
        rw [hasc]
        have HB9 := Wo.Below.drewN b2 d
        go_wp2_with fail
        go_ret
        exact ⟨[], qmis_nil NO.out, _, rfl, .nil_new HB9.size, HB9.alloc HB9.size _⟩
      | true =>
        by_cases h4 : fr.length ≤ 4
        · have hlk : linksB fr = true := links_c hasc h4
          have OK : Hid (MisOk q t fr) := ⟨HQ.out, HT.out, hlk⟩
          have HF := hid (linksB_parts hlk).1
          have e4 : decide ((4 : Int) < (fr.length : Int)) = false := decide_eq_false (by omega)
          have e4n : decide (4 < fr.length) = false := decide_eq_false (by omega)
          clear hlk
          go_wp2_with fail
          refine (l1Ids_any _ A3 c3 fr w2 rf2 (by unfold maxLen; omega)).mono ?_
          rintro e w3 ⟨rfl, d, rfl⟩
          rw [hasc]
          have b3 := Wo.Below.drewN b2 d
          have x3 : BlkQ (w2.drewN d) w.heap.size 26 (.slice A q.m.length c) (.slice A2 q.rs.length c2) := x2
          obtain ⟨w4, hw4⟩ : ∃ w4, w2.drewN d = w4 := ⟨_, rfl⟩
          rw [hw4] at b3 x3 ⊢
          clear b2 x2 rf2 hw4
          obtain ⟨y0, y1, -⟩ := id x3.reads
          obtain ⟨xs, hxr, hxc, hx1⟩ := hm0.cells
          have hml := (storeB_parts HQ.out.1).2
          have hxl := hxc.1
          have al := b3.alloc b3.size (.cells #[] 38)
          have y4 := x3.alloc (.cells #[] 38)
          obtain ⟨u0, u1, -⟩ := id y4.reads
          have lt3 := x3.lt
          go_wp2_with (at_builtin; go_must (refine wpList_append_row _ rfl _ _ 23 rfl w.heap.size 38 i0 (.agg #[.int .i64 0, .slice none 0 0, .string ⟨#[]⟩]) 3 48 Try.underlying23 hi hz0 hz1 hz2 rfl (by decide) _ 0 [] rfl (nil_own b3.size _ _) w.heap.size A q.m.length c xs rfl (hxr.below al (Nat.le_refl _)) hxl hx1 (by unfold maxLen; omega) (by omega) (by simp; have := b3.size; omega) ?_); intro v5 w5 hown hg; have x5 := y4.grown hg (by intro e; have e' : some w.heap.size = some w4.heap.size := e; injection e' with e'; omega); obtain ⟨y05, y15, -⟩ := id x5.reads)
          have b5 : Below w.heap.size w w5 := al.grown hg (by simp; have := b3.size; omega) (fun j hj => by have hj' : some w4.heap.size = some j := hj; injection hj' with hj'; have := b3.size; omega)
          rw [Nat.zero_add, List.nil_append] at hown
          obtain ⟨A5, c5, rfl, ob5⟩ := (hxc.below b5 (Nat.le_refl _)).objs b5.size hown rfl
          have hq5 := hq0.on b5 b5.size
          clear hg al y4 u0 u1 y0 y1 lt3 x3 b3
          refine (l13Find_is r _ q t w5 hq5 hf.2.2.1 hr).mono ?_
          rintro e w6 ⟨rfl, d6⟩
          have b6 := b5.trans (d6.mono b5.size)
          have x6 := x5.later d6
          have own6 := own_below hown d6 (Nat.le_refl _)
          have ob6 := (ob5.below d6 (Nat.le_refl _)).more d6.size
          have rf6 := (hfr.below b6 (Nat.le_refl _)).more b6.size
          have HA := hid (eff_q HQ.out.1 (arOf_store HQ.out.2.1 t))
          clear hq5 d6 x5 b5 hown ob5 y05 y15
          obtain ⟨y0, y1, -⟩ := id x6.reads
          rcases hr with ⟨rfl, -, hnil⟩ | ⟨k, hk, rfl, -, -, har⟩
          · have HN := hid hnil
            have e0 : decide ((0 : Int) ≤ -1) = false := by decide
            have HE : Hid (Eff q.m (effQ q.m (arOf q.rs t))) := by
              have := HA.out
              rwa [HN.out, List.append_nil, ← HN.out] at this
            clear hnil
            go_wp2_with fail
            refine (l1MissingE_any A5 A3 c5 c3 q.m (effQ q.m (arOf q.rs t)) fr w6 ob6 HE (by omega) rf6 HF h4).mono ?_
            rintro e w7 ⟨L, hL, v7, rfl, o7, d7⟩
            have hM := mis_of OK.out hL
            rw [HN.out, List.append_nil] at hM
            go_wp2
            go_ret
            exact ⟨_, hM, v7, rfl, o7.base b6.size, b6.trans (d7.mono b6.size)⟩
          · have e0 : decide ((0 : Int) ≤ (k : Int)) = true := by simp
            have q0 : (0 : Int) ≤ (k : Int) := by omega
            have q1 : (k : Int) < (q.rs.length : Int) := by omega
            obtain ⟨a, ad, A', c', ho, rfl, had, g0, g1, g2, g3⟩ := (ha0.below b6 (Nat.le_refl _)).ar hk
            rw [ho] at har
            have HR := hid har
            have hal : a.os.length ≤ 16 := by rw [← har]; exact (storeB_parts (arOf_store HQ.out.2.1 t)).2
            clear har ho
            obtain ⟨ys, hyr, hyc, hy1⟩ := g3.cells
            have hyl := hyc.1
            have hxc6 := hxc.below b6 (Nat.le_refl _)
            obtain ⟨os, hos⟩ : ∃ os, q.m ++ a.os = os := ⟨_, rfl⟩
            have hosl : os.length = q.m.length + a.os.length := by rw [← hos, List.length_append]
            have HOS := hid hos
            have HOL := hid hosl
            have z6 := b6.size
            have s6 : w.heap.size ≤ w6.heap.size := z6
            go_wp2_with (at_builtin; go_must (refine wpList_append_row _ rfl _ _ 23 rfl w.heap.size 38 i0 (.agg #[.int .i64 0, .slice none 0 0, .string ⟨#[]⟩]) 3 48 Try.underlying23 hi hz0 hz1 hz2 rfl (by decide) _ q.m.length xs rfl own6 w.heap.size A' a.os.length c' ys rfl hyr hyl hy1 (by unfold maxLen; omega) (by omega) z6 ?_); intro v7 w7 hown hg)
            have lt6 := World.ownsRow.lt own6
            have b67 : Below w.heap.size w6 w7 := (Below.refl _ _).grown hg z6 (fun j hj => (lt6 j hj).1)
            have b7 := b6.trans b67
            have oc : Cells w7 w.heap.size (xs ++ ys) os := by rw [← HOS.out]; exact (hxc6.app hyc).below b67 (Nat.le_refl _)
            obtain ⟨A7, c7, rfl, ob7⟩ := oc.objs b7.size hown HOL.out.symm
            have rf7 := (hfr.below b7 (Nat.le_refl _)).more b7.size
            have HE : Hid (Eff os (effQ q.m (arOf q.rs t))) := by
              have := HA.out
              rw [HR.out, HOS.out] at this
              rw [HR.out]
              exact this
            have h32 : os.length ≤ 32 := by omega
            clear hown hg oc b67 lt6 hxc6 hyr hyc hy1 hyl g0 g1 g2 g3 own6 hos hosl rf6 ob6 x6 y0 y1
            go_wp2_with fail
            refine (l1MissingE_any A7 A3 c7 c3 os (effQ q.m (arOf q.rs t)) fr w7 ob7 HE h32 rf7 HF h4).mono ?_
            rintro e w8 ⟨L, hL, v8, rfl, o8, d8⟩
            have hM := mis_of OK.out hL
            rw [HR.out, HOS.out] at hM
            go_wp2
            go_ret
            exact ⟨_, hM, v8, rfl, o8.base b7.size, b7.trans (d8.mono b7.size)⟩
        · have NO : Hid (¬ MisOk q t fr) := fun e => by have := (linksB_parts e.2.2).2; omega
          have e4 : decide ((4 : Int) < (fr.length : Int)) = true := decide_eq_true (by omega)
          have e4n : decide (4 < fr.length) = true := decide_eq_true (by omega)
          have e4p : 4 < fr.length := by omega
          clear hr h4
          go_wp2_with fail
          refine (l1Ids_any _ A3 c3 fr w2 rf2 (by unfold maxLen; omega)).mono ?_
          rintro e w3 ⟨rfl, d, rfl⟩
          rw [hasc]
          have HB9 := Wo.Below.drewN b2 d
          go_wp2_with fail
          go_ret
          exact ⟨[], qmis_nil NO.out, _, rfl, .nil_new HB9.size, HB9.alloc HB9.size _⟩
end Go.Proofs.Ytblknnifccmpkaa
namespace Go.Proofs.Ytblknnifccmpkaa
open Go.RowKit Wo Pu Qu

theorem txnQ_is (b : Bool) (n : Int) (w : World) (hb : b = true ↔ TxnV n) : Calls Try.prog 60 #[.int .i64 n] w (Same (.bool b) w) := by
  have HB := hid hb
  clear hb
  by_cases h1 : 0 ≤ n
  · have e1 : decide (0 ≤ n) = true := decide_eq_true h1
    by_cases h2 : n < 12
    · have F := hid (HB.out.2 ⟨by omega, by omega⟩)
      have e2 : decide (n < 12) = true := decide_eq_true h2
      clear h1 h2
      go_enter Try.func60, Try.ntmps60
      go_wp2
      go_ret
      rw [F.out]
      exact ⟨rfl, rfl⟩
    · have F : Hid (b = false) := by
        show b = false
        rw [← Bool.not_eq_true]
        exact fun e => by have := (HB.out.1 e).2; omega
      have e2 : decide (n < 12) = false := decide_eq_false h2
      clear h1 h2
      go_enter Try.func60, Try.ntmps60
      go_wp2
      go_ret
      rw [F.out]
      exact ⟨rfl, rfl⟩
  · have F : Hid (b = false) := by
      show b = false
      rw [← Bool.not_eq_true]
      exact fun e => by have := (HB.out.1 e).1; omega
    have e1 : decide (0 ≤ n) = false := decide_eq_false h1
    clear h1
    go_enter Try.func60, Try.ntmps60
    go_wp2
    go_ret
    rw [F.out]
    exact ⟨rfl, rfl⟩
theorem areaObs_is (b : Bool) (A : Option Addr) (c : Nat) (os : List Ob) (w : World) (h : Objs w w.heap.size A os) (hf : Fit os) (hn : os.length ≤ 1048576) (hb : b = true ↔ (storeB os = true ∧ os ≠ [])) :
    Calls Try.prog 61 #[.slice A os.length c] w (Ret (.bool b) w) := by
  have HB := hid hb
  clear hb
  by_cases h0 : os.length = 0
  · have F : Hid (b = false) := by
      show b = false
      rw [← Bool.not_eq_true]
      exact fun e => (HB.out.1 e).2 (List.eq_nil_of_length_eq_zero h0)
    have e1 : decide ((0 : Int) < (os.length : Int)) = false := decide_eq_false (by omega)
    clear HB
    go_enter Try.func61, Try.ntmps61
    go_wp2
    go_ret
    rw [F.out]
    exact .mk_ (Below.refl _ _)
  · have F : Hid (b = storeB os) := by
      show b = storeB os
      rw [Bool.eq_iff_iff, HB.out]
      exact ⟨fun e => e.1, fun e => ⟨e, fun e => h0 (by rw [e]; rfl)⟩⟩
    have e1 : decide ((0 : Int) < (os.length : Int)) = true := decide_eq_true (by omega)
    have e2 : 0 < os.length := by omega
    obtain ⟨bs, hbs⟩ : ∃ bs, storeB os = bs := ⟨_, rfl⟩
    have CS := hid (implStoreValid_any A c os w h hf (by unfold maxLen; omega))
    rw [hbs] at CS F
    clear HB hbs h0
    go_enter Try.func61, Try.ntmps61
    go_wp2_with fail
    refine CS.out.mono ?_
    rintro e w1 ⟨rfl, b1⟩
    go_wp2
    go_ret
    rw [F.out]
    exact .mk_ b1
theorem areaValid_is (b : Bool) (A : Option Addr) (c : Nat) (a : Ar) (w : World) (h : Objs w w.heap.size A a.os) (hf : Fit a.os) (hn : a.os.length ≤ 1048576) (hb : b = true ↔ ArV a) :
    Calls Try.prog 76 #[.agg #[.int .i64 a.t, .slice A a.os.length c]] w (Ret (.bool b) w) := by
  obtain ⟨bt, hbt⟩ := bool_of' (TxnV a.t)
  obtain ⟨bo, hbo⟩ := bool_of' (storeB a.os = true ∧ a.os ≠ [])
  have al := (Below.refl w.heap.size w).alloc (Nat.le_refl _) (.cells #[.int .i64 a.t, .slice A a.os.length c] 84)
  have u := BlkQ.new_ w 84 (.int .i64 a.t) (.slice A a.os.length c)
  have h1 := (h.below al (Nat.le_refl _)).more al.size
  have CT : Hid (∀ x, Calls Try.prog 60 #[.int .i64 a.t] x (Same (.bool bt) x)) := fun x => txnQ_is bt _ x hbt
  have CO := hid (areaObs_is bo A c a.os _ h1 hf hn hbo)
  have F : Hid (b = (bt && bo)) := by
    show b = _
    rw [Bool.eq_iff_iff, hb, Bool.and_eq_true, hbt, hbo]
    exact Iff.rfl
  clear hb hbt hbo h h1
  go_enter Try.func76, Try.ntmps76
  go_wp2_with fail
  generalize w.alloc (.cells #[.int .i64 a.t, .slice A a.os.length c] 84) = W at *
  obtain ⟨z0, z1, -⟩ := id u.reads
  go_wp2_with fail
  refine (CT.out _).mono ?_
  rintro e w1 ⟨rfl, rfl⟩
  cases bt with
  | false =>
    go_wp2
    go_ret
    rw [F.out]
    exact .mk_ al
  | true =>
    go_wp2_with fail
    refine CO.out.mono ?_
    rintro e w2 ⟨rfl, b2⟩
    go_wp2
    go_ret
    rw [F.out]
    exact .mk_ (al.trans (b2.mono al.size))
/-- The transaction of the area ahead of k. -/
def prevA (rs : List Ar) (k : Nat) : Int := if h : 0 < k ∧ k ≤ rs.length then (rs[k - 1]'(by omega)).t else -1
theorem prevA_succ {rs : List Ar} {k : Nat} (hk : k < rs.length) : prevA rs (k + 1) = rs[k].t := by
  unfold prevA
  rw [dif_pos ⟨by omega, by omega⟩]
  rfl
theorem okA_iff {rs : List Ar} {k : Nat} (hk : k < rs.length) (h : ArV rs[k]) : OkA rs k hk ↔ prevA rs k < rs[k].t := by
  unfold OkA prevA
  by_cases e : k = 0
  · subst e
    rw [dif_neg (by omega)]
    exact ⟨fun _ => by have := h.1.1; omega, fun _ => ⟨h, .inl rfl⟩⟩
  · rw [dif_pos ⟨by omega, by omega⟩]
    constructor
    · rintro ⟨_, e' | ⟨_, h'⟩⟩
      · exact absurd e' e
      · exact h'
    · intro h'
      exact ⟨h, .inr ⟨by omega, h'⟩⟩
set_option maxRecDepth 100000 in
set_option maxHeartbeats 4000000 in
theorem implQuarantineValid_is (b : Bool) (v : Value) (q : Qr) (w : World) (h : Quar w w.heap.size v q) (hf : FitQ q) (hb : b = true ↔ QV q) :
    Calls Try.prog 29 #[v] w (Ret (.bool b) w) := by
  obtain ⟨A, c, A2, c2, rfl, hm0, hmc, ha0, hac⟩ := h
  obtain ⟨f1, f2, f3, f4⟩ := hf
  have HB := hid hb
  clear hb
  unfold qv
  have al := (Below.refl w.heap.size w).alloc (Nat.le_refl _) (.cells #[.slice A q.m.length c, .slice A2 q.rs.length c2] 26)
  have u := BlkQ.new_ w 26 (.slice A q.m.length c) (.slice A2 q.rs.length c2)
  obtain ⟨bs, hbs⟩ : ∃ bs, storeB q.m = bs := ⟨_, rfl⟩
  have CS := hid (implStoreValid_any A c q.m _ ((hm0.below al (Nat.le_refl _)).more al.size) f1 (by unfold maxLen; omega))
  rw [hbs] at CS
  have HS := hid hbs
  clear hbs hm0
  go_enter Try.func29, Try.ntmps29
  go_wp2_with fail
  generalize w.alloc (.cells #[.slice A q.m.length c, .slice A2 q.rs.length c2] 26) = W at *
  obtain ⟨z0, z1, -⟩ := id u.reads
  go_wp2_with fail
  refine CS.out.mono ?_
  rintro e w1 ⟨rfl, b1⟩
  have u1 := u.later b1
  have b4 := al.trans (b1.mono al.size)
  clear z0 z1 u
  obtain ⟨z0, z1, -⟩ := id u1.reads
  cases bs with
  | false =>
    have F : Hid (b = false) := by
      show b = false
      rw [← Bool.not_eq_true]
      exact fun e => by have := (HB.out.1 e).1; rw [HS.out] at this; cases this
    clear HB HS
    go_wp2
    go_ret
    rw [F.out]
    exact .mk_ b4
  | true =>
    by_cases h4 : 4 < q.rs.length
    · have F : Hid (b = false) := by
        show b = false
        rw [← Bool.not_eq_true]
        exact fun e => by have := (HB.out.1 e).2.2; omega
      have e4 : decide ((4 : Int) < (q.rs.length : Int)) = true := decide_eq_true (by omega)
      clear HB HS h4
      go_wp2
      go_ret
      rw [F.out]
      exact .mk_ b4
    · have e4 : decide ((4 : Int) < (q.rs.length : Int)) = false := decide_eq_false (by omega)
      have H4 : Hid (q.rs.length ≤ 4) := by show _ ≤ _; omega
      clear h4
      go_wp2_with fail
      go_loopw [3, 19] (fun l i wr => ∃ k : Nat, k ≤ q.rs.length ∧ i = .int .i64 k ∧ l = .int .i64 (prevA q.rs k) ∧ Hid (ArTo q.rs k) ∧ Below w.heap.size w wr) (fun _ i _ => q.rs.length - (intOf i).toNat)
      case atStart => exact ⟨0, Nat.zero_le _, rfl, rfl, .zero _, b4⟩
      case round =>
        clear u1 z0 z1 b4 b1 al
        obtain ⟨k, hk, rfl, rfl, H, hbr⟩ := hrel
        have hz := hbr.size
        by_cases hlt : k < q.rs.length
        · obtain ⟨a, ad, A', c', ho, rfl, had, g0, g1, g2, g3⟩ := ((ha0.below hbr (Nat.le_refl _)).more hz).ar hlt
          have q0 : (0 : Int) ≤ (k : Int) := by omega
          have q1 : (k : Int) < (q.rs.length : Int) := by omega
          have hfa : Fit a.os ∧ a.os.length ≤ 1048576 := by rw [← ho]; exact f4 _ (List.getElem_mem hlt)
          obtain ⟨va, hva⟩ := bool_of' (ArV a)
          obtain ⟨pt, hpt⟩ : ∃ pt, prevA q.rs k = pt := ⟨_, rfl⟩
          rw [hpt]
          have HO : Hid (q.rs[k] = a) := ho
          have HP := hid hpt
          have HN : Hid (prevA q.rs (k + 1) = a.t) := by show _ = _; rw [prevA_succ hlt, ho]
          have HV := hid hva
          have u3 := BlkQ.new_ wr 84 (.int .i64 a.t) (.slice A' a.os.length c')
          have al3 := (Below.refl wr.heap.size wr).alloc (Nat.le_refl _) (.cells #[.int .i64 a.t, .slice A' a.os.length c'] 84)
          have CA := hid (areaValid_is va A' c' a _ ((g3.below al3 (Nat.le_refl _)).more al3.size) hfa.1 hfa.2 hva)
          clear ho hpt hva
          go_wp2_with fail
          generalize wr.alloc (.cells #[.int .i64 a.t, .slice A' a.os.length c'] 84) = W3 at *
          obtain ⟨z0, z1, -⟩ := id u3.reads
          go_wp2_with fail
          refine CA.out.mono ?_
          rintro e w4 ⟨rfl, d4⟩
          have u4 := u3.later d4
          have b4 := hbr.trans ((al3.trans (d4.mono al3.size)).mono hz)
          clear z0 z1 u3 g0 g1 g3
          obtain ⟨z0, z1, -⟩ := id u4.reads
          cases va with
          | false =>
            have F : Hid (b = false) := qv_no HB.out hlt (fun e => by have := HV.out.2 (HO.out ▸ e.1); cases this)
            clear HB HS H HP HN HO HV
            go_wp2
            go_ret
            rw [F.out]
            exact .mk_ b4
          | true =>
            by_cases hle : a.t ≤ pt
            · have F : Hid (b = false) := qv_no HB.out hlt (fun e => by
                have h1 := (okA_iff hlt e.1).1 e
                rw [HO.out, HP.out] at h1
                omega)
              have e6 : decide (a.t ≤ pt) = true := decide_eq_true hle
              clear HB HS H HP HN HO HV hle
              go_wp2
              go_ret
              rw [F.out]
              exact .mk_ b4
            · have HK : Hid (ArTo q.rs (k + 1)) := H.out.next hlt ((okA_iff hlt (by rw [HO.out]; exact HV.out.1 rfl)).2 (by rw [HO.out, HP.out]; omega))
              have e6 : decide (a.t ≤ pt) = false := decide_eq_false hle
              clear H HP HO HV hle
              go_wp2_with fail
              go_roundw
              case rel => exact ⟨k + 1, by omega, by go_num, by rw [HN.out], HK, b4⟩
              case measure => simp [intOf]; omega
        · have hk' : k = q.rs.length := by omega
          subst hk'
          have F : Hid (b = true) := by
            have := qv_end HB.out H.out
            rw [HS.out, decide_eq_true H4.out] at this
            exact this
          have b4 := hbr
          clear HB HS H
          go_wp2
          go_ret
          rw [F.out]
          exact .mk_ b4
end Go.Proofs.Ytblknnifccmpkaa
namespace Go.Proofs.Ytblknnifccmpkaa
open Go.RowKit Wo Pu Qu

/-- All blocks of areas are of the colour 1. -/
def paint (w : World) (col : Nat → Nat) : Nat → Nat := fun g =>
  match w.heap[g]? with
  | some (.cells _ t _) => if t = 84 then 1 else col g
  | _ => col g
theorem paint_else {w : World} {col : Nat → Nat} {B sz n : Nat} {e : TypeId} {v : Value} {xs : List Value} (h : w.ownsRow B e sz v n xs) (he : e ≠ 84) : ∀ g, v.ownBlock = some g → paint w col g = col g := fun g hg => by
  rcases h.2 with ⟨rfl, _⟩ | ⟨g', cap, cur, rfl, _, hh, _⟩
  · cases hg
  · have hk : g' = g := by simpa [Value.ownBlock] using hg
    subst hk
    unfold paint
    rw [hh]
    simp [he]
theorem paint_area {w : World} {col : Nat → Nat} {B sz n : Nat} {v : Value} {xs : List Value} (h : w.ownsRow B 84 sz v n xs) : ∀ g, v.ownBlock = some g → paint w col g = 1 := fun g hg => by
  rcases h.2 with ⟨rfl, _⟩ | ⟨g', cap, cur, rfl, _, hh, _⟩
  · cases hg
  · have hk : g' = g := by simpa [Value.ownBlock] using hg
    subst hk
    unfold paint
    rw [hh]
    simp
theorem OwnC.paint {col : Nat → Nat} {c : Nat} {w : World} {B : Nat} {v : Value} {os : List Ob} (h : OwnC col c w B v os) : OwnC (paint w col) c w B v os := by
  obtain ⟨xs, h1, h2, h3, h4, h5⟩ := h
  refine ⟨xs, h1, h2, h3, fun i u g hi hu hg => ?_, fun g hg => by rw [paint_else h1 (by decide) g hg]; exact h5 g hg⟩
  obtain ⟨A, cc, q0, q1, q2, q3⟩ := h2 i hi
  have e : u = .slice A os[i].zs.length cc := by rw [q1] at hu; injection hu with hu; exact hu.symm
  rw [paint_else q3 (by decide) g (by rw [← e]; exact hg)]
  exact h4 i u g hi hu hg
theorem ArC.paint {col : Nat → Nat} {c : Nat} {w : World} {B : Nat} {xs : List Value} {j : Nat} {a : Ar} (h : ArC col c w B xs j a) : ArC (paint w col) c w B xs j a := by
  obtain ⟨A, cc, q0, q1, q2, q3⟩ := h
  exact ⟨A, cc, q0, q1, q2, OwnC.paint q3⟩
theorem OwnArsC.of_row {col : Nat → Nat} {w : World} {B : Nat} {v : Value} {rs : List Ar} {xs : List Value} (h : w.ownsRow B 84 2 v rs.length xs) (ha : ∀ j (hj : j < rs.length), ArC col (j + 2) w B xs j rs[j]) : OwnArsC (paint w col) w B v rs :=
  ⟨xs, h, fun j hj => (ha j hj).paint, paint_area h⟩
/-- Rows of areas grow. -/
theorem OwnC.grown {col : Nat → Nat} {c : Nat} {w w1 : World} {B : Nat} {v : Value} {os : List Ob} {row : Option Nat} (h : OwnC col c w B v os) (hg : w.grownBy w1 row) (hr : ∀ g, row = some g → ∃ cur fr, w.heap[g]? = some (.cells cur 84 fr)) : OwnC col c w1 B v os := by
  obtain ⟨xs, h1, h2, h3, h4, h5⟩ := h
  refine ⟨xs, row_kept h1 (by decide) hg hr, fun j hj => ?_, h3, h4, h5⟩
  obtain ⟨A, cc, q0, q1, q2, q3⟩ := h2 j hj
  exact ⟨A, cc, q0, q1, q2, row_kept q3 (by decide) hg hr⟩
/-- One area more. -/
theorem OwnArsC.app {col : Nat → Nat} {w w1 : World} {B c : Nat} {A : Option Addr} {v v' : Value} {rs : List Ar} {a : Ar} {ys : List Value} (hos : ∀ j (hj : j < rs.length), ArC col (j + 2) w B ys j rs[j]) (hc : a.os.length ≤ c)
    (hobs : OwnC col (rs.length + 2) w B (.slice A a.os.length c) a.os) (hrow : w.ownsRow B 84 2 v rs.length ys)
    (hown : w1.ownsRow B 84 2 v' (rs.length + 1) (ys ++ [.int .i64 a.t, .slice A a.os.length c]))
    (hg : (w.alloc (.cells #[.int .i64 a.t, .slice A a.os.length c] 84)).grownBy w1 v.ownBlock) : OwnArsC (Go.Proofs.Ytblknnifccmpkaa.paint w1 col) w1 B v' (rs ++ [a]) := by
  have hlen : ys.length = rs.length * 2 := hrow.1
  have al := (Below.refl w.heap.size w).alloc (Nat.le_refl _) (.cells #[.int .i64 a.t, .slice A a.os.length c] 84)
  have keep : ∀ {k : Nat} {u : Value} {os : List Ob}, OwnC col k w B u os → OwnC col k w1 B u os := fun {k u os} h =>
    (h.below al).grown hg fun g e => OwnArs.row_type (World.ownsRow.alloc hrow _) g e
  refine OwnArsC.of_row (by simpa using hown) fun j hj => ?_
  by_cases e : j < rs.length
  · obtain ⟨A', c', q0, q1, q2, q3⟩ := hos j e
    rw [List.getElem_append_left e]
    exact ⟨A', c', by rw [List.getElem?_append_left (by omega)]; exact q0, by rw [List.getElem?_append_left (by omega)]; exact q1, q2, keep q3⟩
  · have ej : j = rs.length := by simp at hj; omega
    subst ej
    have eo : (rs ++ [a])[rs.length]'(by simp) = a := by simp
    rw [eo]
    refine ⟨A, c, ?_, ?_, hc, keep hobs⟩
    · rw [List.getElem?_append_right (by omega), hlen]; simp
    · rw [List.getElem?_append_right (by omega), hlen, show rs.length * 2 + 1 - rs.length * 2 = 1 from by omega]; rfl
/-- What is new gets the colour n. -/
def fresh (w : World) (col : Nat → Nat) (n : Nat) : Nat → Nat := fun g => if g < w.heap.size then col g else n
theorem OwnC.fresh {col : Nat → Nat} {c n : Nat} {w : World} {B : Nat} {v : Value} {os : List Ob} (h : OwnC col c w B v os) : OwnC (fresh w col n) c w B v os :=
  h.recol fun g hg _ e => by unfold Go.Proofs.Ytblknnifccmpkaa.fresh; rw [if_pos hg]; exact e
theorem OwnArsC.fresh {col : Nat → Nat} {n : Nat} {w : World} {B : Nat} {v : Value} {rs : List Ar} (h : OwnArsC col w B v rs) : OwnArsC (fresh w col n) w B v rs := by
  obtain ⟨xs, q1, q2, q3⟩ := h
  refine ⟨xs, q1, fun j hj => ?_, fun g hg => ?_⟩
  · obtain ⟨A, cc, r0, r1, r2, r3⟩ := q2 j hj
    exact ⟨A, cc, r0, r1, r2, OwnC.fresh r3⟩
  · unfold Go.Proofs.Ytblknnifccmpkaa.fresh
    rw [if_pos (World.ownsRow.lt q1 g hg).2]
    exact q3 g hg
/-- A list that a call has made. -/
theorem OwnObsF.fresh {w w2 : World} {col : Nat → Nat} {n : Nat} {v : Value} {os : List Ob} (h : OwnObsF w2 w.heap.size v os) : OwnC (fresh w col n) n w2 w.heap.size v os :=
  h.col fun g hg _ => by unfold Go.Proofs.Ytblknnifccmpkaa.fresh; rw [if_neg (by omega)]
end Go.Proofs.Ytblknnifccmpkaa
