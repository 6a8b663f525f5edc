/-
  Walks: drawn transactions and quarantines.
-/
import Derived.Test.YtblknnifccmpkaaDrawQ
import Derived.Test.YtblknnifccmpkaaG8X
import Derived.Test.YtblknnifccmpkaaQuarF
import Derived.Deep.RegionHeld3
namespace Go.Proofs.Ytblknnifccmpkaa
open Go.RowKit Wo Pu Qu

/-- A drawn transaction. -/
def TxnQ (R : Nat) (q : Int) (w : World) (e : Ending) (w' : World) : Prop := ∃ x : Int, e = .returned (.int .i64 x) ∧ -1 ≤ x ∧ x ≤ 12 ∧ Rd w' R (q + 2) ∧ But R w w'
set_option maxHeartbeats 4000000 in
theorem l92Txn_any (R : Nat) (q : Int) (w : World) (hR : Rd w R q) (hq : q ≤ 900000000) :
    Calls Try.prog 58 #[.pointer (some ⟨R, 0, none⟩)] w (TxnQ R q w) := by
  go_enter Try.func58, Try.ntmps58
  go_wp2_with fail
  refine (pick_any R q 24 w hR (by omega) (by omega) (by omega)).mono ?_
  rintro e w1 ⟨n1, rfl, a0, a1, hR1, hT1⟩
  by_cases h0 : n1 = 0
  · have e0 : (n1 == 0) = true := by rw [h0]; rfl
    clear h0
    go_wp2_with fail
    have hbA := (Below.refl w1.heap.size w1).alloc (Nat.le_refl _) (.cells #[.int .i64 (-1), .int .i64 11, .int .i64 12] 3)
    have hz := hR1.lt
    refine (pick_any R (q + 1) 3 _ (hR1.below hbA hz) (by omega) (by omega) (by omega)).mono ?_
    rintro e w2 ⟨n2, rfl, b0, b1, hR2, hT2⟩
    have bx : Box3 w2 w1.heap.size (.int .i64 (-1)) (.int .i64 11) (.int .i64 12) := hT2.box (Box3.new_ w1 _ _ _ _) (by omega)
    have hTT := (hT1.trans (.of_below hbA)).trans hT2
    obtain ⟨_, p0, p1, p2⟩ := bx
    have key : n2 = 0 ∨ n2 = 1 ∨ n2 = 2 := by omega
    rcases key with rfl | rfl | rfl
    · go_wp2
      go_ret
      exact ⟨_, rfl, by omega, by omega, hR2.more (by omega), hTT⟩
    · go_wp2
      go_ret
      exact ⟨_, rfl, by omega, by omega, hR2.more (by omega), hTT⟩
    · go_wp2
      go_ret
      exact ⟨_, rfl, by omega, by omega, hR2.more (by omega), hTT⟩
  · have e0 : (n1 == 0) = false := by rw [beq_eq_false_iff_ne]; omega
    go_wp2_with fail
    refine (pick_any R (q + 1) 5 _ hR1 (by omega) (by omega) (by omega)).mono ?_
    rintro e w2 ⟨n2, rfl, b0, b1, hR2, hT2⟩
    go_wp2
    go_ret
    exact ⟨_, rfl, by omega, by omega, hR2.more (by omega), hT1.trans hT2⟩
/-- What is known of the drawn quarantine. -/
def QOk (q : Qr) : Prop := q.m.length ≤ 22 ∧ (∀ o ∈ q.m, vOb o = true) ∧ (q.rs = [] ∨ QV q)
theorem QOk.fit {q : Qr} (h : QOk q) : FitQ q := by
  obtain ⟨h1, h2, h3⟩ := h
  have hf := fit_of h2
  rcases h3 with h3 | h3
  · exact ⟨hf, by omega, by rw [h3]; exact Nat.zero_le _, fun a ha => by rw [h3] at ha; cases ha⟩
  · exact h3.fit
/-- What is known of a drawn quarantine, the last change in. -/
def QSml (q : Qr) : Prop := q.m.length ≤ 22 ∧ (∀ o ∈ q.m, vOb o = true) ∧ q.rs.length ≤ 31 ∧ ∀ a ∈ q.rs, a.os.length ≤ 22 ∧ ∀ o ∈ a.os, vOb o = true
theorem QSml.fit {q : Qr} (h : QSml q) : FitQ q := ⟨fit_of h.2.1, by have := h.1; omega, by have := h.2.2.1; omega, fun a ha => ⟨fit_of (h.2.2.2 a ha).2, by have := (h.2.2.2 a ha).1; omega⟩⟩
theorem QOk.sml {q : Qr} (h : QOk q) : QSml q ∧ q.rs.length ≤ 30 := by
  obtain ⟨h1, h2, h3⟩ := h
  rcases h3 with h3 | ⟨-, h4, h5⟩
  · rw [h3]; exact ⟨⟨h1, h2, by rw [h3]; exact Nat.zero_le _, fun a ha => by rw [h3] at ha; cases ha⟩, Nat.zero_le _⟩
  · refine ⟨⟨h1, h2, by omega, fun a ha => ?_⟩, by omega⟩
    have h6 := (h4.mem a ha).2.2.1
    refine ⟨by have := (storeB_parts h6).2; omega, fun o ho => ?_⟩
    obtain ⟨i, hi, rfl⟩ := List.getElem_of_mem ho
    exact storeB_valid h6 i hi
theorem QOk.put {q q' : Qr} {t : Int} {l : List Ob} (h : QOk q) (hy : IsPut q t l (.yes q')) : QOk q' := by
  obtain ⟨⟨hq, ht, _, hl⟩, x, z, hc, rfl⟩ := hy
  exact ⟨h.1, h.2.1, .inr (put_valid hq ht hl hc).1⟩
def QSt (R : Nat) (q0 : Int) (w : World) (g : Nat) (q : Qr) (Am : Option Addr) (cm : Nat) (Aa : Option Addr) (ca : Nat) (wr : World) : Prop :=
  BlkQ wr w.heap.size 26 (.slice none 0 0) (.slice none 0 0) ∧ BlkQ wr g 26 (.slice Am q.m.length cm) (.slice Aa q.rs.length ca) ∧ (w.heap.size < g ∧ R < w.heap.size) ∧
    OwnObs wr w.heap.size (.slice Am q.m.length cm) q.m ∧ OwnArs wr w.heap.size (.slice Aa q.rs.length ca) q.rs ∧ QOk q ∧ Rd wr R q0 ∧ But R w wr
section
variable {R g cm ca : Nat} {q0 q1 : Int} {w wr w' : World} {q : Qr} {Am Aa : Option Addr}
theorem QSt.more (h : QSt R q0 w g q Am cm Aa ca wr) (hq : q0 ≤ q1) : QSt R q1 w g q Am cm Aa ca wr := ⟨h.1, h.2.1, h.2.2.1, h.2.2.2.1, h.2.2.2.2.1, h.2.2.2.2.2.1, h.2.2.2.2.2.2.1.more hq, h.2.2.2.2.2.2.2⟩
theorem QSt.below (h : QSt R q0 w g q Am cm Aa ca wr) (hb : Below wr.heap.size wr w') : QSt R q0 w g q Am cm Aa ca w' := by
  obtain ⟨h1, h2, h3, h4, h5, h6, h7, h8⟩ := h
  exact ⟨h1.later hb, h2.later hb, h3, h4.below hb, h5.below hb, h6, h7.below hb h7.lt, h8.trans (But.of_below hb)⟩
theorem QSt.but (h : QSt R q0 w g q Am cm Aa ca wr) (hb : But R wr w') (hR : Rd w' R q1) : QSt R q1 w g q Am cm Aa ca w' := by
  obtain ⟨h1, h2, ⟨h3, h3'⟩, h4, h5, h6, h7, h8⟩ := h
  exact ⟨h1.but hb (by omega), h2.but hb (by omega), ⟨h3, h3'⟩, h4.but hb h3', h5.but hb h3', h6, hR, h8.trans hb⟩
theorem QSt.nm (_ : QSt R q0 w g q Am cm Aa ca wr) : ∃ W9, wr = W9 := ⟨_, rfl⟩
theorem QSt.reads (h : QSt R q0 w g q Am cm Aa ca wr) : wr.cell? ⟨g, 0, none⟩ = some (.slice Am q.m.length cm) ∧ wr.cell? ⟨g, 1, none⟩ = some (.slice Aa q.rs.length ca) ∧ ∀ o, wr.frozen? ⟨g, o, none⟩ = false := h.2.1.reads
theorem QSt.quar (h : QSt R q0 w g q Am cm Aa ca wr) : Quar wr wr.heap.size (qv Am q.m.length cm Aa q.rs.length ca) q := (OwnQ.mk_ h.2.2.2.1 h.2.2.2.2.1).quar
theorem QSt.farT {tb : Nat} {x0 x1 : Value} (h : QSt R q0 w g q Am cm Aa ca wr) (hT : BlkQ wr tb 26 x0 x1) (h1 : tb ≠ g) (h2 : w.heap.size < tb) (o : Nat) (u : Value) : QSt R q0 w g q Am cm Aa ca (wr.setCell ⟨tb, o, none⟩ u) := by
  obtain ⟨a1, a2, ⟨a3, a3'⟩, a4, a5, a6, a7, a8⟩ := h
  exact ⟨a1.far (p := ⟨tb, o, none⟩) (by show w.heap.size ≠ tb; omega) u, a2.far (p := ⟨tb, o, none⟩) (fun e => h1 e.symm) u, ⟨a3, a3'⟩, a4.farQ hT o u, a5.farQ hT o u, a6, a7.far (by omega) o u, a8.set_new (by omega) o u⟩
end
/-- Behind the last change. -/
def QFin (R : Nat) (q0 : Int) (w : World) (g : Nat) (q : Qr) (Am : Option Addr) (cm : Nat) (Aa : Option Addr) (ca : Nat) (wr : World) : Prop :=
  BlkQ wr w.heap.size 26 (.slice none 0 0) (.slice none 0 0) ∧ BlkQ wr g 26 (.slice Am q.m.length cm) (.slice Aa q.rs.length ca) ∧ (w.heap.size < g ∧ R < w.heap.size) ∧
    OwnObs wr w.heap.size (.slice Am q.m.length cm) q.m ∧ OwnArs wr w.heap.size (.slice Aa q.rs.length ca) q.rs ∧ QSml q ∧ Rd wr R q0 ∧ But R w wr
section
variable {R g cm ca c6 : Nat} {q0 t : Int} {w wr w7 : World} {q : Qr} {Am Aa A6 : Option Addr} {os : List Ob}
theorem BlkQ.two {g : Nat} {T : TypeId} {u0 u1 : Value} (h : BlkQ w g T u0 u1) (a b : Value) : ((w.setCell ⟨g, 0, none⟩ a).setCell ⟨g, 1, none⟩ b).cell? ⟨g, 0, none⟩ = some a ∧ ((w.setCell ⟨g, 0, none⟩ a).setCell ⟨g, 1, none⟩ b).cell? ⟨g, 1, none⟩ = some b := ⟨((h.set0 a).set1 b).reads.1, ((h.set0 a).set1 b).reads.2.1⟩
theorem QSt.fin (h : QSt R q0 w g q Am cm Aa ca wr) : QFin R q0 w g q Am cm Aa ca wr := ⟨h.1, h.2.1, h.2.2.1, h.2.2.2.1, h.2.2.2.2.1, h.2.2.2.2.2.1.sml.1, h.2.2.2.2.2.2.1, h.2.2.2.2.2.2.2⟩
theorem QSt.room (h : QSt R q0 w g q Am cm Aa ca wr) : q.rs.length ≤ 30 := h.2.2.2.2.2.1.sml.2
theorem QSt.add {v' : Value} {ys : List Value} (h : QSt R q0 w g q Am cm Aa ca wr) (hrow : wr.ownsRow w.heap.size 84 2 (.slice Aa q.rs.length ca) q.rs.length ys) (har : ∀ j (hj : j < q.rs.length), ArIs wr w.heap.size ys j q.rs[j])
    (o6 : OwnObs wr w.heap.size (.slice A6 os.length c6) os) (hc6 : os.length ≤ c6) (hol : os.length ≤ 21) (hov : ∀ p ∈ os, vOb p = true)
    (hown : w7.ownsRow w.heap.size 84 2 v' (q.rs.length + 1) (ys ++ [.int .i64 t, .slice A6 os.length c6])) (hg : (wr.alloc (.cells #[.int .i64 t, .slice A6 os.length c6] 84)).grownBy w7 (Value.slice Aa q.rs.length ca).ownBlock) :
    ∃ Aa' ca', v' = .slice Aa' (q.rs.length + 1) ca' ∧ (w7.cell? ⟨g, 1, none⟩ = some (.slice Aa q.rs.length ca) ∧ w7.frozen? ⟨g, 1, none⟩ = false) ∧ QFin R q0 w g ⟨q.m, q.rs ++ [⟨t, os⟩]⟩ Am cm Aa' ca' (w7.setCell ⟨g, 1, none⟩ v') := by
  have hro := h.room
  have hfit := h.2.2.2.2.2.1.sml.1
  obtain ⟨h1, h2, ⟨i1, i2⟩, h5, h6, -, hR, h7⟩ := h
  have al := (Below.refl wr.heap.size wr).alloc (Nat.le_refl _) (.cells #[.int .i64 t, .slice A6 os.length c6] 84)
  have hrow' := World.ownsRow.alloc hrow (.cells #[.int .i64 t, .slice A6 os.length c6] 84)
  have oa := OwnArs.app (a := ⟨t, os⟩) har hc6 o6 hrow hown hg
  have hlt := World.ownsRow.lt hrow
  have k1 := (h1.later al).grown hg ((h1.later al).ne_row hrow')
  have k2 := (h2.later al).grown hg ((h2.later al).ne_row hrow')
  have om := (h5.below al).kept_ hg fun g e => OwnArs.row_type hrow' g e
  have b : Below w.heap.size wr w7 := ((Below.refl w.heap.size wr).alloc h7.size _).grown hg (by have := h7.size; simp; omega) (fun k hk => (hlt k hk).1)
  have T7 : But R w w7 := World.grownBy.andThen (h7.trans (.of_below al)) hg (fun j hj => .inl (hlt j hj).1)
  obtain ⟨Aa', ca', e, -, -⟩ := oa.form
  rw [List.length_append, List.length_singleton] at e
  subst e
  refine ⟨Aa', ca', rfl, ⟨k2.reads.2.1, k2.reads.2.2 1⟩, k1.far (p := ⟨g, 1, none⟩) (by show w.heap.size ≠ g; omega) _, ?_, ⟨i1, i2⟩, om.farQ k2 1 _, ?_, ?_, (hR.below b i2).far (by omega) 1 _, T7.set_new (by omega) 1 _⟩
  · rw [List.length_append, List.length_singleton]
    exact k2.set1 _
  · have := oa.farQ k2 1 (.slice Aa' (q.rs.length + 1) ca')
    rw [List.length_append, List.length_singleton]
    exact this
  · refine ⟨hfit.1, hfit.2.1, by rw [List.length_append, List.length_singleton]; omega, fun a ha => ?_⟩
    rcases List.mem_append.1 ha with ha | ha
    · exact hfit.2.2.2 a ha
    · rw [List.mem_singleton.1 ha]
      exact ⟨by show os.length ≤ 22; omega, hov⟩
end
/-- A quarantine has been drawn. -/
def QDrawn (R : Nat) (q0 : Int) (w : World) (e : Ending) (w' : World) : Prop :=
  ∃ v q, e = .returned v ∧ OwnQ w' w.heap.size v q ∧ QSml q ∧ Rd w' R (q0 + 200000) ∧ But R w w'
set_option linter.unusedSimpArgs false in
set_option maxRecDepth 100000 in
set_option maxHeartbeats 8000000 in
theorem l92Quarantine_any (R : Nat) (q0 : Int) (w : World) (hR : Rd w R q0) (hq : q0 ≤ 400000000) :
    Calls Try.prog 57 #[.pointer (some ⟨R, 0, none⟩)] w (QDrawn R q0 w) := by
  have hRw := hR.lt
  go_enter Try.func57, Try.ntmps57
  obtain ⟨w0, hw0⟩ : ∃ w0, w.alloc (.cells #[.slice none 0 0, .slice none 0 0] 26) = w0 := ⟨_, rfl⟩
  have al := (Below.refl w.heap.size w).alloc (Nat.le_refl _) (.cells #[.slice none 0 0, .slice none 0 0] 26)
  have x0 := BlkQ.new_ w 26 (.slice none 0 0) (.slice none 0 0)
  have z0 : w0.heap.size = w.heap.size + 1 := by rw [← hw0]; simp
  rw [hw0] at al x0
  go_wp2_with fail
  refine (l91Store_any R q0 w0 (hR.below al hRw) (by omega)).mono ?_
  rintro e w1 ⟨v1, ms, rfl, om, hml, hmv, R1, T1⟩
  obtain ⟨Am, cm, rfl, -, -⟩ := om.formq
  have x1 := x0.but T1 (by omega)
  have TT := (But.of_below (R := R) al).trans T1
  have om1 := om.base (B' := w.heap.size) (by omega)
  have z1 : w0.heap.size ≤ w1.heap.size := T1.size
  have al2 := ((Below.refl w1.heap.size w1).alloc (Nat.le_refl _) (.cells #[] 84)).alloc (by simp) (.cells #[.slice Am ms.length cm, .slice (some ⟨w1.heap.size, 0, none⟩) 0 0] 26)
  have xg := BlkQ.new_ (w1.alloc (.cells #[] 84)) 26 (.slice Am ms.length cm) (.slice (some ⟨w1.heap.size, 0, none⟩) 0 0)
  rw [World.size_alloc] at xg
  have oa := (OwnArs.nil_new (w := w1) (B := w.heap.size) (by omega)).below ((Below.refl _ _).alloc (Nat.le_refl _) (.cells #[.slice Am ms.length cm, .slice (some ⟨w1.heap.size, 0, none⟩) 0 0] 26))
  have S0 : QSt R (q0 + 50000) w (w1.heap.size + 1) ⟨ms, []⟩ Am cm (some ⟨w1.heap.size, 0, none⟩) 0 ((w1.alloc (.cells #[] 84)).alloc (.cells #[.slice Am ms.length cm, .slice (some ⟨w1.heap.size, 0, none⟩) 0 0] 26)) :=
    ⟨x1.later al2, xg, ⟨by omega, hRw⟩, om1.below al2, oa, ⟨by show ms.length ≤ 22; omega, hmv, .inl rfl⟩, R1.below al2 R1.lt, TT.trans (But.of_below al2)⟩
  have hRd := S0.2.2.2.2.2.2.1
  clear x0 x1 TT om om1 al al2 xg oa R1 T1 hw0 hR
  go_wp2_with fail
  refine (pick_any R (q0 + 50000) 6 _ hRd (by omega) (by omega) (by omega)).mono ?_
  rintro e w2 ⟨n, rfl, n0, n1, R2, T2⟩
  have S1 := S0.but T2 R2
  clear S0 hRd R2 T2
  obtain ⟨g, hg⟩ : ∃ g, w1.heap.size + 1 = g := ⟨_, rfl⟩
  rw [hg] at S1
  go_wp2_with fail
  clear hg
  go_loopw [5] (fun i wr => ∃ (k : Nat) (q : Qr) (Am : Option Addr) (cm : Nat) (Aa : Option Addr) (ca : Nat), k ≤ n.toNat ∧ i = .int .i64 k ∧ QSt R (q0 + 50001 + 10001 * k) w g q Am cm Aa ca wr) (fun i _ => n.toNat - (intOf i).toNat)
  case atStart => exact ⟨0, _, _, _, _, _, Nat.zero_le _, rfl, S1.more (by omega)⟩
  case round =>
    clear S1
    obtain ⟨k, q, Am', cm', Aa, ca, hk, rfl, S⟩ := hrel
    by_cases hlt : (k : Int) < n
    · have hz := S.2.2.2.2.2.2.2.size
      have Sd := S.below (Below.refl wr.heap.size wr).drew
      obtain ⟨r0, r1, rf⟩ := S.reads
      have HOK := hid S.2.2.2.2.2.1
      have HK : Hid (∀ (x : World) (qq : Int), QSt R qq w g q Am' cm' Aa ca x → x.cell? ⟨g, 0, none⟩ = some (.slice Am' q.m.length cm') ∧ x.cell? ⟨g, 1, none⟩ = some (.slice Aa q.rs.length ca)) := fun x qq h => ⟨h.reads.1, h.reads.2.1⟩
      have CP := hid (pick_any R (q0 + 50001 + 10001 * k) 5 wr.drew Sd.2.2.2.2.2.2.1 (by omega) (by omega) (by omega))
      have HL : Hid (∀ (x : World) (qq : Int), qq ≤ 500000000 → QSt R qq w g q Am' cm' Aa ca x → Calls Try.prog 59 #[.pointer (some ⟨R, 0, none⟩), .slice Am' q.m.length cm'] x (SomeDrawn R qq x)) :=
        fun x qq hh h => l92Some_any R _ Am' cm' q.m x h.2.2.2.2.2.2.1 hh (h.2.2.2.1.base (by omega)) HOK.out.1 HOK.out.2.1
      have HP : Hid (∀ (x : World) (qq t : Int) (A6 : Option Addr) (c6 : Nat) (os : List Ob) (y : QWay), QSt R qq w g q Am' cm' Aa ca x → Objs x x.heap.size A6 os → (∀ p ∈ os, vOb p = true) → os.length ≤ 3 → IsPut q t os y → Calls Try.prog 20 #[.agg #[.slice Am' q.m.length cm', .slice Aa q.rs.length ca], .int .i64 t, .slice A6 os.length c6] x (Changed q y x)) :=
        fun x qq t A6 c6 os y h ho hv hl hy => specQuarantinePut_is y _ q t A6 c6 os x h.quar HOK.out.fit ho (fit_of hv) (by omega) hy
      go_wp2_with fail
      clear r0 r1 rf S
      replace S := Sd
      refine wp_region_held_drew (S := fun w' => w'.cell? ⟨g, 0, none⟩ = some (.slice Am' q.m.length cm') ∧ w'.cell? ⟨g, 1, none⟩ = some (.slice Aa q.rs.length ca)) (by kernel_rfl) (HK.out _ _ S) (fun hHeld => ?_)
      refine wpAnyH_take (i := 0) (oi := _) (v := ?_) rfl (by kernel_rfl) (by kernel_rfl) (by kernel_rfl) (fun _ _ _ h => h) (Or.inl ⟨by rfl, ?_⟩) hHeld ?_
      rotate_left
      · (intro w' hSw; (try dsimp only at hSw); go_simp <;> with_reducible rfl)
      try simp only [Act.put, List.getElem_toArray, List.getElem_cons_succ, List.getElem_cons_zero, List.setIfInBounds_toArray, List.set_cons_zero, List.set_cons_succ]
      refine wpAnyH_take (i := 1) (oi := _) (v := ?_) rfl (by kernel_rfl) (by kernel_rfl) (by kernel_rfl) (fun _ _ _ h => h) (Or.inl ⟨by rfl, ?_⟩) hHeld ?_
      rotate_left
      · (intro w' hSw; (try dsimp only at hSw); go_simp <;> with_reducible rfl)
      try simp only [Act.put, List.getElem_toArray, List.getElem_cons_succ, List.getElem_cons_zero, List.setIfInBounds_toArray, List.set_cons_zero, List.set_cons_succ]
      refine wpAnyH_take (i := 3) (oi := _) (v := ?_) rfl (by kernel_rfl) (by kernel_rfl) (by kernel_rfl) (fun _ _ _ h => h) (Or.inl ⟨by rfl, ?_⟩) hHeld ?_
      rotate_left
      · (intro w' hSw; (try dsimp only at hSw); go_simp <;> with_reducible rfl)
      try simp only [Act.put, List.getElem_toArray, List.getElem_cons_succ, List.getElem_cons_zero, List.setIfInBounds_toArray, List.set_cons_zero, List.set_cons_succ]
      refine wpAnyH_take (i := 4) (oi := _) (v := ?_) rfl (by kernel_rfl) (by kernel_rfl) (by kernel_rfl) (fun _ _ _ h => h) (Or.inl ⟨by rfl, ?_⟩) hHeld ?_
      rotate_left
      · (intro w' hSw; (try dsimp only at hSw); go_simp <;> with_reducible rfl)
      try simp only [Act.put, List.getElem_toArray, List.getElem_cons_succ, List.getElem_cons_zero, List.setIfInBounds_toArray, List.set_cons_zero, List.set_cons_succ]
      refine wpAnyH_take (i := 5) (oi := _) (v := ?_) rfl (by kernel_rfl) (by kernel_rfl) (by kernel_rfl) (fun _ _ _ h => h) (Or.inl ⟨by rfl, ?_⟩) hHeld ?_
      rotate_left
      · (intro w' hSw; (try dsimp only at hSw); go_simp <;> with_reducible rfl)
      try simp only [Act.put, List.getElem_toArray, List.getElem_cons_succ, List.getElem_cons_zero, List.setIfInBounds_toArray, List.set_cons_zero, List.set_cons_succ]
      refine wpAnyH_ready (rs := [2, 11]) (by kernel_rfl) (by simp) (AllReadyH.cons (o := _) rfl (fun K hK => ?_) (AllReadyH.cons (o := _) rfl (fun K hK => ?_) AllReadyH.nil))
      · skip
        try simp only [Act.put, List.getElem_toArray, List.getElem_cons_succ, List.getElem_cons_zero, List.setIfInBounds_toArray, List.set_cons_zero, List.set_cons_succ]
        go_simp
        go_at_call 78
        refine (pick_any R _ 5 _ S.2.2.2.2.2.2.1 (by omega) (by omega) (by omega)).mono ?_
        rintro e W5 ⟨t, rfl, t0, t1, RR, TT⟩
        replace S := S.but TT RR
        skip
        clear RR TT
        refine hK.out _ _ (HK.out _ _ S) (fun hHeld => ?_)
        clear hK K
        try simp only [Act.put, List.getElem_toArray, List.getElem_cons_succ, List.getElem_cons_zero, List.setIfInBounds_toArray, List.set_cons_zero, List.set_cons_succ]
        refine wpAnyH_ready (rs := [6, 11]) (by kernel_rfl) (by simp) (AllReadyH.cons (o := _) rfl (fun K hK => ?_) (AllReadyH.cons (o := _) rfl (fun K hK => ?_) AllReadyH.nil))
        · skip
          try simp only [Act.put, List.getElem_toArray, List.getElem_cons_succ, List.getElem_cons_zero, List.setIfInBounds_toArray, List.set_cons_zero, List.set_cons_succ]
          go_simp
          go_at_call 59
          refine (HL.out _ _ (by omega) S).mono ?_
          rintro e W6 ⟨v6, os, rfl, o6, hol, hov, RR, TT⟩
          replace S := S.but TT RR
          obtain ⟨A6, c6, rfl, hobj, -⟩ := o6.formq
          skip
          clear RR TT o6
          refine hK.out _ _ (HK.out _ _ S) (fun hHeld => ?_)
          clear hK K
          try simp only [Act.put, List.getElem_toArray, List.getElem_cons_succ, List.getElem_cons_zero, List.setIfInBounds_toArray, List.set_cons_zero, List.set_cons_succ]
          refine wpAnyH_ready (rs := [7, 11]) (by kernel_rfl) (by simp) (AllReadyH.cons (o := _) rfl (fun K hK => ?_) (AllReadyH.cons (o := _) rfl (fun K hK => ?_) AllReadyH.nil))
          · skip
            try simp only [Act.put, List.getElem_toArray, List.getElem_cons_succ, List.getElem_cons_zero, List.setIfInBounds_toArray, List.set_cons_zero, List.set_cons_succ]
            go_simp
            go_at_call 20
            obtain ⟨y, hy⟩ := put_way q t os
            have z6 := S.2.2.2.2.2.2.2.size
            refine (HP.out _ _ t A6 c6 os y S hobj hov hol hy).mono ?_
            rintro e W7 ⟨v7, rfl, o7, b7⟩
            replace S := S.below b7
            skip
            obtain ⟨q7, hq7⟩ : ∃ q7, y.q q = q7 := ⟨_, rfl⟩
            rw [hq7] at o7
            obtain ⟨A8, c8, A9, c9, rfl, o8, -, o9, -⟩ := o7.base (B' := w.heap.size) z6
            unfold qv
            clear o7 b7 z6 hobj
            refine hK.out _ _ (HK.out _ _ S) (fun hHeld => ?_)
            clear hK K
            try simp only [Act.put, List.getElem_toArray, List.getElem_cons_succ, List.getElem_cons_zero, List.setIfInBounds_toArray, List.set_cons_zero, List.set_cons_succ]
            refine wpAnyH_take (i := 8) (oi := _) (v := ?_) rfl (by kernel_rfl) (by kernel_rfl) (by kernel_rfl) (fun _ _ _ h => h) (Or.inl ⟨by rfl, ?_⟩) hHeld ?_
            rotate_left
            · (intro w' hSw; (try dsimp only at hSw); go_simp <;> with_reducible rfl)
            try simp only [Act.put, List.getElem_toArray, List.getElem_cons_succ, List.getElem_cons_zero, List.setIfInBounds_toArray, List.set_cons_zero, List.set_cons_succ]
            refine wpAnyH_take (i := 9) (oi := _) (v := ?_) rfl (by kernel_rfl) (by kernel_rfl) (by kernel_rfl) (fun _ _ _ h => h) (Or.inl ⟨by rfl, ?_⟩) hHeld ?_
            rotate_left
            · (intro w' hSw; (try dsimp only at hSw); go_simp <;> with_reducible rfl)
            try simp only [Act.put, List.getElem_toArray, List.getElem_cons_succ, List.getElem_cons_zero, List.setIfInBounds_toArray, List.set_cons_zero, List.set_cons_succ]
            refine wpAnyH_take (i := 10) (oi := _) (v := ?_) rfl (by kernel_rfl) (by kernel_rfl) (by kernel_rfl) (fun _ _ _ h => h) (Or.inl ⟨by rfl, ?_⟩) hHeld ?_
            rotate_left
            · (intro w' hSw; (try dsimp only at hSw); go_simp <;> with_reducible rfl)
            try simp only [Act.put, List.getElem_toArray, List.getElem_cons_succ, List.getElem_cons_zero, List.setIfInBounds_toArray, List.set_cons_zero, List.set_cons_succ]
            refine wpAnyH_ready (rs := [11]) (by kernel_rfl) (by simp) (AllReadyH.cons (o := _) rfl (fun K hK => ?_) AllReadyH.nil)
            try simp only [Act.put, List.getElem_toArray, List.getElem_cons_succ, List.getElem_cons_zero, List.setIfInBounds_toArray, List.set_cons_zero, List.set_cons_succ]
            go_simp
            have ah := (Below.refl (W7).heap.size W7).alloc (Nat.le_refl _) (.cells #[.slice none 0 0, .slice none 0 0] 26)
            obtain ⟨tb, htb⟩ : ∃ tb, tb = W7.heap.size := ⟨_, rfl⟩
            have T : BlkQ ((W7).alloc (.cells #[.slice none 0 0, .slice none 0 0] 26)) tb 26 (.slice none 0 0) (.slice none 0 0) := by rw [htb]; exact BlkQ.new_ W7 26 (.slice none 0 0) (.slice none 0 0)
            have hTg : tb ≠ g := by rw [htb]; exact Nat.ne_of_gt S.2.1.lt
            have hTw : w.heap.size < tb := by rw [htb]; exact S.1.lt
            replace S := S.below ah
            (replace o8 := o8.below ah; replace o9 := o9.below ah)
            clear ah
            refine hK.out _ _ (HK.out _ _ S) (fun hHeld => ?_)
            clear hK K
            try simp only [Act.put, List.getElem_toArray, List.getElem_cons_succ, List.getElem_cons_zero, List.setIfInBounds_toArray, List.set_cons_zero, List.set_cons_succ]
            rw [← htb]
            clear htb
            obtain ⟨T0, T1, Tf⟩ := id T.reads
            have S2 := (S.farT T hTg hTw 0 (.slice A8 q7.m.length c8)).farT (T.set0 _) hTg hTw 1 (.slice A9 q7.rs.length c9)
            have X7 := (T.set0 (.slice A8 q7.m.length c8)).set1 (.slice A9 q7.rs.length c9)
            have o8' := (o8.farQ T 0 (.slice A8 q7.m.length c8)).farQ (T.set0 _) 1 (.slice A9 q7.rs.length c9)
            have o9' := (o9.farQ T 0 (.slice A8 q7.m.length c8)).farQ (T.set0 _) 1 (.slice A9 q7.rs.length c9)
            clear o8 o9 S
            refine wpAnyH_ready (rs := [12]) (by kernel_rfl) (by simp) (AllReadyH.cons (o := _) rfl (fun K hK => ?_) AllReadyH.nil)
            try simp only [Act.put, List.getElem_toArray, List.getElem_cons_succ, List.getElem_cons_zero, List.setIfInBounds_toArray, List.set_cons_zero, List.set_cons_succ]
            go_simp
            refine hK.out _ _ (HK.out _ _ S2) (fun hHeld => ?_)
            clear hK K
            try simp only [Act.put, List.getElem_toArray, List.getElem_cons_succ, List.getElem_cons_zero, List.setIfInBounds_toArray, List.set_cons_zero, List.set_cons_succ]
            refine wpAnyH_take (i := 13) (oi := _) (v := ?_) rfl (by kernel_rfl) (by kernel_rfl) (by kernel_rfl) (fun _ _ _ h => h) (Or.inl ⟨by rfl, ?_⟩) hHeld ?_
            rotate_left
            · (intro w' hSw; (try dsimp only at hSw); go_simp <;> with_reducible rfl)
            try simp only [Act.put, List.getElem_toArray, List.getElem_cons_succ, List.getElem_cons_zero, List.setIfInBounds_toArray, List.set_cons_zero, List.set_cons_succ]
            refine wpAnyH_done (by kernel_rfl) ?_ _
            clear hHeld T0 T1 Tf T Sd
            obtain ⟨W9, hW9⟩ := S2.nm
            rw [hW9] at S2 X7 o8' o9' ⊢
            clear hW9
            obtain ⟨u0, u1, -⟩ := id X7.reads
            obtain ⟨p0, p1, pf⟩ := S2.reads
            have S9 := S2.more (q1 := q0 + 50001 + 10001 * ((k + 1 : Nat) : Int)) (by omega)
            cases y with
            | bad =>
              unfold QWay.ok
              clear X7 o8' o9' hy hq7
              go_wp2
              go_roundw
              case rel => exact ⟨k + 1, _, _, _, _, _, by omega, by go_num, S9⟩
              case measure => simp [intOf]; omega
            | no =>
              unfold QWay.ok
              clear X7 o8' o9' hy hq7
              go_wp2
              go_roundw
              case rel => exact ⟨k + 1, _, _, _, _, _, by omega, by go_num, S9⟩
              case measure => simp [intOf]; omega
            | yes q' =>
              obtain rfl : q' = q7 := hq7
              have HQ := hid (HOK.out.put hy)
              obtain ⟨t1', t2', ⟨t3', t3''⟩, t4', t5', t6', t7', t8'⟩ := S9
              have S10 : QSt R (q0 + 50001 + 10001 * ((k + 1 : Nat) : Int)) w g q' A8 c8 A9 c9 ((W9.setCell ⟨g, 0, none⟩ (.slice A8 q'.m.length c8)).setCell ⟨g, 1, none⟩ (.slice A9 q'.rs.length c9)) :=
                ⟨(t1'.far (p := ⟨g, 0, none⟩) (by show w.heap.size ≠ g; omega) _).far (p := ⟨g, 1, none⟩) (by show w.heap.size ≠ g; omega) _, (t2'.set0 _).set1 _, ⟨t3', t3''⟩, (o8'.farQ t2' 0 _).farQ (t2'.set0 _) 1 _, (o9'.farQ t2' 0 _).farQ (t2'.set0 _) 1 _, HQ.out, (t7'.far (by omega) 0 _).far (by omega) 1 _, (t8'.set_new (by omega) 0 _).set_new (by omega) 1 _⟩
              unfold QWay.ok
              clear X7 o8' o9' hy t1' t2' t4' t5' t6' t7' t8' S2
              go_wp2
              go_roundw
              case rel => exact ⟨k + 1, _, _, _, _, _, by omega, by go_num, S10⟩
              case measure => simp [intOf]; omega
          · skip
            try simp only [Act.put, List.getElem_toArray, List.getElem_cons_succ, List.getElem_cons_zero, List.setIfInBounds_toArray, List.set_cons_zero, List.set_cons_succ]
            go_simp
            have ah := (Below.refl (W6).heap.size W6).alloc (Nat.le_refl _) (.cells #[.slice none 0 0, .slice none 0 0] 26)
            obtain ⟨tb, htb⟩ : ∃ tb, tb = W6.heap.size := ⟨_, rfl⟩
            have T : BlkQ ((W6).alloc (.cells #[.slice none 0 0, .slice none 0 0] 26)) tb 26 (.slice none 0 0) (.slice none 0 0) := by rw [htb]; exact BlkQ.new_ W6 26 (.slice none 0 0) (.slice none 0 0)
            have hTg : tb ≠ g := by rw [htb]; exact Nat.ne_of_gt S.2.1.lt
            have hTw : w.heap.size < tb := by rw [htb]; exact S.1.lt
            replace S := S.below ah
            (replace hobj := (hobj.below ah (Nat.le_refl _)).more ah.size)
            clear ah
            refine hK.out _ _ (HK.out _ _ S) (fun hHeld => ?_)
            clear hK K
            try simp only [Act.put, List.getElem_toArray, List.getElem_cons_succ, List.getElem_cons_zero, List.setIfInBounds_toArray, List.set_cons_zero, List.set_cons_succ]
            rw [← htb]
            clear htb
            refine wpAnyH_ready (rs := [7]) (by kernel_rfl) (by simp) (AllReadyH.cons (o := _) rfl (fun K hK => ?_) AllReadyH.nil)
            try simp only [Act.put, List.getElem_toArray, List.getElem_cons_succ, List.getElem_cons_zero, List.setIfInBounds_toArray, List.set_cons_zero, List.set_cons_succ]
            go_simp
            go_at_call 20
            obtain ⟨y, hy⟩ := put_way q t os
            have z6 := S.2.2.2.2.2.2.2.size
            refine (HP.out _ _ t A6 c6 os y S hobj hov hol hy).mono ?_
            rintro e W7 ⟨v7, rfl, o7, b7⟩
            replace S := S.below b7
            replace T := T.later b7
            obtain ⟨q7, hq7⟩ : ∃ q7, y.q q = q7 := ⟨_, rfl⟩
            rw [hq7] at o7
            obtain ⟨A8, c8, A9, c9, rfl, o8, -, o9, -⟩ := o7.base (B' := w.heap.size) z6
            unfold qv
            clear o7 b7 z6 hobj
            refine hK.out _ _ (HK.out _ _ S) (fun hHeld => ?_)
            clear hK K
            try simp only [Act.put, List.getElem_toArray, List.getElem_cons_succ, List.getElem_cons_zero, List.setIfInBounds_toArray, List.set_cons_zero, List.set_cons_succ]
            refine wpAnyH_take (i := 8) (oi := _) (v := ?_) rfl (by kernel_rfl) (by kernel_rfl) (by kernel_rfl) (fun _ _ _ h => h) (Or.inl ⟨by rfl, ?_⟩) hHeld ?_
            rotate_left
            · (intro w' hSw; (try dsimp only at hSw); go_simp <;> with_reducible rfl)
            try simp only [Act.put, List.getElem_toArray, List.getElem_cons_succ, List.getElem_cons_zero, List.setIfInBounds_toArray, List.set_cons_zero, List.set_cons_succ]
            refine wpAnyH_take (i := 9) (oi := _) (v := ?_) rfl (by kernel_rfl) (by kernel_rfl) (by kernel_rfl) (fun _ _ _ h => h) (Or.inl ⟨by rfl, ?_⟩) hHeld ?_
            rotate_left
            · (intro w' hSw; (try dsimp only at hSw); go_simp <;> with_reducible rfl)
            try simp only [Act.put, List.getElem_toArray, List.getElem_cons_succ, List.getElem_cons_zero, List.setIfInBounds_toArray, List.set_cons_zero, List.set_cons_succ]
            refine wpAnyH_take (i := 10) (oi := _) (v := ?_) rfl (by kernel_rfl) (by kernel_rfl) (by kernel_rfl) (fun _ _ _ h => h) (Or.inl ⟨by rfl, ?_⟩) hHeld ?_
            rotate_left
            · (intro w' hSw; (try dsimp only at hSw); go_simp <;> with_reducible rfl)
            try simp only [Act.put, List.getElem_toArray, List.getElem_cons_succ, List.getElem_cons_zero, List.setIfInBounds_toArray, List.set_cons_zero, List.set_cons_succ]
            obtain ⟨T0, T1, Tf⟩ := id T.reads
            have S2 := (S.farT T hTg hTw 0 (.slice A8 q7.m.length c8)).farT (T.set0 _) hTg hTw 1 (.slice A9 q7.rs.length c9)
            have X7 := (T.set0 (.slice A8 q7.m.length c8)).set1 (.slice A9 q7.rs.length c9)
            have o8' := (o8.farQ T 0 (.slice A8 q7.m.length c8)).farQ (T.set0 _) 1 (.slice A9 q7.rs.length c9)
            have o9' := (o9.farQ T 0 (.slice A8 q7.m.length c8)).farQ (T.set0 _) 1 (.slice A9 q7.rs.length c9)
            clear o8 o9 S
            refine wpAnyH_ready (rs := [12]) (by kernel_rfl) (by simp) (AllReadyH.cons (o := _) rfl (fun K hK => ?_) AllReadyH.nil)
            try simp only [Act.put, List.getElem_toArray, List.getElem_cons_succ, List.getElem_cons_zero, List.setIfInBounds_toArray, List.set_cons_zero, List.set_cons_succ]
            go_simp
            refine hK.out _ _ (HK.out _ _ S2) (fun hHeld => ?_)
            clear hK K
            try simp only [Act.put, List.getElem_toArray, List.getElem_cons_succ, List.getElem_cons_zero, List.setIfInBounds_toArray, List.set_cons_zero, List.set_cons_succ]
            refine wpAnyH_take (i := 13) (oi := _) (v := ?_) rfl (by kernel_rfl) (by kernel_rfl) (by kernel_rfl) (fun _ _ _ h => h) (Or.inl ⟨by rfl, ?_⟩) hHeld ?_
            rotate_left
            · (intro w' hSw; (try dsimp only at hSw); go_simp <;> with_reducible rfl)
            try simp only [Act.put, List.getElem_toArray, List.getElem_cons_succ, List.getElem_cons_zero, List.setIfInBounds_toArray, List.set_cons_zero, List.set_cons_succ]
            refine wpAnyH_done (by kernel_rfl) ?_ _
            clear hHeld T0 T1 Tf T Sd
            obtain ⟨W9, hW9⟩ := S2.nm
            rw [hW9] at S2 X7 o8' o9' ⊢
            clear hW9
            obtain ⟨u0, u1, -⟩ := id X7.reads
            obtain ⟨p0, p1, pf⟩ := S2.reads
            have S9 := S2.more (q1 := q0 + 50001 + 10001 * ((k + 1 : Nat) : Int)) (by omega)
            cases y with
            | bad =>
              unfold QWay.ok
              clear X7 o8' o9' hy hq7
              go_wp2
              go_roundw
              case rel => exact ⟨k + 1, _, _, _, _, _, by omega, by go_num, S9⟩
              case measure => simp [intOf]; omega
            | no =>
              unfold QWay.ok
              clear X7 o8' o9' hy hq7
              go_wp2
              go_roundw
              case rel => exact ⟨k + 1, _, _, _, _, _, by omega, by go_num, S9⟩
              case measure => simp [intOf]; omega
            | yes q' =>
              obtain rfl : q' = q7 := hq7
              have HQ := hid (HOK.out.put hy)
              obtain ⟨t1', t2', ⟨t3', t3''⟩, t4', t5', t6', t7', t8'⟩ := S9
              have S10 : QSt R (q0 + 50001 + 10001 * ((k + 1 : Nat) : Int)) w g q' A8 c8 A9 c9 ((W9.setCell ⟨g, 0, none⟩ (.slice A8 q'.m.length c8)).setCell ⟨g, 1, none⟩ (.slice A9 q'.rs.length c9)) :=
                ⟨(t1'.far (p := ⟨g, 0, none⟩) (by show w.heap.size ≠ g; omega) _).far (p := ⟨g, 1, none⟩) (by show w.heap.size ≠ g; omega) _, (t2'.set0 _).set1 _, ⟨t3', t3''⟩, (o8'.farQ t2' 0 _).farQ (t2'.set0 _) 1 _, (o9'.farQ t2' 0 _).farQ (t2'.set0 _) 1 _, HQ.out, (t7'.far (by omega) 0 _).far (by omega) 1 _, (t8'.set_new (by omega) 0 _).set_new (by omega) 1 _⟩
              unfold QWay.ok
              clear X7 o8' o9' hy t1' t2' t4' t5' t6' t7' t8' S2
              go_wp2
              go_roundw
              case rel => exact ⟨k + 1, _, _, _, _, _, by omega, by go_num, S10⟩
              case measure => simp [intOf]; omega
        · skip
          try simp only [Act.put, List.getElem_toArray, List.getElem_cons_succ, List.getElem_cons_zero, List.setIfInBounds_toArray, List.set_cons_zero, List.set_cons_succ]
          go_simp
          have ah := (Below.refl (W5).heap.size W5).alloc (Nat.le_refl _) (.cells #[.slice none 0 0, .slice none 0 0] 26)
          obtain ⟨tb, htb⟩ : ∃ tb, tb = W5.heap.size := ⟨_, rfl⟩
          have T : BlkQ ((W5).alloc (.cells #[.slice none 0 0, .slice none 0 0] 26)) tb 26 (.slice none 0 0) (.slice none 0 0) := by rw [htb]; exact BlkQ.new_ W5 26 (.slice none 0 0) (.slice none 0 0)
          have hTg : tb ≠ g := by rw [htb]; exact Nat.ne_of_gt S.2.1.lt
          have hTw : w.heap.size < tb := by rw [htb]; exact S.1.lt
          replace S := S.below ah
          skip
          clear ah
          refine hK.out _ _ (HK.out _ _ S) (fun hHeld => ?_)
          clear hK K
          try simp only [Act.put, List.getElem_toArray, List.getElem_cons_succ, List.getElem_cons_zero, List.setIfInBounds_toArray, List.set_cons_zero, List.set_cons_succ]
          rw [← htb]
          clear htb
          refine wpAnyH_ready (rs := [6]) (by kernel_rfl) (by simp) (AllReadyH.cons (o := _) rfl (fun K hK => ?_) AllReadyH.nil)
          try simp only [Act.put, List.getElem_toArray, List.getElem_cons_succ, List.getElem_cons_zero, List.setIfInBounds_toArray, List.set_cons_zero, List.set_cons_succ]
          go_simp
          go_at_call 59
          refine (HL.out _ _ (by omega) S).mono ?_
          rintro e W6 ⟨v6, os, rfl, o6, hol, hov, RR, TT⟩
          replace S := S.but TT RR
          obtain ⟨A6, c6, rfl, hobj, -⟩ := o6.formq
          replace T := T.but TT (by omega)
          clear RR TT o6
          refine hK.out _ _ (HK.out _ _ S) (fun hHeld => ?_)
          clear hK K
          try simp only [Act.put, List.getElem_toArray, List.getElem_cons_succ, List.getElem_cons_zero, List.setIfInBounds_toArray, List.set_cons_zero, List.set_cons_succ]
          refine wpAnyH_ready (rs := [7]) (by kernel_rfl) (by simp) (AllReadyH.cons (o := _) rfl (fun K hK => ?_) AllReadyH.nil)
          try simp only [Act.put, List.getElem_toArray, List.getElem_cons_succ, List.getElem_cons_zero, List.setIfInBounds_toArray, List.set_cons_zero, List.set_cons_succ]
          go_simp
          go_at_call 20
          obtain ⟨y, hy⟩ := put_way q t os
          have z6 := S.2.2.2.2.2.2.2.size
          refine (HP.out _ _ t A6 c6 os y S hobj hov hol hy).mono ?_
          rintro e W7 ⟨v7, rfl, o7, b7⟩
          replace S := S.below b7
          replace T := T.later b7
          obtain ⟨q7, hq7⟩ : ∃ q7, y.q q = q7 := ⟨_, rfl⟩
          rw [hq7] at o7
          obtain ⟨A8, c8, A9, c9, rfl, o8, -, o9, -⟩ := o7.base (B' := w.heap.size) z6
          unfold qv
          clear o7 b7 z6 hobj
          refine hK.out _ _ (HK.out _ _ S) (fun hHeld => ?_)
          clear hK K
          try simp only [Act.put, List.getElem_toArray, List.getElem_cons_succ, List.getElem_cons_zero, List.setIfInBounds_toArray, List.set_cons_zero, List.set_cons_succ]
          refine wpAnyH_take (i := 8) (oi := _) (v := ?_) rfl (by kernel_rfl) (by kernel_rfl) (by kernel_rfl) (fun _ _ _ h => h) (Or.inl ⟨by rfl, ?_⟩) hHeld ?_
          rotate_left
          · (intro w' hSw; (try dsimp only at hSw); go_simp <;> with_reducible rfl)
          try simp only [Act.put, List.getElem_toArray, List.getElem_cons_succ, List.getElem_cons_zero, List.setIfInBounds_toArray, List.set_cons_zero, List.set_cons_succ]
          refine wpAnyH_take (i := 9) (oi := _) (v := ?_) rfl (by kernel_rfl) (by kernel_rfl) (by kernel_rfl) (fun _ _ _ h => h) (Or.inl ⟨by rfl, ?_⟩) hHeld ?_
          rotate_left
          · (intro w' hSw; (try dsimp only at hSw); go_simp <;> with_reducible rfl)
          try simp only [Act.put, List.getElem_toArray, List.getElem_cons_succ, List.getElem_cons_zero, List.setIfInBounds_toArray, List.set_cons_zero, List.set_cons_succ]
          refine wpAnyH_take (i := 10) (oi := _) (v := ?_) rfl (by kernel_rfl) (by kernel_rfl) (by kernel_rfl) (fun _ _ _ h => h) (Or.inl ⟨by rfl, ?_⟩) hHeld ?_
          rotate_left
          · (intro w' hSw; (try dsimp only at hSw); go_simp <;> with_reducible rfl)
          try simp only [Act.put, List.getElem_toArray, List.getElem_cons_succ, List.getElem_cons_zero, List.setIfInBounds_toArray, List.set_cons_zero, List.set_cons_succ]
          obtain ⟨T0, T1, Tf⟩ := id T.reads
          have S2 := (S.farT T hTg hTw 0 (.slice A8 q7.m.length c8)).farT (T.set0 _) hTg hTw 1 (.slice A9 q7.rs.length c9)
          have X7 := (T.set0 (.slice A8 q7.m.length c8)).set1 (.slice A9 q7.rs.length c9)
          have o8' := (o8.farQ T 0 (.slice A8 q7.m.length c8)).farQ (T.set0 _) 1 (.slice A9 q7.rs.length c9)
          have o9' := (o9.farQ T 0 (.slice A8 q7.m.length c8)).farQ (T.set0 _) 1 (.slice A9 q7.rs.length c9)
          clear o8 o9 S
          refine wpAnyH_ready (rs := [12]) (by kernel_rfl) (by simp) (AllReadyH.cons (o := _) rfl (fun K hK => ?_) AllReadyH.nil)
          try simp only [Act.put, List.getElem_toArray, List.getElem_cons_succ, List.getElem_cons_zero, List.setIfInBounds_toArray, List.set_cons_zero, List.set_cons_succ]
          go_simp
          refine hK.out _ _ (HK.out _ _ S2) (fun hHeld => ?_)
          clear hK K
          try simp only [Act.put, List.getElem_toArray, List.getElem_cons_succ, List.getElem_cons_zero, List.setIfInBounds_toArray, List.set_cons_zero, List.set_cons_succ]
          refine wpAnyH_take (i := 13) (oi := _) (v := ?_) rfl (by kernel_rfl) (by kernel_rfl) (by kernel_rfl) (fun _ _ _ h => h) (Or.inl ⟨by rfl, ?_⟩) hHeld ?_
          rotate_left
          · (intro w' hSw; (try dsimp only at hSw); go_simp <;> with_reducible rfl)
          try simp only [Act.put, List.getElem_toArray, List.getElem_cons_succ, List.getElem_cons_zero, List.setIfInBounds_toArray, List.set_cons_zero, List.set_cons_succ]
          refine wpAnyH_done (by kernel_rfl) ?_ _
          clear hHeld T0 T1 Tf T Sd
          obtain ⟨W9, hW9⟩ := S2.nm
          rw [hW9] at S2 X7 o8' o9' ⊢
          clear hW9
          obtain ⟨u0, u1, -⟩ := id X7.reads
          obtain ⟨p0, p1, pf⟩ := S2.reads
          have S9 := S2.more (q1 := q0 + 50001 + 10001 * ((k + 1 : Nat) : Int)) (by omega)
          cases y with
          | bad =>
            unfold QWay.ok
            clear X7 o8' o9' hy hq7
            go_wp2
            go_roundw
            case rel => exact ⟨k + 1, _, _, _, _, _, by omega, by go_num, S9⟩
            case measure => simp [intOf]; omega
          | no =>
            unfold QWay.ok
            clear X7 o8' o9' hy hq7
            go_wp2
            go_roundw
            case rel => exact ⟨k + 1, _, _, _, _, _, by omega, by go_num, S9⟩
            case measure => simp [intOf]; omega
          | yes q' =>
            obtain rfl : q' = q7 := hq7
            have HQ := hid (HOK.out.put hy)
            obtain ⟨t1', t2', ⟨t3', t3''⟩, t4', t5', t6', t7', t8'⟩ := S9
            have S10 : QSt R (q0 + 50001 + 10001 * ((k + 1 : Nat) : Int)) w g q' A8 c8 A9 c9 ((W9.setCell ⟨g, 0, none⟩ (.slice A8 q'.m.length c8)).setCell ⟨g, 1, none⟩ (.slice A9 q'.rs.length c9)) :=
              ⟨(t1'.far (p := ⟨g, 0, none⟩) (by show w.heap.size ≠ g; omega) _).far (p := ⟨g, 1, none⟩) (by show w.heap.size ≠ g; omega) _, (t2'.set0 _).set1 _, ⟨t3', t3''⟩, (o8'.farQ t2' 0 _).farQ (t2'.set0 _) 1 _, (o9'.farQ t2' 0 _).farQ (t2'.set0 _) 1 _, HQ.out, (t7'.far (by omega) 0 _).far (by omega) 1 _, (t8'.set_new (by omega) 0 _).set_new (by omega) 1 _⟩
            unfold QWay.ok
            clear X7 o8' o9' hy t1' t2' t4' t5' t6' t7' t8' S2
            go_wp2
            go_roundw
            case rel => exact ⟨k + 1, _, _, _, _, _, by omega, by go_num, S10⟩
            case measure => simp [intOf]; omega
      · skip
        try simp only [Act.put, List.getElem_toArray, List.getElem_cons_succ, List.getElem_cons_zero, List.setIfInBounds_toArray, List.set_cons_zero, List.set_cons_succ]
        go_simp
        have ah := (Below.refl (wr.drew).heap.size wr.drew).alloc (Nat.le_refl _) (.cells #[.slice none 0 0, .slice none 0 0] 26)
        obtain ⟨tb, htb⟩ : ∃ tb, tb = wr.heap.size := ⟨_, rfl⟩
        have T : BlkQ ((wr.drew).alloc (.cells #[.slice none 0 0, .slice none 0 0] 26)) tb 26 (.slice none 0 0) (.slice none 0 0) := by rw [htb]; exact BlkQ.new_ wr.drew 26 (.slice none 0 0) (.slice none 0 0)
        have hTg : tb ≠ g := by rw [htb]; exact Nat.ne_of_gt S.2.1.lt
        have hTw : w.heap.size < tb := by rw [htb]; exact S.1.lt
        replace S := S.below ah
        skip
        clear ah
        refine hK.out _ _ (HK.out _ _ S) (fun hHeld => ?_)
        clear hK K
        try simp only [Act.put, List.getElem_toArray, List.getElem_cons_succ, List.getElem_cons_zero, List.setIfInBounds_toArray, List.set_cons_zero, List.set_cons_succ]
        rw [← htb]
        clear htb
        refine wpAnyH_ready (rs := [2]) (by kernel_rfl) (by simp) (AllReadyH.cons (o := _) rfl (fun K hK => ?_) AllReadyH.nil)
        try simp only [Act.put, List.getElem_toArray, List.getElem_cons_succ, List.getElem_cons_zero, List.setIfInBounds_toArray, List.set_cons_zero, List.set_cons_succ]
        go_simp
        go_at_call 78
        refine (pick_any R _ 5 _ S.2.2.2.2.2.2.1 (by omega) (by omega) (by omega)).mono ?_
        rintro e W5 ⟨t, rfl, t0, t1, RR, TT⟩
        replace S := S.but TT RR
        replace T := T.but TT (by omega)
        clear RR TT
        refine hK.out _ _ (HK.out _ _ S) (fun hHeld => ?_)
        clear hK K
        try simp only [Act.put, List.getElem_toArray, List.getElem_cons_succ, List.getElem_cons_zero, List.setIfInBounds_toArray, List.set_cons_zero, List.set_cons_succ]
        refine wpAnyH_ready (rs := [6]) (by kernel_rfl) (by simp) (AllReadyH.cons (o := _) rfl (fun K hK => ?_) AllReadyH.nil)
        try simp only [Act.put, List.getElem_toArray, List.getElem_cons_succ, List.getElem_cons_zero, List.setIfInBounds_toArray, List.set_cons_zero, List.set_cons_succ]
        go_simp
        go_at_call 59
        refine (HL.out _ _ (by omega) S).mono ?_
        rintro e W6 ⟨v6, os, rfl, o6, hol, hov, RR, TT⟩
        replace S := S.but TT RR
        obtain ⟨A6, c6, rfl, hobj, -⟩ := o6.formq
        replace T := T.but TT (by omega)
        clear RR TT o6
        refine hK.out _ _ (HK.out _ _ S) (fun hHeld => ?_)
        clear hK K
        try simp only [Act.put, List.getElem_toArray, List.getElem_cons_succ, List.getElem_cons_zero, List.setIfInBounds_toArray, List.set_cons_zero, List.set_cons_succ]
        refine wpAnyH_ready (rs := [7]) (by kernel_rfl) (by simp) (AllReadyH.cons (o := _) rfl (fun K hK => ?_) AllReadyH.nil)
        try simp only [Act.put, List.getElem_toArray, List.getElem_cons_succ, List.getElem_cons_zero, List.setIfInBounds_toArray, List.set_cons_zero, List.set_cons_succ]
        go_simp
        go_at_call 20
        obtain ⟨y, hy⟩ := put_way q t os
        have z6 := S.2.2.2.2.2.2.2.size
        refine (HP.out _ _ t A6 c6 os y S hobj hov hol hy).mono ?_
        rintro e W7 ⟨v7, rfl, o7, b7⟩
        replace S := S.below b7
        replace T := T.later b7
        obtain ⟨q7, hq7⟩ : ∃ q7, y.q q = q7 := ⟨_, rfl⟩
        rw [hq7] at o7
        obtain ⟨A8, c8, A9, c9, rfl, o8, -, o9, -⟩ := o7.base (B' := w.heap.size) z6
        unfold qv
        clear o7 b7 z6 hobj
        refine hK.out _ _ (HK.out _ _ S) (fun hHeld => ?_)
        clear hK K
        try simp only [Act.put, List.getElem_toArray, List.getElem_cons_succ, List.getElem_cons_zero, List.setIfInBounds_toArray, List.set_cons_zero, List.set_cons_succ]
        refine wpAnyH_take (i := 8) (oi := _) (v := ?_) rfl (by kernel_rfl) (by kernel_rfl) (by kernel_rfl) (fun _ _ _ h => h) (Or.inl ⟨by rfl, ?_⟩) hHeld ?_
        rotate_left
        · (intro w' hSw; (try dsimp only at hSw); go_simp <;> with_reducible rfl)
        try simp only [Act.put, List.getElem_toArray, List.getElem_cons_succ, List.getElem_cons_zero, List.setIfInBounds_toArray, List.set_cons_zero, List.set_cons_succ]
        refine wpAnyH_take (i := 9) (oi := _) (v := ?_) rfl (by kernel_rfl) (by kernel_rfl) (by kernel_rfl) (fun _ _ _ h => h) (Or.inl ⟨by rfl, ?_⟩) hHeld ?_
        rotate_left
        · (intro w' hSw; (try dsimp only at hSw); go_simp <;> with_reducible rfl)
        try simp only [Act.put, List.getElem_toArray, List.getElem_cons_succ, List.getElem_cons_zero, List.setIfInBounds_toArray, List.set_cons_zero, List.set_cons_succ]
        refine wpAnyH_take (i := 10) (oi := _) (v := ?_) rfl (by kernel_rfl) (by kernel_rfl) (by kernel_rfl) (fun _ _ _ h => h) (Or.inl ⟨by rfl, ?_⟩) hHeld ?_
        rotate_left
        · (intro w' hSw; (try dsimp only at hSw); go_simp <;> with_reducible rfl)
        try simp only [Act.put, List.getElem_toArray, List.getElem_cons_succ, List.getElem_cons_zero, List.setIfInBounds_toArray, List.set_cons_zero, List.set_cons_succ]
        obtain ⟨T0, T1, Tf⟩ := id T.reads
        have S2 := (S.farT T hTg hTw 0 (.slice A8 q7.m.length c8)).farT (T.set0 _) hTg hTw 1 (.slice A9 q7.rs.length c9)
        have X7 := (T.set0 (.slice A8 q7.m.length c8)).set1 (.slice A9 q7.rs.length c9)
        have o8' := (o8.farQ T 0 (.slice A8 q7.m.length c8)).farQ (T.set0 _) 1 (.slice A9 q7.rs.length c9)
        have o9' := (o9.farQ T 0 (.slice A8 q7.m.length c8)).farQ (T.set0 _) 1 (.slice A9 q7.rs.length c9)
        clear o8 o9 S
        refine wpAnyH_ready (rs := [12]) (by kernel_rfl) (by simp) (AllReadyH.cons (o := _) rfl (fun K hK => ?_) AllReadyH.nil)
        try simp only [Act.put, List.getElem_toArray, List.getElem_cons_succ, List.getElem_cons_zero, List.setIfInBounds_toArray, List.set_cons_zero, List.set_cons_succ]
        go_simp
        refine hK.out _ _ (HK.out _ _ S2) (fun hHeld => ?_)
        clear hK K
        try simp only [Act.put, List.getElem_toArray, List.getElem_cons_succ, List.getElem_cons_zero, List.setIfInBounds_toArray, List.set_cons_zero, List.set_cons_succ]
        refine wpAnyH_take (i := 13) (oi := _) (v := ?_) rfl (by kernel_rfl) (by kernel_rfl) (by kernel_rfl) (fun _ _ _ h => h) (Or.inl ⟨by rfl, ?_⟩) hHeld ?_
        rotate_left
        · (intro w' hSw; (try dsimp only at hSw); go_simp <;> with_reducible rfl)
        try simp only [Act.put, List.getElem_toArray, List.getElem_cons_succ, List.getElem_cons_zero, List.setIfInBounds_toArray, List.set_cons_zero, List.set_cons_succ]
        refine wpAnyH_done (by kernel_rfl) ?_ _
        clear hHeld T0 T1 Tf T Sd
        obtain ⟨W9, hW9⟩ := S2.nm
        rw [hW9] at S2 X7 o8' o9' ⊢
        clear hW9
        obtain ⟨u0, u1, -⟩ := id X7.reads
        obtain ⟨p0, p1, pf⟩ := S2.reads
        have S9 := S2.more (q1 := q0 + 50001 + 10001 * ((k + 1 : Nat) : Int)) (by omega)
        cases y with
        | bad =>
          unfold QWay.ok
          clear X7 o8' o9' hy hq7
          go_wp2
          go_roundw
          case rel => exact ⟨k + 1, _, _, _, _, _, by omega, by go_num, S9⟩
          case measure => simp [intOf]; omega
        | no =>
          unfold QWay.ok
          clear X7 o8' o9' hy hq7
          go_wp2
          go_roundw
          case rel => exact ⟨k + 1, _, _, _, _, _, by omega, by go_num, S9⟩
          case measure => simp [intOf]; omega
        | yes q' =>
          obtain rfl : q' = q7 := hq7
          have HQ := hid (HOK.out.put hy)
          obtain ⟨t1', t2', ⟨t3', t3''⟩, t4', t5', t6', t7', t8'⟩ := S9
          have S10 : QSt R (q0 + 50001 + 10001 * ((k + 1 : Nat) : Int)) w g q' A8 c8 A9 c9 ((W9.setCell ⟨g, 0, none⟩ (.slice A8 q'.m.length c8)).setCell ⟨g, 1, none⟩ (.slice A9 q'.rs.length c9)) :=
            ⟨(t1'.far (p := ⟨g, 0, none⟩) (by show w.heap.size ≠ g; omega) _).far (p := ⟨g, 1, none⟩) (by show w.heap.size ≠ g; omega) _, (t2'.set0 _).set1 _, ⟨t3', t3''⟩, (o8'.farQ t2' 0 _).farQ (t2'.set0 _) 1 _, (o9'.farQ t2' 0 _).farQ (t2'.set0 _) 1 _, HQ.out, (t7'.far (by omega) 0 _).far (by omega) 1 _, (t8'.set_new (by omega) 0 _).set_new (by omega) 1 _⟩
          unfold QWay.ok
          clear X7 o8' o9' hy t1' t2' t4' t5' t6' t7' t8' S2
          go_wp2
          go_roundw
          case rel => exact ⟨k + 1, _, _, _, _, _, by omega, by go_num, S10⟩
          case measure => simp [intOf]; omega
    · have hz := S.2.2.2.2.2.2.2.size
      have hk5 : k ≤ 5 := by omega
      obtain ⟨i0, hi, hz0, hz1, hz2⟩ := info_of info_ar
      go_wp2_with fail
      refine (pick_any R _ 20 wr S.2.2.2.2.2.2.1 (by omega) (by omega) (by omega)).mono ?_
      rintro e W4 ⟨x, rfl, x0, x1, RR, TT⟩
      replace S := S.but TT RR
      clear RR TT
      by_cases hx0 : x = 0
      · have e0 : (x == 0) = true := by rw [hx0]; rfl
        clear hx0
        go_wp2_with fail
        replace S := S.below (Below.refl W4.heap.size W4).drew
        obtain ⟨-, r1, -⟩ := S.reads
        refine wp_region_held_drew (S := fun _ => True) (by kernel_rfl) trivial (fun hHeld => ?_)
        refine wpAnyH_take (i := 0) (oi := _) (v := ?_) rfl (by kernel_rfl) (by kernel_rfl) (by kernel_rfl) (fun _ _ _ h => h) (Or.inl ⟨by rfl, ?_⟩) hHeld ?_
        rotate_left
        · (intro w' hSw; (try dsimp only at hSw); go_simp <;> with_reducible rfl)
        try simp only [Act.put, List.getElem_toArray, List.getElem_cons_succ, List.getElem_cons_zero, List.setIfInBounds_toArray, List.set_cons_zero, List.set_cons_succ]
        refine wpAnyH_take (i := 2) (oi := _) (v := ?_) rfl (by kernel_rfl) (by kernel_rfl) (by kernel_rfl) (fun _ _ _ h => h) (Or.inl ⟨by rfl, ?_⟩) hHeld ?_
        rotate_left
        · (intro w' hSw; (try dsimp only at hSw); go_simp <;> with_reducible rfl)
        try simp only [Act.put, List.getElem_toArray, List.getElem_cons_succ, List.getElem_cons_zero, List.setIfInBounds_toArray, List.set_cons_zero, List.set_cons_succ]
        refine wpAnyH_take (i := 4) (oi := _) (v := ?_) rfl (by kernel_rfl) (by kernel_rfl) (by kernel_rfl) (fun _ _ _ h => h) (Or.inl ⟨by rfl, ?_⟩) hHeld ?_
        rotate_left
        · (intro w' hSw; (try dsimp only at hSw); go_simp <;> with_reducible rfl)
        try simp only [Act.put, List.getElem_toArray, List.getElem_cons_succ, List.getElem_cons_zero, List.setIfInBounds_toArray, List.set_cons_zero, List.set_cons_succ]
        refine wpAnyH_ready (rs := [1, 3]) (by kernel_rfl) (by simp) (AllReadyH.cons (o := _) rfl (fun K hK => ?_) (AllReadyH.cons (o := _) rfl (fun K hK => ?_) AllReadyH.nil))
        · skip
          try simp only [Act.put, List.getElem_toArray, List.getElem_cons_succ, List.getElem_cons_zero, List.setIfInBounds_toArray, List.set_cons_zero, List.set_cons_succ]
          go_simp
          refine hK.out _ _ trivial (fun hHeld => ?_)
          clear hK K
          try simp only [Act.put, List.getElem_toArray, List.getElem_cons_succ, List.getElem_cons_zero, List.setIfInBounds_toArray, List.set_cons_zero, List.set_cons_succ]
          refine wpAnyH_ready (rs := [3]) (by kernel_rfl) (by simp) (AllReadyH.cons (o := _) rfl (fun K hK => ?_) AllReadyH.nil)
          try simp only [Act.put, List.getElem_toArray, List.getElem_cons_succ, List.getElem_cons_zero, List.setIfInBounds_toArray, List.set_cons_zero, List.set_cons_succ]
          go_simp
          go_at_call 78
          refine (pick_any R _ 13 _ S.2.2.2.2.2.2.1 (by omega) (by omega) (by omega)).mono ?_
          rintro e W5 ⟨t, rfl, t0, t1, RR, TT⟩
          replace S := S.but TT RR
          clear RR TT
          clear r1
          obtain ⟨-, r1, -⟩ := S.reads
          refine hK.out _ _ trivial (fun hHeld => ?_)
          clear hK K
          try simp only [Act.put, List.getElem_toArray, List.getElem_cons_succ, List.getElem_cons_zero, List.setIfInBounds_toArray, List.set_cons_zero, List.set_cons_succ]
          refine wpAnyH_ready (rs := [5]) (by kernel_rfl) (by simp) (AllReadyH.cons (o := _) rfl (fun K hK => ?_) AllReadyH.nil)
          try simp only [Act.put, List.getElem_toArray, List.getElem_cons_succ, List.getElem_cons_zero, List.setIfInBounds_toArray, List.set_cons_zero, List.set_cons_succ]
          go_simp
          go_at_call 95
          refine (l91Store_any R _ _ S.2.2.2.2.2.2.1 (by omega)).mono ?_
          rintro e W6 ⟨v6, os, rfl, o6', hol, hov, RR, TT⟩
          have o6 := o6'.base (B' := w.heap.size) S.2.2.2.2.2.2.2.size
          replace S := S.but TT RR
          obtain ⟨A6, c6, rfl, -, hc6⟩ := o6.formq
          clear RR TT o6'
          clear r1
          obtain ⟨-, r1, -⟩ := S.reads
          refine hK.out _ _ trivial (fun hHeld => ?_)
          clear hK K
          try simp only [Act.put, List.getElem_toArray, List.getElem_cons_succ, List.getElem_cons_zero, List.setIfInBounds_toArray, List.set_cons_zero, List.set_cons_succ]
          refine wpAnyH_take (i := 6) (oi := _) (v := ?_) rfl (by kernel_rfl) (by kernel_rfl) (by kernel_rfl) (fun _ _ _ h => h) (Or.inl ⟨by rfl, ?_⟩) hHeld ?_
          rotate_left
          · (intro w' hSw; (try dsimp only at hSw); go_simp <;> with_reducible rfl)
          try simp only [Act.put, List.getElem_toArray, List.getElem_cons_succ, List.getElem_cons_zero, List.setIfInBounds_toArray, List.set_cons_zero, List.set_cons_succ]
          refine wpAnyH_ready (rs := [7]) (by kernel_rfl) (by simp) (AllReadyH.cons (o := _) rfl (fun K hK => ?_) AllReadyH.nil)
          try simp only [Act.put, List.getElem_toArray, List.getElem_cons_succ, List.getElem_cons_zero, List.setIfInBounds_toArray, List.set_cons_zero, List.set_cons_succ]
          go_simp
          obtain ⟨ys, hrow, har⟩ := S.2.2.2.2.1
          have hro := S.room
          have hsz := S.2.2.2.2.2.2.2.size
          have oA := World.ownsRow.alloc hrow (.cells #[.int .i64 t, .slice A6 os.length c6] 84)
          have rA := row_two W6 (.int .i64 t) (.slice A6 os.length c6) 84
          clear r1
          obtain ⟨-, r1, -⟩ := (S.below ((Below.refl W6.heap.size W6).alloc (Nat.le_refl _) (.cells #[.int .i64 t, .slice A6 os.length c6] 84))).reads
          refine hK.out _ _ trivial (fun hHeld => ?_)
          clear hK K
          try simp only [Act.put, List.getElem_toArray, List.getElem_cons_succ, List.getElem_cons_zero, List.setIfInBounds_toArray, List.set_cons_zero, List.set_cons_succ]
          refine wpAnyH_ready (rs := [8]) (by kernel_rfl) (by simp) (AllReadyH.cons (o := _) rfl (fun K hK => ?_) AllReadyH.nil)
          try simp only [Act.put, List.getElem_toArray, List.getElem_cons_succ, List.getElem_cons_zero, List.setIfInBounds_toArray, List.set_cons_zero, List.set_cons_succ]
          rw [if_pos (by rfl)]
          refine op_append_row _ (by rfl) _ _ 24 (by rfl) w.heap.size 84 i0 (.agg #[.int .i64 0, .slice none 0 0]) 2 32 Try.underlying24 hi hz0 hz1 hz2 rfl (by decide) (.slice Aa q.rs.length ca) q.rs.length ys (by rfl) oA _ (some ⟨W6.heap.size, 0, none⟩) 1 1 [.int .i64 t, .slice A6 os.length c6] (by rfl) rA rfl (ar_cells _ _ _ _) (by unfold maxLen; omega) (by omega) (by simp; omega) ?_
          intro v7 W7 hown hg
          obtain ⟨Aa7, ca7, rfl, ⟨k1, kf⟩, F⟩ := S.add hrow har o6 hc6 hol hov hown hg
          clear hown hg oA rA hrow har o6 S r1
          refine hK.out _ _ trivial (fun hHeld => ?_)
          clear hK K
          try simp only [Act.put, List.getElem_toArray, List.getElem_cons_succ, List.getElem_cons_zero, List.setIfInBounds_toArray, List.set_cons_zero, List.set_cons_succ]
          refine wpAnyH_take (i := 9) (oi := _) (v := ?_) rfl (by kernel_rfl) (by kernel_rfl) (by kernel_rfl) (fun _ _ _ h => h) (Or.inl ⟨by rfl, ?_⟩) hHeld ?_
          rotate_left
          · (intro w' hSw; (try dsimp only at hSw); go_simp <;> with_reducible rfl)
          try simp only [Act.put, List.getElem_toArray, List.getElem_cons_succ, List.getElem_cons_zero, List.setIfInBounds_toArray, List.set_cons_zero, List.set_cons_succ]
          refine wpAnyH_ready (rs := [10]) (by kernel_rfl) (by simp) (AllReadyH.cons (o := _) rfl (fun K hK => ?_) AllReadyH.nil)
          try simp only [Act.put, List.getElem_toArray, List.getElem_cons_succ, List.getElem_cons_zero, List.setIfInBounds_toArray, List.set_cons_zero, List.set_cons_succ]
          go_simp
          refine hK.out _ _ trivial (fun hHeld => ?_)
          clear hK K
          try simp only [Act.put, List.getElem_toArray, List.getElem_cons_succ, List.getElem_cons_zero, List.setIfInBounds_toArray, List.set_cons_zero, List.set_cons_succ]
          refine wpAnyH_done (by kernel_rfl) ?_ _
          obtain ⟨W8, hW8⟩ : ∃ W8, W7.setCell ⟨g, 1, none⟩ (.slice Aa7 (q.rs.length + 1) ca7) = W8 := ⟨_, rfl⟩
          rw [hW8] at F ⊢
          clear hW8 k1 kf hHeld
          obtain ⟨q', hq'⟩ : ∃ q' : Qr, q' = ⟨q.m, q.rs ++ [⟨t, os⟩]⟩ := ⟨_, rfl⟩
          rw [← hq'] at F
          clear hq'
          obtain ⟨F1, F2, ⟨F3, F3'⟩, F4, F5, F6, F7, F8⟩ := F
          have F9 := F8.size
          obtain ⟨j0, j1, -⟩ := id F2.reads
          obtain ⟨h0', h1', hf'⟩ := id F1.reads
          go_wp2
          obtain ⟨p0, p1⟩ := F1.two (.slice Am' q'.m.length cm') (.slice Aa7 q'.rs.length ca7)
          refine bodyPost_ret (v := .agg #[.slice Am' q'.m.length cm', .slice Aa7 q'.rs.length ca7]) (by simp [results, Try.results57, go_sem, p0, p1]) rfl ⟨_, q', rfl, OwnQ.mk_ (q := q') ((F4.farQ F1 0 _).farQ (F1.set0 _) 1 _) ((F5.farQ F1 0 _).farQ (F1.set0 _) 1 _), F6, ((F7.far (by omega) 0 _).far (by omega) 1 _).more (by omega), (F8.set_new (by omega) 0 _).set_new (by omega) 1 _⟩
        · skip
          try simp only [Act.put, List.getElem_toArray, List.getElem_cons_succ, List.getElem_cons_zero, List.setIfInBounds_toArray, List.set_cons_zero, List.set_cons_succ]
          go_simp
          go_at_call 78
          refine (pick_any R _ 13 _ S.2.2.2.2.2.2.1 (by omega) (by omega) (by omega)).mono ?_
          rintro e W5 ⟨t, rfl, t0, t1, RR, TT⟩
          replace S := S.but TT RR
          clear RR TT
          clear r1
          obtain ⟨-, r1, -⟩ := S.reads
          refine hK.out _ _ trivial (fun hHeld => ?_)
          clear hK K
          try simp only [Act.put, List.getElem_toArray, List.getElem_cons_succ, List.getElem_cons_zero, List.setIfInBounds_toArray, List.set_cons_zero, List.set_cons_succ]
          refine wpAnyH_ready (rs := [1, 5]) (by kernel_rfl) (by simp) (AllReadyH.cons (o := _) rfl (fun K hK => ?_) (AllReadyH.cons (o := _) rfl (fun K hK => ?_) AllReadyH.nil))
          · skip
            try simp only [Act.put, List.getElem_toArray, List.getElem_cons_succ, List.getElem_cons_zero, List.setIfInBounds_toArray, List.set_cons_zero, List.set_cons_succ]
            go_simp
            refine hK.out _ _ trivial (fun hHeld => ?_)
            clear hK K
            try simp only [Act.put, List.getElem_toArray, List.getElem_cons_succ, List.getElem_cons_zero, List.setIfInBounds_toArray, List.set_cons_zero, List.set_cons_succ]
            refine wpAnyH_ready (rs := [5]) (by kernel_rfl) (by simp) (AllReadyH.cons (o := _) rfl (fun K hK => ?_) AllReadyH.nil)
            try simp only [Act.put, List.getElem_toArray, List.getElem_cons_succ, List.getElem_cons_zero, List.setIfInBounds_toArray, List.set_cons_zero, List.set_cons_succ]
            go_simp
            go_at_call 95
            refine (l91Store_any R _ _ S.2.2.2.2.2.2.1 (by omega)).mono ?_
            rintro e W6 ⟨v6, os, rfl, o6', hol, hov, RR, TT⟩
            have o6 := o6'.base (B' := w.heap.size) S.2.2.2.2.2.2.2.size
            replace S := S.but TT RR
            obtain ⟨A6, c6, rfl, -, hc6⟩ := o6.formq
            clear RR TT o6'
            clear r1
            obtain ⟨-, r1, -⟩ := S.reads
            refine hK.out _ _ trivial (fun hHeld => ?_)
            clear hK K
            try simp only [Act.put, List.getElem_toArray, List.getElem_cons_succ, List.getElem_cons_zero, List.setIfInBounds_toArray, List.set_cons_zero, List.set_cons_succ]
            refine wpAnyH_take (i := 6) (oi := _) (v := ?_) rfl (by kernel_rfl) (by kernel_rfl) (by kernel_rfl) (fun _ _ _ h => h) (Or.inl ⟨by rfl, ?_⟩) hHeld ?_
            rotate_left
            · (intro w' hSw; (try dsimp only at hSw); go_simp <;> with_reducible rfl)
            try simp only [Act.put, List.getElem_toArray, List.getElem_cons_succ, List.getElem_cons_zero, List.setIfInBounds_toArray, List.set_cons_zero, List.set_cons_succ]
            refine wpAnyH_ready (rs := [7]) (by kernel_rfl) (by simp) (AllReadyH.cons (o := _) rfl (fun K hK => ?_) AllReadyH.nil)
            try simp only [Act.put, List.getElem_toArray, List.getElem_cons_succ, List.getElem_cons_zero, List.setIfInBounds_toArray, List.set_cons_zero, List.set_cons_succ]
            go_simp
            obtain ⟨ys, hrow, har⟩ := S.2.2.2.2.1
            have hro := S.room
            have hsz := S.2.2.2.2.2.2.2.size
            have oA := World.ownsRow.alloc hrow (.cells #[.int .i64 t, .slice A6 os.length c6] 84)
            have rA := row_two W6 (.int .i64 t) (.slice A6 os.length c6) 84
            clear r1
            obtain ⟨-, r1, -⟩ := (S.below ((Below.refl W6.heap.size W6).alloc (Nat.le_refl _) (.cells #[.int .i64 t, .slice A6 os.length c6] 84))).reads
            refine hK.out _ _ trivial (fun hHeld => ?_)
            clear hK K
            try simp only [Act.put, List.getElem_toArray, List.getElem_cons_succ, List.getElem_cons_zero, List.setIfInBounds_toArray, List.set_cons_zero, List.set_cons_succ]
            refine wpAnyH_ready (rs := [8]) (by kernel_rfl) (by simp) (AllReadyH.cons (o := _) rfl (fun K hK => ?_) AllReadyH.nil)
            try simp only [Act.put, List.getElem_toArray, List.getElem_cons_succ, List.getElem_cons_zero, List.setIfInBounds_toArray, List.set_cons_zero, List.set_cons_succ]
            rw [if_pos (by rfl)]
            refine op_append_row _ (by rfl) _ _ 24 (by rfl) w.heap.size 84 i0 (.agg #[.int .i64 0, .slice none 0 0]) 2 32 Try.underlying24 hi hz0 hz1 hz2 rfl (by decide) (.slice Aa q.rs.length ca) q.rs.length ys (by rfl) oA _ (some ⟨W6.heap.size, 0, none⟩) 1 1 [.int .i64 t, .slice A6 os.length c6] (by rfl) rA rfl (ar_cells _ _ _ _) (by unfold maxLen; omega) (by omega) (by simp; omega) ?_
            intro v7 W7 hown hg
            obtain ⟨Aa7, ca7, rfl, ⟨k1, kf⟩, F⟩ := S.add hrow har o6 hc6 hol hov hown hg
            clear hown hg oA rA hrow har o6 S r1
            refine hK.out _ _ trivial (fun hHeld => ?_)
            clear hK K
            try simp only [Act.put, List.getElem_toArray, List.getElem_cons_succ, List.getElem_cons_zero, List.setIfInBounds_toArray, List.set_cons_zero, List.set_cons_succ]
            refine wpAnyH_take (i := 9) (oi := _) (v := ?_) rfl (by kernel_rfl) (by kernel_rfl) (by kernel_rfl) (fun _ _ _ h => h) (Or.inl ⟨by rfl, ?_⟩) hHeld ?_
            rotate_left
            · (intro w' hSw; (try dsimp only at hSw); go_simp <;> with_reducible rfl)
            try simp only [Act.put, List.getElem_toArray, List.getElem_cons_succ, List.getElem_cons_zero, List.setIfInBounds_toArray, List.set_cons_zero, List.set_cons_succ]
            refine wpAnyH_ready (rs := [10]) (by kernel_rfl) (by simp) (AllReadyH.cons (o := _) rfl (fun K hK => ?_) AllReadyH.nil)
            try simp only [Act.put, List.getElem_toArray, List.getElem_cons_succ, List.getElem_cons_zero, List.setIfInBounds_toArray, List.set_cons_zero, List.set_cons_succ]
            go_simp
            refine hK.out _ _ trivial (fun hHeld => ?_)
            clear hK K
            try simp only [Act.put, List.getElem_toArray, List.getElem_cons_succ, List.getElem_cons_zero, List.setIfInBounds_toArray, List.set_cons_zero, List.set_cons_succ]
            refine wpAnyH_done (by kernel_rfl) ?_ _
            obtain ⟨W8, hW8⟩ : ∃ W8, W7.setCell ⟨g, 1, none⟩ (.slice Aa7 (q.rs.length + 1) ca7) = W8 := ⟨_, rfl⟩
            rw [hW8] at F ⊢
            clear hW8 k1 kf hHeld
            obtain ⟨q', hq'⟩ : ∃ q' : Qr, q' = ⟨q.m, q.rs ++ [⟨t, os⟩]⟩ := ⟨_, rfl⟩
            rw [← hq'] at F
            clear hq'
            obtain ⟨F1, F2, ⟨F3, F3'⟩, F4, F5, F6, F7, F8⟩ := F
            have F9 := F8.size
            obtain ⟨j0, j1, -⟩ := id F2.reads
            obtain ⟨h0', h1', hf'⟩ := id F1.reads
            go_wp2
            obtain ⟨p0, p1⟩ := F1.two (.slice Am' q'.m.length cm') (.slice Aa7 q'.rs.length ca7)
            refine bodyPost_ret (v := .agg #[.slice Am' q'.m.length cm', .slice Aa7 q'.rs.length ca7]) (by simp [results, Try.results57, go_sem, p0, p1]) rfl ⟨_, q', rfl, OwnQ.mk_ (q := q') ((F4.farQ F1 0 _).farQ (F1.set0 _) 1 _) ((F5.farQ F1 0 _).farQ (F1.set0 _) 1 _), F6, ((F7.far (by omega) 0 _).far (by omega) 1 _).more (by omega), (F8.set_new (by omega) 0 _).set_new (by omega) 1 _⟩
          · skip
            try simp only [Act.put, List.getElem_toArray, List.getElem_cons_succ, List.getElem_cons_zero, List.setIfInBounds_toArray, List.set_cons_zero, List.set_cons_succ]
            go_simp
            go_at_call 95
            refine (l91Store_any R _ _ S.2.2.2.2.2.2.1 (by omega)).mono ?_
            rintro e W6 ⟨v6, os, rfl, o6', hol, hov, RR, TT⟩
            have o6 := o6'.base (B' := w.heap.size) S.2.2.2.2.2.2.2.size
            replace S := S.but TT RR
            obtain ⟨A6, c6, rfl, -, hc6⟩ := o6.formq
            clear RR TT o6'
            clear r1
            obtain ⟨-, r1, -⟩ := S.reads
            refine hK.out _ _ trivial (fun hHeld => ?_)
            clear hK K
            try simp only [Act.put, List.getElem_toArray, List.getElem_cons_succ, List.getElem_cons_zero, List.setIfInBounds_toArray, List.set_cons_zero, List.set_cons_succ]
            refine wpAnyH_take (i := 6) (oi := _) (v := ?_) rfl (by kernel_rfl) (by kernel_rfl) (by kernel_rfl) (fun _ _ _ h => h) (Or.inl ⟨by rfl, ?_⟩) hHeld ?_
            rotate_left
            · (intro w' hSw; (try dsimp only at hSw); go_simp <;> with_reducible rfl)
            try simp only [Act.put, List.getElem_toArray, List.getElem_cons_succ, List.getElem_cons_zero, List.setIfInBounds_toArray, List.set_cons_zero, List.set_cons_succ]
            refine wpAnyH_ready (rs := [1, 7]) (by kernel_rfl) (by simp) (AllReadyH.cons (o := _) rfl (fun K hK => ?_) (AllReadyH.cons (o := _) rfl (fun K hK => ?_) AllReadyH.nil))
            · skip
              try simp only [Act.put, List.getElem_toArray, List.getElem_cons_succ, List.getElem_cons_zero, List.setIfInBounds_toArray, List.set_cons_zero, List.set_cons_succ]
              go_simp
              refine hK.out _ _ trivial (fun hHeld => ?_)
              clear hK K
              try simp only [Act.put, List.getElem_toArray, List.getElem_cons_succ, List.getElem_cons_zero, List.setIfInBounds_toArray, List.set_cons_zero, List.set_cons_succ]
              refine wpAnyH_ready (rs := [7]) (by kernel_rfl) (by simp) (AllReadyH.cons (o := _) rfl (fun K hK => ?_) AllReadyH.nil)
              try simp only [Act.put, List.getElem_toArray, List.getElem_cons_succ, List.getElem_cons_zero, List.setIfInBounds_toArray, List.set_cons_zero, List.set_cons_succ]
              go_simp
              obtain ⟨ys, hrow, har⟩ := S.2.2.2.2.1
              have hro := S.room
              have hsz := S.2.2.2.2.2.2.2.size
              have oA := World.ownsRow.alloc hrow (.cells #[.int .i64 t, .slice A6 os.length c6] 84)
              have rA := row_two W6 (.int .i64 t) (.slice A6 os.length c6) 84
              clear r1
              obtain ⟨-, r1, -⟩ := (S.below ((Below.refl W6.heap.size W6).alloc (Nat.le_refl _) (.cells #[.int .i64 t, .slice A6 os.length c6] 84))).reads
              refine hK.out _ _ trivial (fun hHeld => ?_)
              clear hK K
              try simp only [Act.put, List.getElem_toArray, List.getElem_cons_succ, List.getElem_cons_zero, List.setIfInBounds_toArray, List.set_cons_zero, List.set_cons_succ]
              refine wpAnyH_ready (rs := [8]) (by kernel_rfl) (by simp) (AllReadyH.cons (o := _) rfl (fun K hK => ?_) AllReadyH.nil)
              try simp only [Act.put, List.getElem_toArray, List.getElem_cons_succ, List.getElem_cons_zero, List.setIfInBounds_toArray, List.set_cons_zero, List.set_cons_succ]
              rw [if_pos (by rfl)]
              refine op_append_row _ (by rfl) _ _ 24 (by rfl) w.heap.size 84 i0 (.agg #[.int .i64 0, .slice none 0 0]) 2 32 Try.underlying24 hi hz0 hz1 hz2 rfl (by decide) (.slice Aa q.rs.length ca) q.rs.length ys (by rfl) oA _ (some ⟨W6.heap.size, 0, none⟩) 1 1 [.int .i64 t, .slice A6 os.length c6] (by rfl) rA rfl (ar_cells _ _ _ _) (by unfold maxLen; omega) (by omega) (by simp; omega) ?_
              intro v7 W7 hown hg
              obtain ⟨Aa7, ca7, rfl, ⟨k1, kf⟩, F⟩ := S.add hrow har o6 hc6 hol hov hown hg
              clear hown hg oA rA hrow har o6 S r1
              refine hK.out _ _ trivial (fun hHeld => ?_)
              clear hK K
              try simp only [Act.put, List.getElem_toArray, List.getElem_cons_succ, List.getElem_cons_zero, List.setIfInBounds_toArray, List.set_cons_zero, List.set_cons_succ]
              refine wpAnyH_take (i := 9) (oi := _) (v := ?_) rfl (by kernel_rfl) (by kernel_rfl) (by kernel_rfl) (fun _ _ _ h => h) (Or.inl ⟨by rfl, ?_⟩) hHeld ?_
              rotate_left
              · (intro w' hSw; (try dsimp only at hSw); go_simp <;> with_reducible rfl)
              try simp only [Act.put, List.getElem_toArray, List.getElem_cons_succ, List.getElem_cons_zero, List.setIfInBounds_toArray, List.set_cons_zero, List.set_cons_succ]
              refine wpAnyH_ready (rs := [10]) (by kernel_rfl) (by simp) (AllReadyH.cons (o := _) rfl (fun K hK => ?_) AllReadyH.nil)
              try simp only [Act.put, List.getElem_toArray, List.getElem_cons_succ, List.getElem_cons_zero, List.setIfInBounds_toArray, List.set_cons_zero, List.set_cons_succ]
              go_simp
              refine hK.out _ _ trivial (fun hHeld => ?_)
              clear hK K
              try simp only [Act.put, List.getElem_toArray, List.getElem_cons_succ, List.getElem_cons_zero, List.setIfInBounds_toArray, List.set_cons_zero, List.set_cons_succ]
              refine wpAnyH_done (by kernel_rfl) ?_ _
              obtain ⟨W8, hW8⟩ : ∃ W8, W7.setCell ⟨g, 1, none⟩ (.slice Aa7 (q.rs.length + 1) ca7) = W8 := ⟨_, rfl⟩
              rw [hW8] at F ⊢
              clear hW8 k1 kf hHeld
              obtain ⟨q', hq'⟩ : ∃ q' : Qr, q' = ⟨q.m, q.rs ++ [⟨t, os⟩]⟩ := ⟨_, rfl⟩
              rw [← hq'] at F
              clear hq'
              obtain ⟨F1, F2, ⟨F3, F3'⟩, F4, F5, F6, F7, F8⟩ := F
              have F9 := F8.size
              obtain ⟨j0, j1, -⟩ := id F2.reads
              obtain ⟨h0', h1', hf'⟩ := id F1.reads
              go_wp2
              obtain ⟨p0, p1⟩ := F1.two (.slice Am' q'.m.length cm') (.slice Aa7 q'.rs.length ca7)
              refine bodyPost_ret (v := .agg #[.slice Am' q'.m.length cm', .slice Aa7 q'.rs.length ca7]) (by simp [results, Try.results57, go_sem, p0, p1]) rfl ⟨_, q', rfl, OwnQ.mk_ (q := q') ((F4.farQ F1 0 _).farQ (F1.set0 _) 1 _) ((F5.farQ F1 0 _).farQ (F1.set0 _) 1 _), F6, ((F7.far (by omega) 0 _).far (by omega) 1 _).more (by omega), (F8.set_new (by omega) 0 _).set_new (by omega) 1 _⟩
            · skip
              try simp only [Act.put, List.getElem_toArray, List.getElem_cons_succ, List.getElem_cons_zero, List.setIfInBounds_toArray, List.set_cons_zero, List.set_cons_succ]
              go_simp
              obtain ⟨ys, hrow, har⟩ := S.2.2.2.2.1
              have hro := S.room
              have hsz := S.2.2.2.2.2.2.2.size
              have oA := World.ownsRow.alloc hrow (.cells #[.int .i64 t, .slice A6 os.length c6] 84)
              have rA := row_two W6 (.int .i64 t) (.slice A6 os.length c6) 84
              clear r1
              obtain ⟨-, r1, -⟩ := (S.below ((Below.refl W6.heap.size W6).alloc (Nat.le_refl _) (.cells #[.int .i64 t, .slice A6 os.length c6] 84))).reads
              refine hK.out _ _ trivial (fun hHeld => ?_)
              clear hK K
              try simp only [Act.put, List.getElem_toArray, List.getElem_cons_succ, List.getElem_cons_zero, List.setIfInBounds_toArray, List.set_cons_zero, List.set_cons_succ]
              refine wpAnyH_ready (rs := [1]) (by kernel_rfl) (by simp) (AllReadyH.cons (o := _) rfl (fun K hK => ?_) AllReadyH.nil)
              try simp only [Act.put, List.getElem_toArray, List.getElem_cons_succ, List.getElem_cons_zero, List.setIfInBounds_toArray, List.set_cons_zero, List.set_cons_succ]
              go_simp
              refine hK.out _ _ trivial (fun hHeld => ?_)
              clear hK K
              try simp only [Act.put, List.getElem_toArray, List.getElem_cons_succ, List.getElem_cons_zero, List.setIfInBounds_toArray, List.set_cons_zero, List.set_cons_succ]
              refine wpAnyH_ready (rs := [8]) (by kernel_rfl) (by simp) (AllReadyH.cons (o := _) rfl (fun K hK => ?_) AllReadyH.nil)
              try simp only [Act.put, List.getElem_toArray, List.getElem_cons_succ, List.getElem_cons_zero, List.setIfInBounds_toArray, List.set_cons_zero, List.set_cons_succ]
              rw [if_pos (by rfl)]
              refine op_append_row _ (by rfl) _ _ 24 (by rfl) w.heap.size 84 i0 (.agg #[.int .i64 0, .slice none 0 0]) 2 32 Try.underlying24 hi hz0 hz1 hz2 rfl (by decide) (.slice Aa q.rs.length ca) q.rs.length ys (by rfl) oA _ (some ⟨W6.heap.size, 0, none⟩) 1 1 [.int .i64 t, .slice A6 os.length c6] (by rfl) rA rfl (ar_cells _ _ _ _) (by unfold maxLen; omega) (by omega) (by simp; omega) ?_
              intro v7 W7 hown hg
              obtain ⟨Aa7, ca7, rfl, ⟨k1, kf⟩, F⟩ := S.add hrow har o6 hc6 hol hov hown hg
              clear hown hg oA rA hrow har o6 S r1
              refine hK.out _ _ trivial (fun hHeld => ?_)
              clear hK K
              try simp only [Act.put, List.getElem_toArray, List.getElem_cons_succ, List.getElem_cons_zero, List.setIfInBounds_toArray, List.set_cons_zero, List.set_cons_succ]
              refine wpAnyH_take (i := 9) (oi := _) (v := ?_) rfl (by kernel_rfl) (by kernel_rfl) (by kernel_rfl) (fun _ _ _ h => h) (Or.inl ⟨by rfl, ?_⟩) hHeld ?_
              rotate_left
              · (intro w' hSw; (try dsimp only at hSw); go_simp <;> with_reducible rfl)
              try simp only [Act.put, List.getElem_toArray, List.getElem_cons_succ, List.getElem_cons_zero, List.setIfInBounds_toArray, List.set_cons_zero, List.set_cons_succ]
              refine wpAnyH_ready (rs := [10]) (by kernel_rfl) (by simp) (AllReadyH.cons (o := _) rfl (fun K hK => ?_) AllReadyH.nil)
              try simp only [Act.put, List.getElem_toArray, List.getElem_cons_succ, List.getElem_cons_zero, List.setIfInBounds_toArray, List.set_cons_zero, List.set_cons_succ]
              go_simp
              refine hK.out _ _ trivial (fun hHeld => ?_)
              clear hK K
              try simp only [Act.put, List.getElem_toArray, List.getElem_cons_succ, List.getElem_cons_zero, List.setIfInBounds_toArray, List.set_cons_zero, List.set_cons_succ]
              refine wpAnyH_done (by kernel_rfl) ?_ _
              obtain ⟨W8, hW8⟩ : ∃ W8, W7.setCell ⟨g, 1, none⟩ (.slice Aa7 (q.rs.length + 1) ca7) = W8 := ⟨_, rfl⟩
              rw [hW8] at F ⊢
              clear hW8 k1 kf hHeld
              obtain ⟨q', hq'⟩ : ∃ q' : Qr, q' = ⟨q.m, q.rs ++ [⟨t, os⟩]⟩ := ⟨_, rfl⟩
              rw [← hq'] at F
              clear hq'
              obtain ⟨F1, F2, ⟨F3, F3'⟩, F4, F5, F6, F7, F8⟩ := F
              have F9 := F8.size
              obtain ⟨j0, j1, -⟩ := id F2.reads
              obtain ⟨h0', h1', hf'⟩ := id F1.reads
              go_wp2
              obtain ⟨p0, p1⟩ := F1.two (.slice Am' q'.m.length cm') (.slice Aa7 q'.rs.length ca7)
              refine bodyPost_ret (v := .agg #[.slice Am' q'.m.length cm', .slice Aa7 q'.rs.length ca7]) (by simp [results, Try.results57, go_sem, p0, p1]) rfl ⟨_, q', rfl, OwnQ.mk_ (q := q') ((F4.farQ F1 0 _).farQ (F1.set0 _) 1 _) ((F5.farQ F1 0 _).farQ (F1.set0 _) 1 _), F6, ((F7.far (by omega) 0 _).far (by omega) 1 _).more (by omega), (F8.set_new (by omega) 0 _).set_new (by omega) 1 _⟩
      · have e0 : (x == 0) = false := by rw [beq_eq_false_iff_ne]; omega
        by_cases hx1 : x = 1
        · have e1 : (x == 1) = true := by rw [hx1]; rfl
          clear hx0 hx1
          go_wp2_with fail
          refine (l91Spoilt_any R _ W4 S.2.2.2.2.2.2.1 (by omega)).mono ?_
          rintro e W6 ⟨v6, os, rfl, o6', hol, hov, RR, TT⟩
          have o6 := o6'.base (B' := w.heap.size) S.2.2.2.2.2.2.2.size
          replace S := S.but TT RR
          obtain ⟨A6, c6, rfl, -, hc6⟩ := o6.formq
          clear RR TT o6'
          have hfit := S.2.2.2.2.2.1.sml.1
          obtain ⟨h1, h2, ⟨i1, i2⟩, h5, h6, -, hR', h7⟩ := S
          have hz6 := h7.size
          have F : QFin R _ w g ⟨os, q.rs⟩ A6 c6 Aa ca (W6.setCell ⟨g, 0, none⟩ (.slice A6 os.length c6)) :=
            ⟨h1.far (p := ⟨g, 0, none⟩) (by show w.heap.size ≠ g; omega) _, h2.set0 _, ⟨i1, i2⟩, o6.farQ h2 0 _, h6.farQ h2 0 _, ⟨hol, hov, hfit.2.2.1, hfit.2.2.2⟩, hR'.far (by omega) 0 _, h7.set_new (by omega) 0 _⟩
          obtain ⟨l0, l1, lf⟩ := id h2.reads
          clear h1 h2 h5 h6 hR' h7 o6
          obtain ⟨F1, F2, ⟨F3, F3'⟩, F4, F5, F6, F7, F8⟩ := F
          have F9 := F8.size
          obtain ⟨j0, j1, -⟩ := id F2.reads
          obtain ⟨h0', h1', hf'⟩ := id F1.reads
          go_wp2
          obtain ⟨p0, p1⟩ := F1.two (.slice A6 os.length c6) (.slice Aa q.rs.length ca)
          refine bodyPost_ret (v := .agg #[.slice A6 os.length c6, .slice Aa q.rs.length ca]) (by simp [results, Try.results57, go_sem, p0, p1]) rfl ⟨_, (⟨os, q.rs⟩ : Qr), rfl, OwnQ.mk_ (q := (⟨os, q.rs⟩ : Qr)) ((F4.farQ F1 0 _).farQ (F1.set0 _) 1 _) ((F5.farQ F1 0 _).farQ (F1.set0 _) 1 _), F6, ((F7.far (by omega) 0 _).far (by omega) 1 _).more (by omega), (F8.set_new (by omega) 0 _).set_new (by omega) 1 _⟩
        · have e1 : (x == 1) = false := by rw [beq_eq_false_iff_ne]; omega
          have F := S.fin
          clear hx0 hx1 S
          obtain ⟨F1, F2, ⟨F3, F3'⟩, F4, F5, F6, F7, F8⟩ := F
          have F9 := F8.size
          obtain ⟨j0, j1, -⟩ := id F2.reads
          obtain ⟨h0', h1', hf'⟩ := id F1.reads
          go_wp2
          obtain ⟨p0, p1⟩ := F1.two (.slice Am' q.m.length cm') (.slice Aa q.rs.length ca)
          refine bodyPost_ret (v := .agg #[.slice Am' q.m.length cm', .slice Aa q.rs.length ca]) (by simp [results, Try.results57, go_sem, p0, p1]) rfl ⟨_, q, rfl, OwnQ.mk_ (q := q) ((F4.farQ F1 0 _).farQ (F1.set0 _) 1 _) ((F5.farQ F1 0 _).farQ (F1.set0 _) 1 _), F6, ((F7.far (by omega) 0 _).far (by omega) 1 _).more (by omega), (F8.set_new (by omega) 0 _).set_new (by omega) 1 _⟩
end Go.Proofs.Ytblknnifccmpkaa
