/- Walks for the exact law on SnapshotRefs: merged texts of this seat. -/
import Derived.Test.YteaibflloeipaaaGreatDoorM5
import Derived.Deep.Cut
set_option linter.unusedSimpArgs false
set_option linter.unusedVariables false
namespace Go.Proofs.YteaibflloeipaaaGreatDoor
open Go.RowKit Wo Pu Rf Co
set_option linter.unusedVariables false in
set_option linter.unusedSimpArgs false in
theorem asc_few : ∀ {zs : List Int} (lo hi : Int), zs.Pairwise (· < ·) → (∀ x ∈ zs, lo ≤ x ∧ x ≤ hi) → zs.length ≤ (hi + 1 - lo).toNat := by
  intro zs
  induction zs with
  | nil => intro lo hi _ _; exact Nat.zero_le _
  | cons a zs ih =>
    intro lo hi hp hr
    obtain ⟨h1, h2⟩ := List.pairwise_cons.1 hp
    have ha := hr a List.mem_cons_self
    have := ih (lo + 1) hi h2 (fun x hx => by have := h1 x hx; have := hr x (List.mem_cons_of_mem _ hx); omega)
    rw [List.length_cons]
    omega
set_option linter.unusedVariables false in
set_option linter.unusedSimpArgs false in
theorem asc_rs : ∀ {us : List Up} {k : Int}, Asc k us → (us.map Up.r).Pairwise (· < ·) := by
  intro us
  induction us with
  | nil => intro _ _; exact List.Pairwise.nil
  | cons u us ih =>
    intro k h
    refine List.pairwise_cons.2 ⟨fun x hx => ?_, ih h.2.2⟩
    obtain ⟨v, hv, rfl⟩ := List.mem_map.1 hx
    exact (h.2.2.mem v hv).1
set_option linter.unusedVariables false in
set_option linter.unusedSimpArgs false in
theorem uv_few {us : List Up} (h : UV us) : us.length ≤ 4 := by
  have := asc_few 0 3 (asc_rs h.2) (fun x hx => by obtain ⟨u, hu, rfl⟩ := List.mem_map.1 hx; exact (h.2.mem u hu).2.1)
  rw [List.length_map] at this
  exact this
set_option linter.unusedVariables false in
set_option linter.unusedSimpArgs false in
theorem pv_few {ps : List Part} (h : PartsV ps) : ps.length ≤ 3 ∧ SmP ps := by
  refine ⟨?_, fun p hp => uv_few (h.2.1 p hp).2.2⟩
  have := asc_few (zs := ps.map Part.s) 0 2 (List.pairwise_map.2 h.2.2) (fun x hx => by obtain ⟨p, hp, rfl⟩ := List.mem_map.1 hx; exact ⟨(h.2.1 p hp).1, (h.2.1 p hp).2.1⟩)
  rw [List.length_map] at this
  exact this
set_option linter.unusedVariables false in
structure SmC (k : Crd) : Prop where
  ts : k.ts.length ≤ 12
  os : k.os.length ≤ 13
  ps : ∀ t ∈ k.ts, t.ps.length ≤ 3 ∧ t.vs.length ≤ 3
  us : ∀ t ∈ k.ts, SmP t.ps
set_option linter.unusedVariables false in
set_option linter.unusedSimpArgs false in
theorem SmC.fit {k : Crd} (h : SmC k) : FitC k :=
  ⟨by have := h.ts; omega, by have := h.os; omega, fun t ht => by have := h.ps t ht; omega, fun t ht p hp => by have := h.us t ht p hp; omega⟩
set_option linter.unusedVariables false in
set_option linter.unusedSimpArgs false in
theorem SmC.set {k : Crd} (h : SmC k) {n : Nat} {t : Tx} (h1 : t.ps.length ≤ 3 ∧ t.vs.length ≤ 3) (h2 : SmP t.ps) : SmC ⟨k.ts.set n t, k.os⟩ := by
  refine ⟨by simpa using h.ts, h.os, fun x hx => ?_, fun x hx => ?_⟩
  · rcases List.mem_or_eq_of_mem_set hx with e | e
    · exact h.ps x e
    · rw [e]; exact h1
  · rcases List.mem_or_eq_of_mem_set hx with e | e
    · exact h.us x e
    · rw [e]; exact h2
set_option linter.unusedVariables false in
def DrC (w : World) (R g : Nat) (q : Int) (a b : Value) (col : Nat → Nat) (k : Crd) (wr : World) : Prop :=
  Blk2s wr w.heap.size 26 (.slice none 0 0) (.slice none 0 0) ∧ Blk2s wr g 26 a b ∧ w.heap.size < g ∧ OwnCr col wr w.heap.size (.agg #[a, b]) k ∧ R < w.heap.size ∧ Rd wr R q ∧ But R w wr
section
variable {w wr w' : World} {R g : Nat} {q q' : Int} {a b : Value} {col : Nat → Nat} {k : Crd}
set_option linter.unusedVariables false in
set_option linter.unusedSimpArgs false in
theorem DrC.call (h : DrC w R g q a b col k wr) (hb : Below wr.heap.size wr w') : DrC w R g q a b col k w' := by
  obtain ⟨h1, h2, h3, h4, h5, h6, h7⟩ := h
  exact ⟨h1.later hb, h2.later hb, h3, h4.below hb, h5, h6.below hb h6.lt, h7.trans (.of_below hb)⟩
set_option linter.unusedVariables false in
set_option linter.unusedSimpArgs false in
theorem DrC.more (h : DrC w R g q a b col k wr) (hq : q ≤ q') : DrC w R g q' a b col k wr := by
  obtain ⟨h1, h2, h3, h4, h5, h6, h7⟩ := h
  exact ⟨h1, h2, h3, h4, h5, h6.more hq, h7⟩
set_option linter.unusedVariables false in
set_option linter.unusedSimpArgs false in
theorem DrC.stored {v0 v1 : Value} {g2 : Nat} (h : DrC w R g q a b col k wr) (hx : Blk2s wr g2 26 v0 v1) (hg : g < g2) (o : Nat) (u : Value) : DrC w R g q a b col k (wr.setCell ⟨g2, o, none⟩ u) := by
  obtain ⟨h1, h2, h3, h4, h5, h6, h7⟩ := h
  exact ⟨h1.far (by show w.heap.size ≠ g2; omega) u, h2.far (by show g ≠ g2; omega) u, h3, h4.keptT (by decide) (by decide) (by decide) (by decide) (but_set wr g2 o u) (blk_type hx), h5, h6.far (by omega) o u, h7.set_new (by omega) o u⟩
set_option linter.unusedVariables false in
set_option linter.unusedSimpArgs false in
theorem DrC.next {a' b' : Value} {col' : Nat → Nat} {k' : Crd} (h : DrC w R g q a b col k wr) (o : OwnCr col' wr w.heap.size (.agg #[a', b']) k') : DrC w R g q a' b' col' k' ((wr.setCell ⟨g, 0, none⟩ a').setCell ⟨g, 1, none⟩ b') := by
  obtain ⟨h1, h2, h3, h4, h5, h6, h7⟩ := h
  exact ⟨(h1.far (p := ⟨g, 0, none⟩) (by show w.heap.size ≠ g; omega) a').far (p := ⟨g, 1, none⟩) (by show w.heap.size ≠ g; omega) b', (h2.set0 a').set1 b', h3, (o.keptT (by decide) (by decide) (by decide) (by decide) (but_set wr g 0 a') (blk_type h2)).keptT (by decide) (by decide) (by decide) (by decide) (but_set _ g 1 b') (blk_type (h2.set0 a')), h5,
    (h6.far (by omega) 0 a').far (by omega) 1 b', (h7.set_new (by omega) 0 a').set_new (by omega) 1 b'⟩
set_option linter.unusedVariables false in
set_option linter.unusedSimpArgs false in
theorem DrC.size (h : DrC w R g q a b col k wr) : w.heap.size ≤ wr.heap.size := h.2.2.2.2.2.2.size
end
end Go.Proofs.YteaibflloeipaaaGreatDoor
namespace Go.Proofs.YteaibflloeipaaaGreatDoor
open Go.RowKit Wo Pu Rf Co
set_option linter.unusedVariables false in
set_option linter.unusedSimpArgs false in
theorem shardNumberValid_is (b : Bool) (n : Int) (w : World) (hb : b = true ↔ (0 ≤ n ∧ n ≤ 2)) : Calls Tryz.prog 160 #[.int .i64 n] w (Same (.bool b) w) := by
  have HB := hid hb
  clear hb
  by_cases h0 : 0 ≤ n
  · have e0 : decide (0 ≤ n) = true := decide_eq_true h0
    by_cases h1 : n < 3
    · have e1 : decide (n < 3) = true := decide_eq_true h1
      have F := hid (HB.out.2 ⟨h0, by omega⟩)
      clear h0 h1
      go_enter Tryz.func160, Tryz.ntmps160
      go_wp2
      go_ret
      rw [F.out]
      exact ⟨rfl, rfl⟩
    · have e1 : decide (n < 3) = false := decide_eq_false h1
      have F : Hid (b = false) := by
        show b = false
        rw [← Bool.not_eq_true]
        exact fun e => by have := (HB.out.1 e).2; omega
      clear h0 h1
      go_enter Tryz.func160, Tryz.ntmps160
      go_wp2
      go_ret
      rw [F.out]
      exact ⟨rfl, rfl⟩
  · have e0 : decide (0 ≤ n) = false := decide_eq_false h0
    have F : Hid (b = false) := by
      show b = false
      rw [← Bool.not_eq_true]
      exact fun e => by have := (HB.out.1 e).1; omega
    clear h0
    go_enter Tryz.func160, Tryz.ntmps160
    go_wp2
    go_ret
    rw [F.out]
    exact ⟨rfl, rfl⟩
set_option linter.unusedVariables false in
set_option linter.unusedSimpArgs false in
set_option maxRecDepth 100000 in
set_option maxHeartbeats 4000000 in
theorem partValid_is (b : Bool) (A : Option Addr) (c : Nat) (p : Part) (w : World) (hr : Row w w.heap.size A (upsV p.us)) (hm : p.us.length ≤ 1048600) (hb : b = true ↔ ((0 ≤ p.s ∧ p.s ≤ 2) ∧ UV p.us)) :
    Calls Tryz.prog 151 #[.agg #[.int .i64 p.s, .slice A p.us.length c]] w (Ret (.bool b) w) := by
  obtain ⟨bs, hbs⟩ := bool_of (0 ≤ p.s ∧ p.s ≤ 2)
  obtain ⟨bu, hbu⟩ := bool_of (UV p.us)
  have F : Hid (b = (bs && bu)) := by
    show b = _
    rw [Bool.eq_iff_iff, hb, Bool.and_eq_true, hbs, hbu]
  have al := (Below.refl w.heap.size w).alloc (Nat.le_refl _) (.cells #[.int .i64 p.s, .slice A p.us.length c] 40)
  have C1 : Hid (∀ x, Calls Tryz.prog 160 #[.int .i64 p.s] x (Same (.bool bs) x)) := fun x => shardNumberValid_is bs _ x hbs
  have C2 : Hid (∀ x, Below w.heap.size w x → Calls Tryz.prog 110 #[.slice A p.us.length c] x (Ret (.bool bu) x)) := fun x hx => implUpdatesValid_is bu A c p.us x ((hr.below hx (Nat.le_refl _)).more hx.size) hm hbu
  clear hb hbs hbu hr
  go_enter Tryz.func151, Tryz.ntmps151
  go_wp2_with fail
  refine (C1.out _).mono ?_
  rintro e w1 ⟨rfl, rfl⟩
  cases bs with
  | false =>
    go_wp2
    go_ret
    rw [F.out]
    exact .mk_ al
  | true =>
    go_wp2_with fail
    refine (C2.out _ al).mono ?_
    rintro e w2 ⟨rfl, d⟩
    have b2 := al.trans (d.mono al.size)
    go_wp2
    go_ret
    rw [F.out]
    exact .mk_ b2
set_option linter.unusedVariables false in
def lastS (ps : List Part) (k : Nat) : Int := if h : 0 < k ∧ k - 1 < ps.length then (ps[k - 1]'h.2).s else -1
set_option linter.unusedVariables false in
set_option linter.unusedSimpArgs false in
theorem lastS_zero (ps : List Part) : lastS ps 0 = -1 := by unfold lastS; rw [dif_neg (by omega)]
set_option linter.unusedVariables false in
set_option linter.unusedSimpArgs false in
theorem lastS_next {ps : List Part} {k : Nat} (hk : k < ps.length) : lastS ps (k + 1) = ps[k].s := by
  unfold lastS
  rw [dif_pos (by omega)]
  rfl
set_option linter.unusedVariables false in
set_option linter.unusedSimpArgs false in
theorem lastS_lt {ps : List Part} {k : Nat} (hk : k < ps.length) (h1 : 0 ≤ ps[k].s) : lastS ps k < ps[k].s ↔ ∀ j (hj : j < ps.length), j + 1 = k → ps[j].s < ps[k].s := by
  unfold lastS
  by_cases e : 0 < k
  · rw [dif_pos (by omega)]
    refine ⟨fun h j hj e2 => ?_, fun h => h (k - 1) (by omega) (by omega)⟩
    have : j = k - 1 := by omega
    subst this
    exact h
  · rw [dif_neg (by omega)]
    exact ⟨fun _ j hj e2 => by omega, fun _ => by omega⟩
set_option linter.unusedVariables false in
set_option linter.unusedSimpArgs false in
set_option maxRecDepth 100000 in
set_option maxHeartbeats 8000000 in
theorem partsValid_is (b : Bool) (A : Option Addr) (c : Nat) (ps : List Part) (w : World) (h : Parts w w.heap.size A ps) (hm : ps.length ≤ 1048600) (hu : ∀ p ∈ ps, p.us.length ≤ 1048600) (hb : b = true ↔ PartsV ps) :
    Calls Tryz.prog 131 #[.slice A ps.length c] w (Ret (.bool b) w) := by
  have HB := hid hb
  have HU := hid hu
  clear hb hu
  go_enter Tryz.func131, Tryz.ntmps131
  go_wp2_with fail
  go_loopw [3, 8] (fun l i wr => ∃ k : Nat, k ≤ ps.length ∧ i = .int .i64 k ∧ l = .int .i64 (lastS ps k) ∧ Hid (PGood ps k) ∧ Below w.heap.size w wr) (fun _ i _ => ps.length - (intOf i).toNat)
  case atStart => exact ⟨0, Nat.zero_le _, rfl, by rw [lastS_zero], .zero ps, Below.refl _ _⟩
  case round =>
    obtain ⟨k, hk, rfl, rfl, H, hbr⟩ := hrel
    have hz := hbr.size
    by_cases hlt : k < ps.length
    · obtain ⟨p, ad, A', c', ho, rfl, had, g0, g1, -, g3⟩ := (h.on hbr).part hlt
      have hul := HU.out p (by rw [← ho]; exact List.getElem_mem hlt)
      have k0 : (0 : Int) ≤ (k : Int) := by omega
      have k1 : (k : Int) < (ps.length : Int) := by omega
      obtain ⟨bp, hbp⟩ := bool_of ((0 ≤ p.s ∧ p.s ≤ 2) ∧ UV p.us)
      have x5 := Blk2s.new_ wr 40 (.int .i64 p.s) (.slice A' p.us.length c')
      have al := (Below.refl wr.heap.size wr).alloc (Nat.le_refl _) (.cells #[.int .i64 p.s, .slice A' p.us.length c'] 40)
      have CP : Hid (∀ x, Below wr.heap.size wr x → Calls Tryz.prog 151 #[.agg #[.int .i64 p.s, .slice A' p.us.length c']] x (Ret (.bool bp) x)) := fun x hx => partValid_is bp A' c' p x ((g3.below hx (Nat.le_refl _)).more hx.size) hul hbp
      have HBP := hid hbp
      have HO := hid ho
      have e9 : Hid (lastS ps (k + 1) = p.s) := by show _ = _; rw [lastS_next hlt, ho]
      obtain ⟨ls, hls⟩ : ∃ ls, lastS ps k = ls := ⟨_, rfl⟩
      rw [hls]
      have HLS := hid hls
      clear hbp ho hls
      go_upto_region 5 with fail
      obtain ⟨w3, hw3⟩ : ∃ x, wr.alloc (.cells #[.int .i64 p.s, .slice A' p.us.length c'] 40) = x := ⟨_, rfl⟩
      rw [hw3] at x5 al ⊢
      clear hw3 g0 g1
      obtain ⟨y0, y1, -⟩ := id x5.reads
      go_wp2_with fail
      refine (CP.out _ al).mono ?_
      rintro e w4 ⟨rfl, d⟩
      have hb9 := hbr.trans ((al.trans (d.mono al.size)).mono hz)
      replace x5 := x5.later d
      clear y0 y1 CP
      obtain ⟨y0, y1, -⟩ := id x5.reads
      cases bp with
      | false =>
        have F : Hid (b = false) := by
          show b = false
          rw [← Bool.not_eq_true]
          exact fun e => by
            have hg := (partsV_iff.1 (HB.out.1 e)).2 k hlt hlt
            rw [HO.out] at hg
            have := HBP.out.2 ⟨hg.1, hg.2.1⟩
            cases this
        clear H
        go_wp2
        go_ret
        rw [F.out]
        exact .mk_ hb9
      | true =>
        have hv := HBP.out.1 rfl
        by_cases hord : ls < p.s
        · have e1 : decide (p.s ≤ ls) = false := decide_eq_false (by omega)
          have HN := hid (H.out.succ hlt (by rw [HO.out]; exact hv.1) (by rw [HO.out]; exact hv.2) ((lastS_lt hlt (by rw [HO.out]; exact hv.1.1)).1 (by rw [HLS.out, HO.out]; exact hord)))
          clear H hv hord
          go_wp2
          go_roundw
          case rel => exact ⟨k + 1, by omega, by go_num, by rw [e9.out], HN, hb9⟩
          case measure => simp [intOf]; omega
        · have e1 : decide (p.s ≤ ls) = true := decide_eq_true (by omega)
          have F : Hid (b = false) := by
            show b = false
            rw [← Bool.not_eq_true]
            exact fun e => by
              have hg := (partsV_iff.1 (HB.out.1 e)).2 k hlt hlt
              have := (lastS_lt hlt hg.1.1).2 hg.2.2
              rw [HLS.out, HO.out] at this
              exact hord this
          clear H hv hord
          go_wp2
          go_ret
          rw [F.out]
          exact .mk_ hb9
    · have hk' : k = ps.length := by omega
      subst hk'
      have hb9 := hbr
      by_cases h0 : ps.length = 0
      · have F : Hid (b = false) := by
          show b = false
          rw [← Bool.not_eq_true]
          exact fun e => (HB.out.1 e).1 (List.eq_nil_of_length_eq_zero h0)
        have e0 : decide (0 < (ps.length : Int)) = false := decide_eq_false (by omega)
        have e1 : decide (0 < ps.length) = false := decide_eq_false (by omega)
        clear h0 H
        go_wp2
        go_ret
        rw [F.out]
        exact .mk_ hb9
      · have F : Hid (b = true) := HB.out.2 (partsV_iff.2 ⟨fun e => h0 (by rw [e]; rfl), H.out⟩)
        have e0 : decide (0 < (ps.length : Int)) = true := decide_eq_true (by omega)
        have e1 : decide (0 < ps.length) = true := decide_eq_true (by omega)
        clear h0 H
        go_wp2
        go_ret
        rw [F.out]
        exact .mk_ hb9
set_option linter.unusedVariables false in
def decOf (a m : Nat) : Int := if 0 < a then 3 else if 0 < m then 0 else 2
set_option linter.unusedVariables false in
set_option linter.unusedSimpArgs false in
set_option maxHeartbeats 4000000 in
theorem decision_is (a m x : Nat) (w : World) :
    Calls Tryz.prog 134 #[.agg #[.int .i64 (a : Nat), .int .i64 (m : Nat), .int .i64 (x : Nat)]] w (Ret (.int .i64 (decOf a m)) w) := by
  have al := (Below.refl w.heap.size w).alloc (Nat.le_refl _) (.cells #[.int .i64 (a : Nat), .int .i64 (m : Nat), .int .i64 (x : Nat)] 197)
  unfold decOf
  by_cases ha : 0 < a
  · have e0 : decide ((0 : Int) < (a : Int)) = true := decide_eq_true (by omega)
    have e1 : decide (0 < a) = true := decide_eq_true ha
    rw [if_pos ha]
    clear ha
    go_enter Tryz.func134, Tryz.ntmps134
    go_wp2
    go_ret
    exact .mk_ al
  · have e0 : decide ((0 : Int) < (a : Int)) = false := decide_eq_false (by omega)
    have e1 : decide (0 < a) = false := decide_eq_false ha
    rw [if_neg ha]
    clear ha
    by_cases hm : 0 < m
    · have e2 : decide ((0 : Int) < (m : Int)) = true := decide_eq_true (by omega)
      have e3 : decide (0 < m) = true := decide_eq_true hm
      rw [if_pos hm]
      clear hm
      go_enter Tryz.func134, Tryz.ntmps134
      go_wp2
      go_ret
      exact .mk_ al
    · have e2 : decide ((0 : Int) < (m : Int)) = false := decide_eq_false (by omega)
      have e3 : decide (0 < m) = false := decide_eq_false hm
      rw [if_neg hm]
      clear hm
      go_enter Tryz.func134, Tryz.ntmps134
      go_wp2
      go_ret
      exact .mk_ al
end Go.Proofs.YteaibflloeipaaaGreatDoor
namespace Go.Proofs.YteaibflloeipaaaGreatDoor
open Go.RowKit Wo Pu Rf Co
set_option linter.unusedVariables false in
set_option linter.unusedSimpArgs false in
theorem count_sum : ∀ vs : List Int, vs.count 1 + vs.count (-1) + vs.count 0 + vs.countP wrong = vs.length := by
  intro vs
  induction vs with
  | nil => rfl
  | cons v vs ih =>
    rw [List.count_cons, List.count_cons, List.count_cons, List.countP_cons, List.length_cons]
    by_cases h1 : v = 1
    · subst h1; simp [wrong]; omega
    · by_cases h2 : v = -1
      · subst h2; simp [wrong]; omega
      · by_cases h3 : v = 0
        · subst h3; simp [wrong]; omega
        · have e : wrong v = true := by simp [wrong, h1, h2, h3]
          rw [if_neg (by simpa using h1), if_neg (by simpa using h2), if_neg (by simpa using h3), if_pos e]
          omega
set_option linter.unusedVariables false in
set_option linter.unusedSimpArgs false in
theorem wrong_zero (vs : List Int) : vs.countP wrong = 0 ↔ ∀ v ∈ vs, -1 ≤ v ∧ v ≤ 1 := by
  rw [List.countP_eq_zero]
  constructor
  · intro h v hv
    have := h v hv
    simp only [wrong, Bool.and_eq_true, Bool.not_eq_true', beq_eq_false_iff_ne, not_and, Classical.not_not] at this
    by_cases h1 : v = 1
    · omega
    · by_cases h2 : v = -1
      · omega
      · have := this h1 h2
        omega
  · intro h v hv e
    have := h v hv
    simp only [wrong, Bool.and_eq_true, Bool.not_eq_true', beq_eq_false_iff_ne] at e
    omega
set_option linter.unusedVariables false in
set_option linter.unusedSimpArgs false in
theorem tx_dec {t : Tx} (hp : PartsV t.ps) (hl : t.vs.length = t.ps.length) (h0 : t.vs.countP wrong = 0) : TxV t ↔ if t.d = 3 then decOf (t.vs.count (-1)) (t.vs.count 0) ≠ 2 else t.d = decOf (t.vs.count (-1)) (t.vs.count 0) := by
  have hs := count_sum t.vs
  rw [txV_iff]
  have hr := (wrong_zero t.vs).1 h0
  unfold decOf
  by_cases h3 : t.d = 3
  · rw [if_pos h3]
    constructor
    · rintro ⟨-, -, -, h | h | h⟩
      · omega
      · omega
      · split
        · decide
        · split
          · decide
          · omega
    · intro h
      refine ⟨hr, hp, hl, .inr (.inr ⟨h3, ?_⟩)⟩
      split at h
      · omega
      · split at h
        · omega
        · exact absurd rfl h
  · rw [if_neg h3]
    constructor
    · rintro ⟨-, -, -, h | h | h⟩
      · rw [if_neg (by omega), if_pos (by omega)]; exact h.1
      · rw [if_neg (by omega), if_neg (by omega)]; exact h.1
      · exact absurd h.1 h3
    · intro h
      refine ⟨hr, hp, hl, ?_⟩
      split at h
      · exact absurd h h3
      · split at h
        · exact .inl ⟨h, by omega, by omega⟩
        · exact .inr (.inl ⟨h, by omega⟩)
set_option linter.unusedSimpArgs false in
set_option linter.unusedVariables false in
set_option maxRecDepth 100000 in
set_option maxHeartbeats 8000000 in
theorem implTxnValid_is (b : Bool) (A : Option Addr) (c : Nat) (A2 : Option Addr) (c2 : Nat) (t : Tx) (w : World) (h1 : Parts w w.heap.size A t.ps) (h2 : Row w w.heap.size A2 (ints t.vs)) (hm : t.ps.length ≤ 1048600) (hv : t.vs.length ≤ 1048600) (hu : ∀ p ∈ t.ps, p.us.length ≤ 1048600) (hb : b = true ↔ TxV t) :
    Calls Tryz.prog 108 #[.agg #[.slice A t.ps.length c, .slice A2 t.vs.length c2, .int .i64 t.d]] w (Ret (.bool b) w) := by
  obtain ⟨bp, hbp⟩ := bool_ofP' (PartsV t.ps)
  have HB := hid hb
  have HBP := hid hbp
  have CP : Hid (∀ x, Below w.heap.size w x → Calls Tryz.prog 131 #[.slice A t.ps.length c] x (Ret (.bool bp) x)) := fun x hx => partsValid_is bp A c t.ps x (h1.on hx) hm hu hbp
  have NO : Hid (¬ TxV t → b = false) := fun h => by
    rw [← Bool.not_eq_true]
    exact fun e => h (hb.1 e)
  have b1 := (Below.refl w.heap.size w).alloc (Nat.le_refl _) (.cells #[.slice A t.ps.length c, .slice A2 t.vs.length c2, .int .i64 t.d] 33)
  have x0 := Blk3s.new_ w 33 (.slice A t.ps.length c) (.slice A2 t.vs.length c2) (.int .i64 t.d)
  clear hb hbp
  go_enter Tryz.func108, Tryz.ntmps108
  go_upto_region 1 with fail
  obtain ⟨w1, hw1⟩ : ∃ x, w.alloc (.cells #[.slice A t.ps.length c, .slice A2 t.vs.length c2, .int .i64 t.d] 33) = x := ⟨_, rfl⟩
  rw [hw1] at b1 x0 ⊢
  clear hw1
  obtain ⟨y0, y1, y2, -⟩ := id x0.reads
  go_wp2_with fail
  refine (CP.out _ b1).mono ?_
  rintro e w2 ⟨rfl, d⟩
  replace x0 := x0.later d
  replace b1 := b1.trans (d.mono b1.size)
  clear y0 y1 y2 d
  obtain ⟨y0, y1, y2, -⟩ := id x0.reads
  clear CP
  cases bp with
  | false =>
    have F : Hid (b = false) := NO.out fun e => by have := HBP.out.2 e.parts; cases this
    go_wp2
    go_ret
    rw [F.out]
    exact .mk_ b1
  | true =>
    have HP := hid (HBP.out.1 rfl)
    by_cases hl : t.vs.length = t.ps.length
    · have e0 : ((t.vs.length : Int) != (t.ps.length : Int)) = false := by rw [bne_eq_false_iff_eq]; omega
      have e1 : (t.vs.length != t.ps.length) = false := by rw [bne_eq_false_iff_eq]; exact hl
      have hfew := (pv_few HP.out).1
      have hvl : t.vs.length ≤ 3 := by omega
      have HL := hid hl
      clear hl
      have CS : Hid (∀ x, Below w.heap.size w x → Calls Tryz.prog 133 #[.slice A2 t.vs.length c2] x (Sent t.vs x)) := fun x hx => sendVotes_is A2 c2 t.vs x ((h2.below hx (Nat.le_refl _)).more hx.size) (by omega)
      go_wp2_with fail
      refine (CS.out _ b1).mono ?_
      rintro e w3 ⟨ch, s, r, rfl, hch, hcc, d⟩
      have xlt := x0.lt
      replace x0 := x0.later d
      replace b1 := b1.trans (d.mono b1.size)
      clear y0 y1 y2 d
      obtain ⟨y0, y1, y2, -⟩ := id x0.reads
      clear CS e0 e1
      go_wp2_with fail
      refine (countVotes_is t.vs ch _ s r w3 hcc (by omega)).mono ?_
      rintro e w4 ⟨rfl, T4⟩
      have hx0 : w.heap.size < ch := Nat.lt_of_lt_of_le xlt hch
      have b4 : Below w.heap.size w w4 := b1.trans (T4.below b1.size (Nat.le_of_lt hx0))
      have x4 : Blk3s w4 w.heap.size 33 (.slice A t.ps.length c) (.slice A2 t.vs.length c2) (.int .i64 t.d) := (T4.block w.heap.size x0.lt (fun e => Nat.ne_of_lt hx0 (by injection e))).trans x0
      clear x0 b1 y0 y1 y2 T4 hcc
      have HT := hid (tx_dec HP.out HL.out)
      have HW : Hid (t.vs.countP wrong ≠ 0 → b = false) := fun h => NO.out fun e => h ((wrong_zero _).2 (txV_iff.1 e).1)
      obtain ⟨na, hna⟩ : ∃ x, t.vs.count (-1) = x := ⟨_, rfl⟩
      obtain ⟨nm, hnm⟩ : ∃ x, t.vs.count 0 = x := ⟨_, rfl⟩
      obtain ⟨nx, hnx⟩ : ∃ x, t.vs.countP wrong = x := ⟨_, rfl⟩
      rw [hna, hnm, hnx] at HT
      rw [hnx] at HW
      rw [hna, hnm, hnx]
      have d5 := (Below.refl w4.heap.size w4).alloc (Nat.le_refl _) (.cells #[.int .i64 (na : Nat), .int .i64 (nm : Nat), .int .i64 (nx : Nat)] 197)
      have x0 := x4.later d5
      have b1 := b4.trans (d5.mono b4.size)
      have u5 := Blk3s.new_ w4 197 (.int .i64 (na : Nat)) (.int .i64 (nm : Nat)) (.int .i64 (nx : Nat))
      obtain ⟨y0, y1, y2, -⟩ := id x0.reads
      obtain ⟨z0, z1, z2, -⟩ := id u5.reads
      clear x4 b4 d5 hna hnm hnx
      by_cases h0 : 0 < nx
      · have F : Hid (b = false) := HW.out (by omega)
        have e0 : decide ((0 : Int) < (nx : Int)) = true := decide_eq_true (by omega)
        have e1 : decide (0 < nx) = true := decide_eq_true h0
        clear h0
        go_wp2
        go_ret
        rw [F.out]
        exact .mk_ b1
      · have e0 : decide ((0 : Int) < (nx : Int)) = false := decide_eq_false (by omega)
        have e1 : decide (0 < nx) = false := decide_eq_false h0
        have HT' := hid (HB.out.trans (HT.out (by omega)))
        clear h0 HW HB HT NO HBP
        by_cases h3 : t.d = 3
        · have e2 : (t.d == 3) = true := beq_iff_eq.2 h3
          have CD : Hid (∀ y, Calls Tryz.prog 134 #[.agg #[.int .i64 (na : Nat), .int .i64 (nm : Nat), .int .i64 (nx : Nat)]] y (Ret (.int .i64 (decOf na nm)) y)) := fun y => decision_is na nm nx y
          obtain ⟨dd, hdd⟩ : ∃ x, decOf na nm = x := ⟨_, rfl⟩
          have HD := hid HT'.out
          rw [if_pos h3, hdd] at HD
          rw [hdd] at CD
          have F : Hid (b = (dd != 2)) := by
            show _ = _
            rw [Bool.eq_iff_iff, HD.out, bne_iff_ne]
          clear h3 hdd HD HT'
          go_wp2_with fail
          refine (CD.out _).mono ?_
          rintro e w6 ⟨rfl, d⟩
          replace x0 := x0.later d
          replace b1 := b1.trans (d.mono b1.size)
          clear y0 y1 y2 d
          obtain ⟨y0, y1, y2, -⟩ := id x0.reads
          go_wp2
          go_ret
          rw [F.out]
          exact .mk_ b1
        · have e2 : (t.d == 3) = false := beq_eq_false_iff_ne.2 h3
          have CD : Hid (∀ y, Calls Tryz.prog 134 #[.agg #[.int .i64 (na : Nat), .int .i64 (nm : Nat), .int .i64 (nx : Nat)]] y (Ret (.int .i64 (decOf na nm)) y)) := fun y => decision_is na nm nx y
          obtain ⟨dd, hdd⟩ : ∃ x, decOf na nm = x := ⟨_, rfl⟩
          have HD := hid HT'.out
          rw [if_neg h3, hdd] at HD
          rw [hdd] at CD
          have F : Hid (b = (t.d == dd)) := by
            show _ = _
            rw [Bool.eq_iff_iff, HD.out, beq_iff_eq]
          have G0 := Later.cell (p := ⟨w.heap.size, 2, none⟩) y2 x0.lt
          have G1 := Later.cell (p := ⟨w4.heap.size, 0, none⟩) z0 u5.lt
          have G2 := Later.cell (p := ⟨w4.heap.size, 1, none⟩) z1 u5.lt
          have G3 := Later.cell (p := ⟨w4.heap.size, 2, none⟩) z2 u5.lt
          have hz := b1.size
          clear h3 hdd HD HT'
          go_wp2_with fail
          refine wp_region_later (w4.alloc (.cells #[.int .i64 (na : Nat), .int .i64 (nm : Nat), .int .i64 (nx : Nat)] 197)).heap.size (by kernel_rfl) (by kernel_rfl) ?_
          repeat (go_big_quiet_step ((go_at_call 134; exact Later.call (Nat.le_refl _) _ (CD.out _))))
          refine wpQuiet_nil ?_
          intro _ hw'
          obtain ⟨xx, hxx⟩ := hw'
          have hbx := xx.b
          subst hxx
          replace b1 := b1.trans (hbx.mono hz)
          go_wp2
          go_ret
          rw [F.out]
          exact .mk_ b1
    · have e0 : ((t.vs.length : Int) != (t.ps.length : Int)) = true := by rw [bne_iff_ne]; omega
      have e1 : (t.vs.length != t.ps.length) = true := by rw [bne_iff_ne]; exact hl
      have F : Hid (b = false) := NO.out fun e => hl e.len
      clear hl
      go_wp2
      go_ret
      rw [F.out]
      exact .mk_ b1
end Go.Proofs.YteaibflloeipaaaGreatDoor
namespace Go.Proofs.YteaibflloeipaaaGreatDoor
open Go.RowKit Wo Pu Rf Co
set_option linter.unusedVariables false in
def OAt (q : Crd) (i : Nat) (h : i < q.os.length) : Prop := (∃ n, ∃ hn : n < q.ts.length, q.os[i] = (n : Int) ∧ q.ts[n].d = 2) ∧ q.os[i] ∉ q.os.take i
set_option linter.unusedVariables false in
def OTo (q : Crd) (k : Nat) : Prop := ∀ i (h : i < q.os.length), i < k → OAt q i h
set_option linter.unusedVariables false in
def CTo (q : Crd) (k : Nat) : Prop := ∀ j (h : j < q.ts.length), j < k → q.ts[j].d = 2 → (j : Int) ∈ q.os
set_option linter.unusedVariables false in
def OV (q : Crd) : Prop := OTo q q.os.length ∧ CTo q q.ts.length
set_option linter.unusedVariables false in
set_option linter.unusedSimpArgs false in
theorem OTo.zero (q : Crd) : OTo q 0 := fun _ _ h => absurd h (Nat.not_lt_zero _)
set_option linter.unusedVariables false in
set_option linter.unusedSimpArgs false in
theorem CTo.zero (q : Crd) : CTo q 0 := fun _ _ h => absurd h (Nat.not_lt_zero _)
set_option linter.unusedVariables false in
set_option linter.unusedSimpArgs false in
theorem OTo.next {q : Crd} {k : Nat} (h : OTo q k) (hk : k < q.os.length) (hv : OAt q k hk) : OTo q (k + 1) := fun i hi hl => by
  by_cases e : i = k
  · subst e; exact hv
  · exact h i hi (by omega)
set_option linter.unusedVariables false in
set_option linter.unusedSimpArgs false in
theorem CTo.next {q : Crd} {k : Nat} (h : CTo q k) (hk : k < q.ts.length) (hv : q.ts[k].d = 2 → (k : Int) ∈ q.os) : CTo q (k + 1) := fun i hi hl => by
  by_cases e : i = k
  · subst e; exact hv
  · exact h i hi (by omega)
set_option linter.unusedVariables false in
set_option linter.unusedSimpArgs false in
theorem nodup_le {L : List Int} : ∀ {M : List Int}, L.Nodup → (∀ x ∈ L, x ∈ M) → L.length ≤ M.length := by
  induction L with
  | nil => intro M _ _; exact Nat.zero_le _
  | cons a L ih =>
    intro M hn hs
    obtain ⟨ha, hn⟩ := List.nodup_cons.1 hn
    have hm := hs a List.mem_cons_self
    have := ih (M := M.erase a) hn fun x hx => (List.mem_erase_of_ne (fun e => ha (by rw [← e]; exact hx))).2 (hs x (List.mem_cons_of_mem _ hx))
    rw [List.length_erase_of_mem hm] at this
    have := List.length_pos_of_mem hm
    rw [List.length_cons]
    omega
set_option linter.unusedVariables false in
set_option linter.unusedSimpArgs false in
theorem ov_iff {q : Crd} (h12 : q.ts.length ≤ 12) (htx : ∀ t ∈ q.ts, TxV t) : OV q ↔ CV q := by
  constructor
  · rintro ⟨h1, h2⟩
    have hnd : q.os.Nodup := by
      rw [List.Nodup, List.pairwise_iff_getElem]
      intro i j hi hj hij e
      refine (h1 j hj hj).2 ?_
      rw [← e]
      exact List.mem_iff_getElem.2 ⟨i, by rw [List.length_take]; omega, by rw [List.getElem_take]⟩
    have hord : ∀ i (h : i < q.ts.length), q.ts[i].d = 2 ↔ (i : Int) ∈ q.os := fun i hi => ⟨h2 i hi hi, fun hm => by
      obtain ⟨k, hk, e⟩ := List.mem_iff_getElem.1 hm
      obtain ⟨⟨n, hn, e1, e2⟩, -⟩ := h1 k hk hk
      have : n = i := by rw [e] at e1; omega
      subst this
      exact e2⟩
    have hl := comAt_count q.ts q.ts.length (Nat.le_refl _)
    rw [List.take_length] at hl
    have hmem : ∀ i : Nat, i ∈ (List.range q.ts.length).filter (comAt q.ts) ↔ ∃ hi : i < q.ts.length, q.ts[i].d = 2 := fun i => by
      rw [List.mem_filter, List.mem_range]
      unfold comAt isCom
      constructor
      · rintro ⟨h3, h4⟩
        rw [List.getElem?_eq_getElem h3] at h4
        exact ⟨h3, by simpa using h4⟩
      · rintro ⟨h3, h4⟩
        rw [List.getElem?_eq_getElem h3]
        exact ⟨h3, by simpa using h4⟩
    have hnL : (((List.range q.ts.length).filter (comAt q.ts)).map Int.ofNat).Nodup :=
      List.Pairwise.map _ (fun a b (hab : a ≠ b) e => hab (Int.ofNat.inj e)) (List.Nodup.sublist List.filter_sublist List.nodup_range)
    refine ⟨h12, htx, hord, ?_⟩
    rw [← hl]
    have l1 := nodup_le hnL (M := q.os) fun x hx => by
      obtain ⟨i, hi, rfl⟩ := List.mem_map.1 hx
      obtain ⟨a, b⟩ := (hmem i).1 hi
      exact (hord i a).1 b
    have l2 := nodup_le hnd (M := ((List.range q.ts.length).filter (comAt q.ts)).map Int.ofNat) fun x hx => by
      obtain ⟨k, hk, e⟩ := List.mem_iff_getElem.1 hx
      obtain ⟨⟨n, hn, e1, e2⟩, -⟩ := h1 k hk hk
      exact List.mem_map.2 ⟨n, (hmem n).2 ⟨hn, e2⟩, by rw [← e, e1]; rfl⟩
    rw [List.length_map] at l1 l2
    omega
  · intro h
    obtain ⟨h1, h2⟩ := h.order
    refine ⟨fun i hi _ => ⟨?_, fun hm => ?_⟩, fun j hj _ hd => (h.ord j hj).1 hd⟩
    · obtain ⟨n, hn, e, hd⟩ := h2 q.os[i] (List.getElem_mem hi)
      exact ⟨n, hn, e, hd⟩
    · obtain ⟨j, hj, e⟩ := List.mem_iff_getElem.1 hm
      rw [List.length_take] at hj
      rw [List.getElem_take] at e
      exact (List.pairwise_iff_getElem.1 h1) j i (by omega) hi (by omega) e
set_option linter.unusedVariables false in
def ordB (os : List Int) (k : Nat) : List Bool := (List.range 12).map fun j : Nat => decide ((j : Int) ∈ os.take k)
set_option linter.unusedVariables false in
set_option linter.unusedSimpArgs false in
theorem ordB_length (os : List Int) (k : Nat) : (ordB os k).length = 12 := by simp [ordB]
set_option linter.unusedVariables false in
set_option linter.unusedSimpArgs false in
theorem ordB_get (os : List Int) (k : Nat) {n : Nat} (hn : n < 12) : (ordB os k)[n]'(by rw [ordB_length]; exact hn) = decide ((n : Int) ∈ os.take k) := by simp [ordB]
set_option linter.unusedVariables false in
set_option linter.unusedSimpArgs false in
theorem ordB_zero (os : List Int) : ordB os 0 = List.replicate 12 false := by
  refine List.ext_getElem (by simp [ordB]) fun i h1 h2 => ?_
  rw [List.getElem_replicate]
  simp [ordB]
set_option linter.unusedVariables false in
set_option linter.unusedSimpArgs false in
theorem ordB_next {os : List Int} {k n : Nat} (hk : k < os.length) (he : os[k] = (n : Int)) : (ordB os k).set n true = ordB os (k + 1) := by
  refine List.ext_getElem (by simp [ordB]) fun i h1 h2 => ?_
  rw [List.getElem_set]
  simp only [ordB, List.getElem_map, List.getElem_range]
  rw [List.take_succ_eq_append_getElem hk, he]
  by_cases e : n = i
  · subst e; simp
  · rw [if_neg e]
    simp only [List.mem_append, List.mem_singleton, decide_eq_decide]
    constructor
    · exact fun h => .inl h
    · rintro (h | h)
      · exact h
      · exact absurd h (by omega)
set_option linter.unusedVariables false in
def bls (bs : List Bool) : List Value := bs.map .bool
set_option linter.unusedVariables false in
set_option linter.unusedSimpArgs false in
theorem bls_length (bs : List Bool) : (bls bs).length = bs.length := by simp [bls]
set_option linter.unusedVariables false in
set_option linter.unusedSimpArgs false in
theorem ord_read {w : World} {g k n : Nat} {T : TypeId} {os : List Int} (h : Arr4 w g T (bls (ordB os k))) (hn : n < 12) : w.cell? ⟨g, n, none⟩ = some (.bool (decide ((n : Int) ∈ os.take k))) := by
  rw [h.read (i := n) (by rw [bls_length, ordB_length]; exact hn)]
  simp only [bls, List.getElem_map]
  rw [ordB_get os k hn]
set_option linter.unusedVariables false in
set_option linter.unusedSimpArgs false in
set_option maxHeartbeats 4000000 in
theorem has_is (b : Bool) (A A2 : Option Addr) (n m c c2 : Nat) (t : Int) (w : World) (hb : b = true ↔ ∃ k, k < n ∧ t = ((k : Nat) : Int)) :
    Calls Tryz.prog 135 #[.agg #[.slice A n c, .slice A2 m c2], .int .i64 t] w (Ret (.bool b) w) := by
  have al := (Below.refl w.heap.size w).alloc (Nat.le_refl _) (.cells #[.slice A n c, .slice A2 m c2] 26)
  have hbb : b = (decide (0 ≤ t) && decide (t < (n : Int))) := by
    rw [Bool.eq_iff_iff, hb, Bool.and_eq_true, decide_eq_true_eq, decide_eq_true_eq]
    constructor
    · rintro ⟨k, hk, rfl⟩; omega
    · rintro ⟨h1, h2⟩; exact ⟨t.toNat, by omega, by omega⟩
  have HB := hid hbb
  clear hb hbb
  obtain ⟨p, hp⟩ : ∃ x, decide (0 ≤ t) = x := ⟨_, rfl⟩
  obtain ⟨r, hr⟩ : ∃ x, decide (t < (n : Int)) = x := ⟨_, rfl⟩
  rw [hp, hr] at HB
  cases p with
  | false =>
    have F : Hid (b = false) := by show b = false; rw [HB.out]; rfl
    clear HB
    go_enter Tryz.func135, Tryz.ntmps135
    go_wp2
    go_ret
    rw [F.out]
    exact .mk_ al
  | true =>
    have F : Hid (b = r) := by show b = r; rw [HB.out]; rfl
    clear HB
    go_enter Tryz.func135, Tryz.ntmps135
    go_wp2
    go_ret
    rw [F.out]
    exact .mk_ al
set_option linter.unusedVariables false in
set_option linter.unusedSimpArgs false in
set_option maxRecDepth 100000 in
set_option maxHeartbeats 8000000 in
theorem orderValid_is (b : Bool) (A : Option Addr) (c : Nat) (A2 : Option Addr) (c2 : Nat) (q : Crd) (w : World) (h1 : Txs w w.heap.size A q.ts) (h2 : Row w w.heap.size A2 (ints q.os)) (h12 : q.ts.length ≤ 12) (ho : q.os.length ≤ 1048600) (hb : b = true ↔ OV q) :
    Calls Tryz.prog 109 #[.agg #[.slice A q.ts.length c, .slice A2 q.os.length c2]] w (Ret (.bool b) w) := by
  have HB := hid hb
  have no : b ≠ true → b = false := fun h => by cases b; rfl; exact absurd rfl h
  have NO : Hid (¬ OV q → b = false) := fun h => no fun e => h (hb.1 e)
  have al := (Below.refl w.heap.size w).alloc (Nat.le_refl _) (.cells #[.slice A q.ts.length c, .slice A2 q.os.length c2] 26)
  have x0 := Blk2s.new_ w 26 (.slice A q.ts.length c) (.slice A2 q.os.length c2)
  obtain ⟨w1, hw1⟩ : ∃ x, w.alloc (.cells #[.slice A q.ts.length c, .slice A2 q.os.length c2] 26) = x := ⟨_, rfl⟩
  rw [hw1] at al x0
  have HR1 : Hid (∀ y, Below w1.heap.size w1 y → Txs y y.heap.size A q.ts) := fun y hy => (h1.on al).on hy
  have HR2 : Hid (∀ y, Below w1.heap.size w1 y → Row y y.heap.size A2 (ints q.os)) := fun y hy => (((h2.below al (Nat.le_refl _)).more al.size).below hy (Nat.le_refl _)).more hy.size
  have HX : Hid (∀ y, Below w1.heap.size w1 y → (y.cell? ⟨w.heap.size, 0, none⟩ = some (.slice A q.ts.length c) ∧ y.cell? ⟨w.heap.size, 1, none⟩ = some (.slice A2 q.os.length c2))) := fun y hy => ⟨(x0.later hy).reads.1, (x0.later hy).reads.2.1⟩
  have a0 := Arr4.new_ w1 201 (bls (List.replicate 12 false))
  have b0 := (Below.refl w1.heap.size w1).alloc (Nat.le_refl _) (.cells (bls (List.replicate 12 false)).toArray 201)
  obtain ⟨y0, y1⟩ := HX.out _ b0
  clear h1 h2 hb no x0
  go_enter Tryz.func109, Tryz.ntmps109
  go_upto_region 1 with fail
  clear hw1
  go_upto_region 2 with fail
  obtain ⟨w2, hw2⟩ : ∃ x, w1.alloc (.cells (bls (List.replicate 12 false)).toArray 201) = x := ⟨_, rfl⟩
  have hw2' : w1.alloc (.cells #[.bool false, .bool false, .bool false, .bool false, .bool false, .bool false, .bool false, .bool false, .bool false, .bool false, .bool false, .bool false] 201) = w2 := hw2
  rw [hw2] at a0 b0 y0 y1
  try rw [hw2']
  clear hw2 hw2'
  go_wp2_with fail
  go_loopw [11] (fun i wr => ∃ k : Nat, k ≤ q.os.length ∧ i = .int .i64 k ∧ Hid (OTo q k) ∧ Arr4 wr w1.heap.size 201 (bls (ordB q.os k)) ∧ Below w1.heap.size w1 wr) (fun i _ => q.os.length - (intOf i).toNat)
  case atStart => exact ⟨0, Nat.zero_le _, rfl, .zero _, by rw [ordB_zero]; exact a0, b0⟩
  case round =>
    clear a0 b0 y0 y1
    obtain ⟨k, hk, rfl, H, a, hbr⟩ := hrel
    have hz := hbr.size
    obtain ⟨y0, y1⟩ := HX.out _ hbr
    by_cases hlt : k < q.os.length
    · obtain ⟨ad, rfl, hbl, hcell⟩ := (HR2.out _ hbr).int_ hlt
      have k0 : (0 : Int) ≤ (k : Int) := by omega
      have k1 : (k : Int) < (q.os.length : Int) := by omega
      obtain ⟨x, hx⟩ : ∃ x, q.os[k] = x := ⟨_, rfl⟩
      rw [hx] at hcell
      obtain ⟨bh, hbh⟩ := bool_ofP' (∃ n, n < q.ts.length ∧ x = ((n : Nat) : Int))
      have CH : Hid (∀ y, Calls Tryz.prog 135 #[.agg #[.slice A q.ts.length c, .slice (some ad) q.os.length c2], .int .i64 x] y (Ret (.bool bh) y)) := fun y => has_is bh A (some ad) q.ts.length q.os.length c c2 x y hbh
      have HBH := hid hbh
      have HXK := hid hx
      clear hbh hx
      go_wp2_with fail
      refine (CH.out _).mono ?_
      rintro e w3 ⟨rfl, d⟩
      have hb2 := hbr.trans (d.mono hbr.size)
      have a3 := a.below d a.lt
      clear y0 y1 hcell CH
      obtain ⟨y0, y1⟩ := HX.out _ hb2
      cases bh with
      | false =>
        have F : Hid (b = false) := NO.out fun e => by
          obtain ⟨⟨n, hn, e1, -⟩, -⟩ := e.1 k hlt hlt
          have := HBH.out.2 ⟨n, hn, by rw [← HXK.out, e1]⟩
          cases this
        go_wp2
        go_ret
        rw [F.out]
        exact .mk_ (al.trans (hb2.mono al.size))
      | true =>
        obtain ⟨n, hn, hxn⟩ := HBH.out.1 rfl
        subst hxn
        obtain ⟨t, ad2, A', c', A3, c3, ho3, e2, had, g0, g1, g2, -⟩ := (HR1.out _ hb2).tx hn
        subst e2
        have q0 : (0 : Int) ≤ (n : Int) := by omega
        have q1 : (n : Int) < (q.ts.length : Int) := by omega
        have q2 : (n : Int) < 12 := by omega
        by_cases hd : t.d = 2
        · have e1 : (t.d != 2) = false := by rw [bne_eq_false_iff_eq]; exact hd
          have y3 := ord_read a3 (show n < 12 by omega)
          by_cases hm : (n : Int) ∈ q.os.take k
          · have F : Hid (b = false) := NO.out fun e => (e.1 k hlt hlt).2 (by rw [HXK.out]; exact hm)
            rw [decide_eq_true hm] at y3
            clear hm hd
            go_wp2
            go_ret
            rw [F.out]
            exact .mk_ (al.trans (hb2.mono al.size))
          · have HN := hid (H.out.next hlt ⟨⟨n, hn, HXK.out, by rw [ho3]; exact hd⟩, by rw [HXK.out]; exact hm⟩)
            rw [decide_eq_false hm] at y3
            have f0 := a3.frozen n
            have a5 := a3.set n (.bool true)
            have e5 : (bls (ordB q.os k)).set n (.bool true) = bls (ordB q.os (k + 1)) := by rw [← ordB_next hlt HXK.out]; unfold bls; rw [List.map_set]
            rw [e5] at a5
            have b5 := hb2.setCell (p := ⟨w1.heap.size, n, none⟩) (Nat.le_refl _) (.bool true)
            clear hm hd a a3 e5
            go_wp2
            go_roundw
            case rel => exact ⟨k + 1, by omega, by go_num, HN, a5, b5⟩
            case measure => simp [intOf]; omega
        · have F : Hid (b = false) := NO.out fun e => hd (by
            obtain ⟨⟨m, hm, e1, e2⟩, -⟩ := e.1 k hlt hlt
            have : m = n := by rw [HXK.out] at e1; omega
            subst this
            rw [← ho3]; exact e2)
          have e1 : (t.d != 2) = true := by rw [bne_iff_ne]; exact hd
          clear hd
          go_wp2
          go_ret
          rw [F.out]
          exact .mk_ (al.trans (hb2.mono al.size))
    · have hk' : k = q.os.length := by omega
      subst hk'
      have HO := hid H.out
      go_wp2_with fail
      go_loopw [39] (fun i wx => ∃ k : Nat, k ≤ q.ts.length ∧ i = .int .i64 k ∧ Hid (CTo q k) ∧ Arr4 wx w1.heap.size 201 (bls (ordB q.os q.os.length)) ∧ Below w1.heap.size w1 wx) (fun i _ => q.ts.length - (intOf i).toNat)
      case atStart => exact ⟨0, Nat.zero_le _, rfl, .zero _, a, hbr⟩
      case round =>
        clear a hbr y0 y1 H hz
        obtain ⟨k, hk, rfl, H, a, hbr⟩ := hrel
        have hz := hbr.size
        by_cases hlt : k < q.ts.length
        · obtain ⟨t, ad, A', c', A3, c3, ho3, e2, had, g0, g1, g2, -⟩ := (HR1.out _ hbr).tx hlt
          subst e2
          have k0 : (0 : Int) ≤ (k : Int) := by omega
          have k1 : (k : Int) < (q.ts.length : Int) := by omega
          have k2 : (k : Int) < 12 := by omega
          have a3 := a.below ((Below.refl wr.heap.size wr).alloc (Nat.le_refl _) (.cells #[.slice A' t.ps.length c', .slice A3 t.vs.length c3, .int .i64 t.d] 33)) a.lt
          have hb2 := hbr.alloc hz (.cells #[.slice A' t.ps.length c', .slice A3 t.vs.length c3, .int .i64 t.d] 33)
          obtain ⟨z0, z1, z2, -⟩ := (Blk3s.new_ wr 33 (.slice A' t.ps.length c') (.slice A3 t.vs.length c3) (.int .i64 t.d)).reads
          have y3 := ord_read a3 (show k < 12 by omega)
          rw [List.take_length] at y3
          by_cases hd : t.d = 2
          · have e1 : (t.d == 2) = true := beq_iff_eq.2 hd
            by_cases hm : (k : Int) ∈ q.os
            · have HN := hid (H.out.next hlt fun _ => hm)
              rw [decide_eq_true hm] at y3
              clear hm hd a
              go_wp2
              go_roundw
              case rel => exact ⟨k + 1, by omega, by go_num, HN, a3, hb2⟩
              case measure => simp [intOf]; omega
            · have F : Hid (b = false) := NO.out fun e => hm (e.2 k hlt hlt (by rw [ho3]; exact hd))
              rw [decide_eq_false hm] at y3
              clear hm hd
              go_wp2
              go_ret
              rw [F.out]
              exact .mk_ (al.trans (hb2.mono al.size))
          · have e1 : (t.d == 2) = false := beq_eq_false_iff_ne.2 hd
            have HN := hid (H.out.next hlt fun e => absurd (by rw [ho3] at e; exact e) hd)
            clear hd a
            go_wp2
            go_roundw
            case rel => exact ⟨k + 1, by omega, by go_num, HN, a3, hb2⟩
            case measure => simp [intOf]; omega
        · have F : Hid (b = true) := HB.out.2 ⟨HO.out, by
            have hk' : k = q.ts.length := by omega
            subst hk'
            exact H.out⟩
          have hb2 := hbr
          have hk' : k = q.ts.length := by omega
          subst hk'
          go_wp2
          go_ret
          rw [F.out]
          exact .mk_ (al.trans (hb2.mono al.size))
end Go.Proofs.YteaibflloeipaaaGreatDoor
namespace Go.Proofs.YteaibflloeipaaaGreatDoor
open Go.RowKit Wo Pu Rf Co
set_option linter.unusedVariables false in
def VlTo (q : Crd) (k : Nat) : Prop := ∀ j (h : j < q.ts.length), j < k → TxV q.ts[j]
set_option linter.unusedVariables false in
set_option linter.unusedSimpArgs false in
theorem VlTo.zero (q : Crd) : VlTo q 0 := fun _ _ h => absurd h (Nat.not_lt_zero _)
set_option linter.unusedVariables false in
set_option linter.unusedSimpArgs false in
theorem VlTo.next {q : Crd} {k : Nat} (h : VlTo q k) (hk : k < q.ts.length) (hv : TxV q.ts[k]) : VlTo q (k + 1) := fun i hi hl => by
  by_cases e : i = k
  · subst e; exact hv
  · exact h i hi (by omega)
set_option linter.unusedVariables false in
set_option linter.unusedSimpArgs false in
theorem VlTo.all {q : Crd} (h : VlTo q q.ts.length) : ∀ t ∈ q.ts, TxV t := fun t ht => by
  obtain ⟨j, hj, rfl⟩ := List.mem_iff_getElem.1 ht
  exact h j hj hj
set_option linter.unusedVariables false in
set_option linter.unusedSimpArgs false in
set_option maxRecDepth 100000 in
set_option maxHeartbeats 8000000 in
theorem implCoordinatorValid_is (b : Bool) (v : Value) (q : Crd) (w : World) (h : Crdd w w.heap.size v q) (hf : FitC q) (hb : b = true ↔ CV q) :
    Calls Tryz.prog 73 #[v] w (Ret (.bool b) w) := by
  have HB := hid hb
  have no : b ≠ true → b = false := fun h => by cases b; rfl; exact absurd rfl h
  have NO : Hid (¬ CV q → b = false) := fun h => no fun e => h (hb.1 e)
  obtain ⟨A, c, A2, c2, rfl, h1, -, h2, -⟩ := h
  have f1 := hf.ts
  have f2 := hf.os
  have HF := hid hf
  unfold crV
  have al := (Below.refl w.heap.size w).alloc (Nat.le_refl _) (.cells #[.slice A q.ts.length c, .slice A2 q.os.length c2] 26)
  have x0 := Blk2s.new_ w 26 (.slice A q.ts.length c) (.slice A2 q.os.length c2)
  obtain ⟨w1, hw1⟩ : ∃ x, w.alloc (.cells #[.slice A q.ts.length c, .slice A2 q.os.length c2] 26) = x := ⟨_, rfl⟩
  rw [hw1] at al x0
  have HR1 : Hid (∀ y, Below w1.heap.size w1 y → Txs y y.heap.size A q.ts) := fun y hy => (h1.on al).on hy
  have HR2 : Hid (∀ y, Below w1.heap.size w1 y → Row y y.heap.size A2 (ints q.os)) := fun y hy => (((h2.below al (Nat.le_refl _)).more al.size).below hy (Nat.le_refl _)).more hy.size
  have HX : Hid (∀ y, Below w1.heap.size w1 y → (y.cell? ⟨w.heap.size, 0, none⟩ = some (.slice A q.ts.length c) ∧ y.cell? ⟨w.heap.size, 1, none⟩ = some (.slice A2 q.os.length c2))) := fun y hy => ⟨(x0.later hy).reads.1, (x0.later hy).reads.2.1⟩
  have hb2 := Below.refl w1.heap.size w1
  obtain ⟨y0, y1⟩ := HX.out _ hb2
  clear h1 h2 hb no x0 hf
  go_enter Tryz.func73, Tryz.ntmps73
  go_upto_region 1 with fail
  clear hw1
  by_cases h12 : q.ts.length ≤ 12
  · have e0 : decide ((12 : Int) < (q.ts.length : Int)) = false := decide_eq_false (by omega)
    have e1 : decide (12 < q.ts.length) = false := decide_eq_false (by omega)
    go_wp2_with fail
    go_loopw [12] (fun i wr => ∃ k : Nat, k ≤ q.ts.length ∧ i = .int .i64 k ∧ Hid (VlTo q k) ∧ Below w1.heap.size w1 wr) (fun i _ => q.ts.length - (intOf i).toNat)
    case atStart => exact ⟨0, Nat.zero_le _, rfl, .zero _, hb2⟩
    case round =>
      clear hb2 y0 y1
      obtain ⟨k, hk, rfl, H, hbr⟩ := hrel
      have hz := hbr.size
      by_cases hlt : k < q.ts.length
      · obtain ⟨t, ad, A', c', A3, c3, ho, e2, had, g0, g1, g2, -, -, g5, g6⟩ := (HR1.out _ hbr).tx hlt
        have hps := HF.out.ps t (by rw [← ho]; exact List.getElem_mem hlt)
        have hus := HF.out.us t (by rw [← ho]; exact List.getElem_mem hlt)
        have k0 : (0 : Int) ≤ (k : Int) := by omega
        have k1 : (k : Int) < (q.ts.length : Int) := by omega
        obtain ⟨bt, hbt⟩ := bool_ofP' (TxV t)
        have CT := hid fun y (hy : Below wr.heap.size wr y) => implTxnValid_is bt A' c' A3 c3 t y (g5.on hy) ((g6.below hy (Nat.le_refl _)).more hy.size) (by omega) (by omega) (fun p hp => Nat.le_trans (hus p hp) (by omega)) hbt
        have HBT := hid hbt
        have HO := hid ho
        subst e2
        have d1 := (Below.refl wr.heap.size wr).alloc (Nat.le_refl _) (.cells #[.slice A' t.ps.length c', .slice A3 t.vs.length c3, .int .i64 t.d] 33)
        have hb1 := hbr.trans (d1.mono hbr.size)
        obtain ⟨z0, z1, z2, -⟩ := (Blk3s.new_ wr 33 (.slice A' t.ps.length c') (.slice A3 t.vs.length c3) (.int .i64 t.d)).reads
        clear hbt ho g5 g6 hps hus
        go_wp2_with fail
        refine (CT.out _ d1).mono ?_
        rintro e w2 ⟨rfl, d2⟩
        have hb2 := hb1.trans (d2.mono hb1.size)
        obtain ⟨y0, y1⟩ := HX.out _ hb2
        clear g0 g1 g2 z0 z1 z2 CT d1 hb1 d2
        cases bt with
        | false =>
          have F : Hid (b = false) := NO.out fun e => by have := HBT.out.2 (HO.out ▸ e.txs _ (List.getElem_mem hlt)); cases this
          go_wp2
          go_ret
          rw [F.out]
          exact .mk_ (al.trans (hb2.mono al.size))
        | true =>
          have HN := hid (H.out.next hlt (by rw [HO.out]; exact HBT.out.1 rfl))
          go_wp2
          go_roundw
          case rel => exact ⟨k + 1, by omega, by go_num, HN, hb2⟩
          case measure => simp [intOf]; omega
      · have hk' : k = q.ts.length := by omega
        subst hk'
        obtain ⟨y0, y1⟩ := HX.out _ hbr
        have CO : Hid (∀ y, Below w1.heap.size w1 y → Calls Tryz.prog 109 #[.agg #[.slice A q.ts.length c, .slice A2 q.os.length c2]] y (Ret (.bool b) y)) := fun y hy => orderValid_is b A c A2 c2 q y (HR1.out y hy) (HR2.out y hy) h12 (by omega) (HB.out.trans (ov_iff h12 H.out.all).symm)
        clear H HB
        go_wp2_with fail
        refine (CO.out _ hbr).mono ?_
        rintro e w2 ⟨rfl, d2⟩
        have hb2 := hbr.trans (d2.mono hbr.size)
        have F : Hid (b = b) := rfl
        go_wp2
        go_ret
        exact .mk_ (al.trans (hb2.mono al.size))
  · have e0 : decide ((12 : Int) < (q.ts.length : Int)) = true := decide_eq_true (by omega)
    have e1 : decide (12 < q.ts.length) = true := decide_eq_true (by omega)
    have F : Hid (b = false) := NO.out fun e => h12 e.many
    clear h12
    go_wp2
    go_ret
    rw [F.out]
    exact .mk_ (al.trans (hb2.mono al.size))
end Go.Proofs.YteaibflloeipaaaGreatDoor
namespace Go.Proofs.YteaibflloeipaaaGreatDoor
open Go.RowKit Wo Pu Rf Lk Sh Co Si
set_option linter.unusedVariables false
set_option linter.unusedSimpArgs false
def setL : List Value → Nat → List Value → List Value
  | xs, _, [] => xs
  | xs, o, v :: vs => setL (xs.set o v) (o + 1) vs
theorem setL_mid (c : List Value) : ∀ (vs a b : List Value), vs.length = b.length → setL (a ++ b ++ c) a.length vs = a ++ vs ++ c
  | [], a, b, h => by
    have : b = [] := List.length_eq_zero_iff.1 h.symm
    subst this
    rfl
  | v :: vs, a, b, h => by
    rcases b with _ | ⟨y, b⟩
    · simp at h
    · have e : (a ++ (y :: b) ++ c).set a.length v = (a ++ [v]) ++ b ++ c := by simp
      have h2 := setL_mid c vs (a ++ [v]) b (by simpa using h)
      unfold setL
      rw [e]
      rw [List.length_append, List.length_singleton] at h2
      rw [h2]
      simp
theorem Arr4.setMid {g : Nat} {t : TypeId} : ∀ (vs : List Value) (o : Nat) {w : World} {xs : List Value}, Arr4 w g t xs → Arr4 (w.setCells g o vs) g t (setL xs o vs)
  | [], _, _, _, h => h
  | v :: vs, o, _, _, h => (h.set o v).setMid vs (o + 1)
structure SitK (w : World) (B : Nat) (k : Nat) (ss : List (List Rec)) (L0 L1 L2 : List Value) : Prop where
  l0 : Led L0
  l1 : Led L1
  l2 : Led L2
  r0 : 0 < k → ∀ r, ss[0]? = some r → LdR w B L0 r
  r1 : 1 < k → ∀ r, ss[1]? = some r → LdR w B L1 r
  r2 : 2 < k → ∀ r, ss[2]? = some r → LdR w B L2 r
theorem SitK.below {w w' : World} {B C : Nat} {k : Nat} {ss : List (List Rec)} {L0 L1 L2 : List Value} (h : SitK w B k ss L0 L1 L2) (hb : Below C w w') (hC : B ≤ C) : SitK w' B k ss L0 L1 L2 :=
  ⟨h.l0, h.l1, h.l2, fun hk r hr => (h.r0 hk r hr).below hb hC, fun hk r hr => (h.r1 hk r hr).below hb hC, fun hk r hr => (h.r2 hk r hr).below hb hC⟩
theorem SitK.next {w : World} {B : Nat} {k : Nat} {ss : List (List Rec)} {L0 L1 L2 L : List Value} {r : List Rec} (v0 v1 : Value) (h : SitK w B k ss L0 L1 L2) (hk : k < 3) (hL : Led L) (hr : ss[k]? = some r) (hl : LdR w B L r) :
    ∃ L0' L1' L2', setL (sitC v0 v1 L0 L1 L2) (2 + k * 29) L = sitC v0 v1 L0' L1' L2' ∧ SitK w B (k + 1) ss L0' L1' L2' := by
  have key : k = 0 ∨ k = 1 ∨ k = 2 := by omega
  rcases key with rfl | rfl | rfl
  · refine ⟨L, L1, L2, ?_, hL, h.l1, h.l2, fun _ r' hr' => ?_, fun h1 => absurd h1 (by omega), fun h1 => absurd h1 (by omega)⟩
    · have := setL_mid (L1 ++ L2) L [v0, v1] L0 (by rw [hL.1, h.l0.1])
      simpa [sitC] using this
    · rw [hr] at hr'; injection hr' with e; rw [← e]; exact hl
  · refine ⟨L0, L, L2, ?_, h.l0, hL, h.l2, fun _ => h.r0 (by omega), fun _ r' hr' => ?_, fun h1 => absurd h1 (by omega)⟩
    · have := setL_mid L2 L (v0 :: v1 :: L0) L1 (by rw [hL.1, h.l1.1])
      have e : (v0 :: v1 :: L0).length = 2 + 1 * 29 := by simp [h.l0.1]
      rw [e] at this
      simpa [sitC] using this
    · rw [hr] at hr'; injection hr' with e; rw [← e]; exact hl
  · refine ⟨L0, L1, L, ?_, h.l0, h.l1, hL, fun _ => h.r0 (by omega), fun _ => h.r1 (by omega), fun _ r' hr' => ?_⟩
    · have := setL_mid [] L (v0 :: v1 :: (L0 ++ L1)) L2 (by rw [hL.1, h.l2.1])
      have e : (v0 :: v1 :: (L0 ++ L1)).length = 2 + 2 * 29 := by simp [h.l0.1, h.l1.1]
      rw [e] at this
      simpa [sitC] using this
    · rw [hr] at hr'; injection hr' with e; rw [← e]; exact hl
def site0 : List Value := sitC (.slice none 0 0) (.slice none 0 0) led0 led0 led0
theorem sitL_ones {v0 v1 : Value} {L0 L1 L2 : List Value} (h0 : v0.oneCell' = true) (h1 : v1.oneCell' = true) (l0 : Led L0) (l1 : Led L1) (l2 : Led L2) : (sitC v0 v1 L0 L1 L2).toArray.all (·.oneCell') = true := by
  have f : ∀ {L : List Value}, Led L → ∀ v ∈ L, v.oneCell' = true := fun hL v hv => by
    have := hL.2
    rw [Array.all_eq_true_iff_forall_mem] at this
    exact this v (by simpa using hv)
  rw [Array.all_eq_true_iff_forall_mem]
  intro v hv
  have hv' : v ∈ sitC v0 v1 L0 L1 L2 := by simpa using hv
  unfold sitC at hv'
  rcases List.mem_cons.1 hv' with e | hm
  · rw [e]; exact h0
  rcases List.mem_cons.1 hm with e | hm
  · rw [e]; exact h1
  rcases List.mem_append.1 hm with hm | hm
  · rcases List.mem_append.1 hm with hm | hm
    · exact f l0 v hm
    · exact f l1 v hm
  · exact f l2 v hm
def SiteB (B : Nat) (q : Crd) (ss : List (List Rec)) (b : Bool) (w : World) (e : Ending) (w' : World) : Prop := ∃ X : List Value, e = .returned (.tuple #[.agg X.toArray, .bool b]) ∧ X.length = 89 ∧ X.toArray.all (·.oneCell') = true ∧ (b = true → Sit w' B X q ss) ∧ Below w.heap.size w w'
theorem site0_len : site0.length = 89 := sitC_len led0_led.1 led0_led.1 led0_led.1
theorem site0_ones : site0.toArray.all (·.oneCell') = true := sitL_ones rfl rfl led0_led led0_led led0_led
theorem site_info {X : List Value} (h : X.length = 89) : (Tryz.prog.info? 83).map (·.size) = some X.toArray.size := by rw [List.size_toArray, h]; exact info_site
set_option maxRecDepth 100000 in
set_option maxHeartbeats 16000000 in
theorem readSiteB_is (B : Nat) (b : Bool) (v : Value) (q : Crd) (A3 : Option Addr) (c3 : Nat) (ss : List (List Rec)) (w : World) (er0 er1 : Addr) (hB : B ≤ w.heap.size) (h : Crdd w B v q) (hl : ShL w B A3 ss) (hE : Errs er0 er1 w) (hf : FitC q) (hfr : ∀ rs ∈ ss, FitR rs) (hm : ss.length ≤ 1048576) (hb : b = true ↔ SV q ss) :
    Calls Tryz.prog 35 #[v, .slice A3 ss.length c3] w (SiteB B q ss b w) := by
  obtain ⟨bv, hbv⟩ := bool_ofP' (CV q)
  have HBV := hid hbv
  have HB := hid hb
  have HE := hid hE
  have CVal : Hid (∀ y, Below w.heap.size w y → Calls Tryz.prog 73 #[v] y (Ret (.bool bv) y)) := fun y hy => implCoordinatorValid_is bv v q y ((h.below hy hB).more (Nat.le_trans hB hy.size)) hf hbv
  obtain ⟨A, c, A2, c2, rfl, hT, hc, hO, hc2⟩ := h
  clear hf hbv hb hE
  unfold crV at *
  have b1 := ((Below.refl w.heap.size w).alloc (Nat.le_refl _) (.cells #[.slice A q.ts.length c, .slice A2 q.os.length c2] 26)).alloc (by simp) (.cells site0.toArray 83)
  have x0 := (Blk2s.new_ w 26 (.slice A q.ts.length c) (.slice A2 q.os.length c2)).alloc (.cells site0.toArray 83)
  have z1 := Arr4.new_ (w.alloc (.cells #[.slice A q.ts.length c, .slice A2 q.os.length c2] 26)) 83 site0
  rw [World.size_alloc] at z1
  go_enter Tryz.func35, Tryz.ntmps35
  go_upto_region 1 with fail
  obtain ⟨w1, hw1⟩ : ∃ x, (w.alloc (.cells #[.slice A q.ts.length c, .slice A2 q.os.length c2] 26)).alloc (.cells site0.toArray 83) = x := ⟨_, rfl⟩
  change Code.wp _ _ _ _ ((w.alloc (.cells #[.slice A q.ts.length c, .slice A2 q.os.length c2] 26)).alloc (.cells site0.toArray 83))
  rw [hw1] at b1 x0 z1 ⊢
  clear hw1
  obtain ⟨y0, y1, -⟩ := id x0.reads
  go_wp2_with fail
  refine (CVal.out _ b1).mono ?_
  rintro e w2 ⟨rfl, d⟩
  replace b1 := b1.trans (d.mono b1.size)
  replace x0 := x0.later d
  replace z1 := z1.below d z1.lt
  clear y0 y1 d CVal
  obtain ⟨y0, y1, -⟩ := id x0.reads
  cases bv with
  | false =>
    have F : Hid (b = false) := by
      show b = false
      rw [← Bool.not_eq_true]
      exact fun e => by have := HBV.out.2 (HB.out.1 e).cv; cases this
    clear HBV HB
    have hs : (w2).heap[w.heap.size + 1]? = some (.cells site0.toArray 83 (0, 0)) := z1
    go_wp2_with (refine wpList_store_rowTo rfl 83 _ _ rfl rfl (w.heap.size + 1) site0.toArray rfl rfl 83 site0.toArray hs (site_info site0_len) rfl site0_ones ?_)
    have h2 := setRow_heap _ _ _ site0.toArray _ _ hs
    have b9 := below_setRow b1 (Nat.le_succ _) site0.toArray
    rw [F.out]
    refine bodyPost_ret (v := .tuple #[.agg site0.toArray, .bool false]) (results_row_slot (p := 4) (s := 5) (by kernel_rfl) _ _ (w.heap.size + 1) 83 _ (0, 0) _ _ rfl rfl h2 Tryz.underlying83 (site_info site0_len)) rfl ⟨site0, rfl, site0_len, site0_ones, (fun e => by cases e), b9⟩
  | true =>
    have HVq := hid (HBV.out.1 rfl)
    by_cases h3 : ss.length = 3
    · have H3 := hid h3
      have e0 : ((ss.length : Int) != 3) = false := by rw [bne_eq_false_iff_eq]; omega
      clear h3 HBV
      obtain ⟨C0, hC0⟩ : ∃ C0, sitC (.slice A q.ts.length c) (.slice A2 q.os.length c2) led0 led0 led0 = C0 := ⟨_, rfl⟩
      have al := (Below.refl w2.heap.size w2).alloc (Nat.le_refl _) (.cells site0.toArray 83)
      have hg := heap_alloc_new w2 (.cells site0.toArray 83)
      have hlC : C0.length = 89 := by rw [← hC0]; exact sitC_len led0_led.1 led0_led.1 led0_led.1
      have hoC : C0.toArray.all (·.oneCell') = true := by rw [← hC0]; exact sitL_ones rfl rfl led0_led led0_led led0_led
      have a3 : Arr4 ((w2.alloc (.cells site0.toArray 83)).setRow w2.heap.size C0.toArray) w2.heap.size 83 C0 := setRow_heap _ _ _ _ _ _ hg
      have b3 := below_setRow (b1.trans (al.mono b1.size)) b1.size C0.toArray
      have z3 : Arr4 ((w2.alloc (.cells site0.toArray 83)).setRow w2.heap.size C0.toArray) (w.heap.size + 1) 83 site0 := (z1.below al z1.lt).farRow (by have := z1.lt; omega) C0.toArray
      have hgw : w.heap.size + 1 < w2.heap.size := z1.lt
      subst hC0
      go_upto_region 4 with (refine wpList_store_rowTo rfl 83 _ _ rfl rfl w2.heap.size (sitC (.slice A q.ts.length c) (.slice A2 q.os.length c2) led0 led0 led0).toArray rfl rfl 83 site0.toArray hg (site_info hlC) (by rw [List.size_toArray, List.size_toArray, hlC, site0_len]) hoC ?_)
      change Code.wp _ _ _ _ ((w2.alloc (.cells site0.toArray 83)).setRow w2.heap.size (sitC (.slice A q.ts.length c) (.slice A2 q.os.length c2) led0 led0 led0).toArray)
      obtain ⟨w3, hw3⟩ : ∃ x, (w2.alloc (.cells site0.toArray 83)).setRow w2.heap.size (sitC (.slice A q.ts.length c) (.slice A2 q.os.length c2) led0 led0 led0).toArray = x := ⟨_, rfl⟩
      rw [hw3] at a3 b3 z3 ⊢
      obtain ⟨g, hgg⟩ : ∃ g, w2.heap.size = g := ⟨_, rfl⟩
      rw [hgg] at a3 hgw ⊢
      clear hw3 hgg hg al hlC hoC y0 y1 x0 z1 b1
      have K0 : SitK w3 B 0 ss led0 led0 led0 := ⟨led0_led, led0_led, led0_led, fun h => absurd h (by omega), fun h => absurd h (by omega), fun h => absurd h (by omega)⟩
      go_wp2_with fail
      go_loopw [24] (fun i wr => ∃ (k : Nat) (L0 L1 L2 : List Value), k ≤ ss.length ∧ i = .int .i64 k ∧ Arr4 wr g 83 (sitC (.slice A q.ts.length c) (.slice A2 q.os.length c2) L0 L1 L2) ∧ SitK wr B k ss L0 L1 L2 ∧ Hid (∀ j (hj : j < ss.length), j < k → Vld ss[j]) ∧ Arr4 wr (w.heap.size + 1) 83 site0 ∧ Below w.heap.size w wr) (fun i _ => ss.length - (intOf i).toNat)
      case atStart => exact ⟨0, _, _, _, Nat.zero_le _, rfl, a3, K0, fun _ _ h => absurd h (Nat.not_lt_zero _), z3, b3⟩
      case round =>
        clear a3 K0 z3 b3
        obtain ⟨k, L0, L1, L2, hk, rfl, a3, K, HVk, z1, b1⟩ := hrel
        have hz := b1.size
        by_cases hlt : k < ss.length
        · obtain ⟨rs, ad, A', c', ho, rfl, had, hc9, hcc, hrec⟩ := (hl.below b1 hB).at_ hlt
          obtain ⟨bk, hbk⟩ := bool_ofP (Vld rs)
          have hfk := hfr rs (by rw [← ho]; exact List.getElem_mem hlt)
          have k0 : (0 : Int) ≤ (k : Int) := by omega
          have k1 : (k : Int) < (ss.length : Int) := by omega
          have k3 : k < 3 := by have := H3.out; omega
          have k4 : (k : Int) < 3 := by omega
          have al := (Below.refl wr.heap.size wr).alloc (Nat.le_refl _) (.cells #[.slice A' rs.length c'] 37)
          have x9 := Blk1.new_ wr 37 (.slice A' rs.length c')
          have b5 := b1.trans (al.mono hz)
          have CRd := hid (readShardB_is B bk (shV A' rs.length c') rs (wr.alloc (.cells #[.slice A' rs.length c'] 37)) er0 er1 ⟨A', c', rfl, hrec.below (al.mono hz) hB, hcc⟩ (Nat.le_trans hB b5.size) (HE.out.below b5) hfk hbk)
          go_upto_region 7 with fail
          obtain ⟨w5, hw5⟩ : ∃ x, wr.alloc (.cells #[.slice A' rs.length c'] 37) = x := ⟨_, rfl⟩
          rw [hw5] at al x9 b5 CRd ⊢
          replace a3 := a3.below al a3.lt
          replace z1 := z1.below al z1.lt
          replace K := K.below al (Nat.le_trans hB hz)
          unfold shV at CRd
          obtain ⟨x90, -⟩ := id x9.reads
          have HO := hid ho
          have HK := hid hbk
          clear hw5 hc9 b1 al hfk hrec ho hbk
          go_wp2_with fail
          refine CRd.out.mono ?_
          rintro e w6 ⟨X, rfl, hX, hv6, d⟩
          have b6 := b5.trans (d.mono b5.size)
          replace a3 := a3.below d a3.lt
          replace z1 := z1.below d z1.lt
          replace K := K.below d (Nat.le_trans hB b5.size)
          have HX := hid hX
          have al := (Below.refl w6.heap.size w6).alloc (Nat.le_refl _) (.cells led0.toArray 80)
          have hg6 := heap_alloc_new w6 (.cells led0.toArray 80)
          have bs := below_setRow (g := w6.heap.size) (Below.refl w6.heap.size (w6.alloc (.cells led0.toArray 80))) (Nat.le_refl _) X.toArray
          have bb := al.trans bs
          have hX6 : ((w6.alloc (.cells led0.toArray 80)).setRow w6.heap.size X.toArray).heap[w6.heap.size]? = some (.cells X.toArray 80 (0, 0)) := setRow_heap _ _ _ X.toArray _ _ hg6
          have hlr : Hid (bk = true → LdR ((w6.alloc (.cells led0.toArray 80)).setRow w6.heap.size X.toArray) B X rs) := fun e => by
            obtain ⟨s, hs, hv⟩ := hv6 e
            exact (hv.ldr hs.inv.refs.1).below bb (Nat.le_trans hB b6.size)
          replace a3 := a3.below bb a3.lt
          replace z1 := z1.below bb z1.lt
          replace K := K.below bb (Nat.le_trans hB b6.size)
          have b7 := b6.trans (bb.mono b6.size)
          go_upto_region 8 with (refine wpList_store_rowTo rfl 80 _ _ rfl rfl w6.heap.size X.toArray rfl rfl 80 led0.toArray hg6 HX.out.info (led0_led.size.trans HX.out.size.symm) HX.out.2 ?_)
          change Code.wp _ _ _ _ ((w6.alloc (.cells led0.toArray 80)).setRow w6.heap.size X.toArray)
          obtain ⟨g6, hg6'⟩ : ∃ g6, w6.heap.size = g6 := ⟨_, rfl⟩
          obtain ⟨w7, hw7⟩ : ∃ x, (w6.alloc (.cells led0.toArray 80)).setRow w6.heap.size X.toArray = x := ⟨_, rfl⟩
          rw [hw7] at a3 z1 K b7 hX6 hlr ⊢
          rw [hg6'] at hX6 ⊢
          clear hw7 hg6 hg6' al bs bb hv6 d hX x90 x9 b5 b6 CRd
          cases bk with
          | false =>
            have F : Hid (b = false) := by
              show b = false
              rw [← Bool.not_eq_true]
              exact fun e => by have := HK.out.2 ((HB.out.1 e).vld rs (by rw [← HO.out]; exact List.getElem_mem hlt)); cases this
            have b1 := b7
            clear HB K a3 hX6 hlr HVk HO HK
            have hs : (w7).heap[w.heap.size + 1]? = some (.cells site0.toArray 83 (0, 0)) := z1
            go_wp2_with (refine wpList_store_rowTo rfl 83 _ _ rfl rfl (w.heap.size + 1) site0.toArray rfl rfl 83 site0.toArray hs (site_info site0_len) rfl site0_ones ?_)
            have h2 := setRow_heap _ _ _ site0.toArray _ _ hs
            have b9 := below_setRow b1 (Nat.le_succ _) site0.toArray
            rw [F.out]
            refine bodyPost_ret (v := .tuple #[.agg site0.toArray, .bool false]) (results_row_slot (p := 4) (s := 5) (by kernel_rfl) _ _ (w.heap.size + 1) 83 _ (0, 0) _ _ rfl rfl h2 Tryz.underlying83 (site_info site0_len)) rfl ⟨site0, rfl, site0_len, site0_ones, (fun e => by cases e), b9⟩
          | true =>
            have hk7 := HK.out.1 rfl
            have hl9 := hlr.out rfl
            have hz7 := b7.size
            have hlen := sitC_len (v0 := .slice A q.ts.length c) (v1 := .slice A2 q.os.length c2) K.l0.1 K.l1.1 K.l2.1
            have hth : w7.there g (2 + k * 29) X.toArray.size := fun j hj => by
              rw [List.size_toArray, HX.out.1] at hj
              obtain ⟨v, hv⟩ := a3.has_ (i := 2 + k * 29 + j) (by rw [hlen]; omega)
              exact ⟨by rw [hv]; rfl, a3.frozen _⟩
            obtain ⟨L0', L1', L2', eS, K'⟩ := K.next (.slice A q.ts.length c) (.slice A2 q.os.length c2) k3 HX.out (by rw [List.getElem?_eq_getElem hlt, HO.out]) hl9
            have hbut := but_setCells g X.toArray.toList (2 + k * 29) w7
            have bC := below_but (Below.refl w.heap.size w7) hbut (by omega) hz7
            have a9 : Arr4 (w7.setCells g (2 + k * 29) X.toArray.toList) g 83 (sitC (.slice A q.ts.length c) (.slice A2 q.os.length c2) L0' L1' L2') := by rw [← eS]; exact a3.setMid X (2 + k * 29)
            have z9 := z1.but hbut (by omega)
            have K9 := K'.below bC hB
            have b9 := b7.trans bC
            have HV9 : Hid (∀ j (hj : j < ss.length), j < k + 1 → Vld ss[j]) := fun j hj hl => by
              by_cases e : j = k
              · subst e; rw [HO.out]; exact hk7
              · exact HVk.out j hj (by omega)
            clear hlen K K' eS hl9 hlr HVk HK HO hbut bC hk7 a3 z1 b7
            go_wp2_with (first
              | (refine wpList_load_row rfl 80 _ rfl g6 rfl 80 X.toArray (0, 0) _ hX6 Tryz.underlying80 rfl HX.out.info ?_)
              | (refine wpList_store_mid rfl 80 _ _ rfl g (2 + k * 29) X.toArray rfl rfl hth HX.out.info HX.out.2 ?_))
            go_roundw
            case rel => exact ⟨k + 1, L0', L1', L2', hlt, by go_num, a9, K9, HV9, z9, b9⟩
            case measure => simp [intOf]; omega
        · have hk' : k = ss.length := by omega
          subst hk'
          have F : Hid (b = true) := HB.out.2 ⟨HVq.out, H3.out, fun r hr => by
            obtain ⟨j, hj, rfl⟩ := List.mem_iff_getElem.1 hr
            exact HVk.out j hj hj⟩
          obtain ⟨r0, r1, r2, ess⟩ : ∃ r0 r1 r2, ss = [r0, r1, r2] := by
            match ss, H3.out with
            | [a, b, c], _ => exact ⟨a, b, c, rfl⟩
          have hX := sitC_len (v0 := .slice A q.ts.length c) (v1 := .slice A2 q.os.length c2) K.l0.1 K.l1.1 K.l2.1
          have hoX := sitL_ones (v0 := .slice A q.ts.length c) (v1 := .slice A2 q.os.length c2) rfl rfl K.l0 K.l1 K.l2
          have hS : Sit wr B (sitC (.slice A q.ts.length c) (.slice A2 q.os.length c2) L0 L1 L2) q ss := by
            have h3 := H3.out
            exact ⟨A, c, A2, c2, L0, L1, L2, r0, r1, r2, rfl, ess, hT.below b1 hB, hc, hO.below b1 hB, hc2, K.r0 (by omega) r0 (by rw [ess]; rfl), K.r1 (by omega) r1 (by rw [ess]; rfl), K.r2 (by omega) r2 (by rw [ess]; rfl)⟩
          obtain ⟨X, hXe⟩ : ∃ X, sitC (.slice A q.ts.length c) (.slice A2 q.os.length c2) L0 L1 L2 = X := ⟨_, rfl⟩
          rw [hXe] at hX hoX hS a3
          have hld : wr.heap[g]? = some (.cells X.toArray 83 (0, 0)) := a3
          have hs : wr.heap[w.heap.size + 1]? = some (.cells site0.toArray 83 (0, 0)) := z1
          have bs := below_setRow (g := w.heap.size + 1) (Below.refl w.heap.size wr) (Nat.le_succ _) X.toArray
          have b9 := b1.trans bs
          have hS9 := hS.below bs hB
          have HXI := hid (site_info hX)
          have HXO := hid hoX
          have HXL := hid hX
          clear a3 z1 K HVk hS bs hXe hX hoX HB HVq
          go_wp2_with (first
            | (refine wpList_load_row rfl 83 _ rfl g rfl 83 X.toArray (0, 0) _ hld Tryz.underlying83 rfl HXI.out ?_)
            | (refine wpList_store_rowTo rfl 83 _ _ rfl rfl (w.heap.size + 1) X.toArray rfl rfl 83 site0.toArray hs HXI.out (by rw [List.size_toArray, List.size_toArray, site0_len, HXL.out]) HXO.out ?_))
          have h2 := setRow_heap _ _ _ X.toArray _ _ hs
          rw [F.out]
          refine bodyPost_ret (v := .tuple #[.agg X.toArray, .bool true]) (results_row_slot (p := 4) (s := 5) (by kernel_rfl) _ _ (w.heap.size + 1) 83 _ (0, 0) _ _ rfl rfl h2 Tryz.underlying83 HXI.out) rfl ⟨X, rfl, HXL.out, HXO.out, fun _ => hS9, b9⟩
    · have e0 : ((ss.length : Int) != 3) = true := by rw [bne_iff_ne]; omega
      have F : Hid (b = false) := by
        show b = false
        rw [← Bool.not_eq_true]
        exact fun e => h3 (HB.out.1 e).n
      clear HBV HB h3
      have hs : (w2).heap[w.heap.size + 1]? = some (.cells site0.toArray 83 (0, 0)) := z1
      go_wp2_with (refine wpList_store_rowTo rfl 83 _ _ rfl rfl (w.heap.size + 1) site0.toArray rfl rfl 83 site0.toArray hs (site_info site0_len) rfl site0_ones ?_)
      have h2 := setRow_heap _ _ _ site0.toArray _ _ hs
      have b9 := below_setRow b1 (Nat.le_succ _) site0.toArray
      rw [F.out]
      refine bodyPost_ret (v := .tuple #[.agg site0.toArray, .bool false]) (results_row_slot (p := 4) (s := 5) (by kernel_rfl) _ _ (w.heap.size + 1) 83 _ (0, 0) _ _ rfl rfl h2 Tryz.underlying83 (site_info site0_len)) rfl ⟨site0, rfl, site0_len, site0_ones, (fun e => by cases e), b9⟩
end Go.Proofs.YteaibflloeipaaaGreatDoor
namespace Go.Proofs.YteaibflloeipaaaGreatDoor
open Go.RowKit Wo Pu Rf Lk Sh Co Si
set_option linter.unusedVariables false
set_option linter.unusedSimpArgs false
end Go.Proofs.YteaibflloeipaaaGreatDoor
