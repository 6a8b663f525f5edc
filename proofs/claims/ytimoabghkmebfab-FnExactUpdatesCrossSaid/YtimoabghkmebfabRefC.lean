/-
  Walks: RefsDiffer and UpdatesCross of the model.
-/
import Derived.Test.YtimoabghkmebfabRefB
namespace Go.Proofs.Ytimoabghkmebfab
open Go.RowKit Wo Pu Rf

/-- The differences, if both are refs. -/
def difs (v : Bool) (a b : List Int) : List Up := if v then dif a b else []
/-- What is still to be told from k on. -/
def DifTo (a b : List Int) (us : List Up) (k : Nat) : Prop := dif a b = us ++ difL k (a.drop k) (b.drop k)
theorem DifTo.zero (a b : List Int) : DifTo a b [] 0 := rfl
theorem DifTo.same {a b : List Int} {us : List Up} {k : Nat} (h : DifTo a b us k) (ha : k < a.length) (hb : k < b.length) (e : a[k] = b[k]) : DifTo a b us (k + 1) := by
  unfold DifTo at h ⊢
  rw [h, List.drop_eq_getElem_cons ha, List.drop_eq_getElem_cons hb]
  conv => lhs; unfold difL
  rw [if_pos e]
  rfl
theorem DifTo.more {a b : List Int} {us : List Up} {k : Nat} (h : DifTo a b us k) (ha : k < a.length) (hb : k < b.length) (e : ¬ a[k] = b[k]) : DifTo a b (us ++ [⟨(k : Int), a[k], b[k]⟩]) (k + 1) := by
  unfold DifTo at h ⊢
  rw [h, List.drop_eq_getElem_cons ha, List.drop_eq_getElem_cons hb]
  conv => lhs; unfold difL
  rw [if_neg e, List.append_assoc]
  rfl
theorem DifTo.all {a b : List Int} {us : List Up} {k : Nat} (h : DifTo a b us k) (ha : a.length ≤ k) : dif a b = us := by
  unfold DifTo at h
  rw [h, List.drop_of_length_le ha]
  unfold difL
  rw [List.append_nil]
/-- Updates of the call's own. -/
def UpsOf (us : List Up) (w : World) (e : Ending) (w' : World) : Prop := ∃ A c, e = .returned (.slice A us.length c) ∧ OwnUps w' w.heap.size (.slice A us.length c) us ∧ Below w.heap.size w w'
theorem UpsOf.mk_ {us : List Up} {w w' : World} {v : Value} (ho : OwnUps w' w.heap.size v us) (hb : Below w.heap.size w w') : UpsOf us w (.returned v) w' := by
  obtain ⟨A, c, rfl, _⟩ := ho.form
  exact ⟨A, c, rfl, ho, hb⟩
theorem OwnUps.app {w' : World} {B : Nat} {v' : Value} {us : List Up} {u : Up} (h : w'.ownsRow B 52 3 v' (us.length + 1) (upsV us ++ [.int .i64 u.r, .int .i64 u.o, .int .i64 u.n])) : OwnUps w' B v' (us ++ [u]) := by
  unfold OwnUps
  rw [List.length_append, List.length_singleton, upsV_append, upsV_one]
  exact h
theorem row_three (w : World) (v0 v1 v2 : Value) (t : TypeId) : Row (w.alloc (.cells #[v0, v1, v2] t)) (w.alloc (.cells #[v0, v1, v2] t)).heap.size (some ⟨w.heap.size, 0, none⟩) [v0, v1, v2] := .inr ⟨_, rfl, by simp, new_three w v0 v1 v2 t⟩
set_option maxRecDepth 100000 in
set_option maxHeartbeats 8000000 in
theorem specRefsDiffer_is (v : Bool) (A A2 : Option Addr) (c c2 : Nat) (a b : List Int) (w : World) (ha : Row w w.heap.size A (ints a)) (hb : Row w w.heap.size A2 (ints b)) (hma : a.length ≤ 1048600) (hmb : b.length ≤ 1048600) (hv : v = true ↔ RV a ∧ RV b) :
    Calls Try.prog 31 #[.slice A a.length c, .slice A2 b.length c2] w (UpsOf (difs v a b) w) := by
  obtain ⟨i0, hi, hz0, hz1, hz2⟩ := info_of info_up
  obtain ⟨va, hva⟩ := bool_of (RV a)
  obtain ⟨vb, hvb⟩ := bool_of (RV b)
  have hvv : v = (va && vb) := by
    rw [Bool.eq_iff_iff, hv, Bool.and_eq_true, hva, hvb]
  have CA : Hid (∀ x, Row x x.heap.size A (ints a) → Calls Try.prog 16 #[.slice A a.length c] x (Same (.bool va) x)) := fun x h => specRefsValid_is va A c a x _ h hma hva
  have CB : Hid (∀ x, Row x x.heap.size A2 (ints b) → Calls Try.prog 16 #[.slice A2 b.length c2] x (Same (.bool vb) x)) := fun x h => specRefsValid_is vb A2 c2 b x _ h hmb hvb
  have al := (Below.refl w.heap.size w).alloc (Nat.le_refl _) (.cells #[] 52)
  have ra := (ha.below al (Nat.le_refl _)).more al.size
  have rb := (hb.below al (Nat.le_refl _)).more al.size
  have on0 := OwnUps.nil_new (w := w) (Nat.le_refl _)
  clear hv
  cases va with
  | false =>
    subst hvv
    clear hva hvb
    go_enter Try.func31, Try.ntmps31
    go_wp2_with fail
    go_loopw [5, 6] (fun q i wr => i = .int .i64 0 ∧ q = .slice (some ⟨w.heap.size, 0, none⟩) 0 0 ∧ w.alloc (.cells #[] 52) = wr) (fun _ _ _ => 0)
    case atStart => exact ⟨rfl, rfl, rfl⟩
    case round =>
      obtain ⟨rfl, rfl, rfl⟩ := hrel
      go_wp2_with fail
      refine (CA.out _ ra).mono ?_
      rintro e w1 ⟨rfl, rfl⟩
      go_wp2_with fail
      go_ret
      exact .mk_ on0 al
  | true =>
    cases vb with
    | false =>
      subst hvv
      clear hva hvb
      go_enter Try.func31, Try.ntmps31
      go_wp2_with fail
      go_loopw [5, 6] (fun q i wr => i = .int .i64 0 ∧ q = .slice (some ⟨w.heap.size, 0, none⟩) 0 0 ∧ w.alloc (.cells #[] 52) = wr) (fun _ _ _ => 0)
      case atStart => exact ⟨rfl, rfl, rfl⟩
      case round =>
        obtain ⟨rfl, rfl, rfl⟩ := hrel
        go_wp2_with fail
        refine (CA.out _ ra).mono ?_
        rintro e w1 ⟨rfl, rfl⟩
        go_wp2_with fail
        refine (CB.out _ rb).mono ?_
        rintro e w1 ⟨rfl, rfl⟩
        go_wp2_with fail
        go_ret
        exact .mk_ on0 al
    | true =>
      have la := hid (hva.1 rfl).1
      have lb := hid (hvb.1 rfl).1
      obtain rfl : v = true := hvv
      clear hva hvb ra rb
      go_enter Try.func31, Try.ntmps31
      go_wp2_with fail
      go_loopw [5, 6] (fun q i wr => ∃ (k : Nat) (us : List Up), k ≤ 4 ∧ i = .int .i64 k ∧ us.length ≤ k ∧ OwnUps wr w.heap.size q us ∧ Hid (DifTo a b us k) ∧ Below w.heap.size w wr) (fun _ i _ => 4 - (intOf i).toNat)
      case atStart => exact ⟨0, [], Nat.zero_le _, rfl, Nat.le_refl _, on0, .zero a b, al⟩
      case round =>
        obtain ⟨k, us, hk, rfl, hul, ho, H, hbr⟩ := hrel
        clear on0 al
        have hz := hbr.size
        have ra := (ha.below hbr (Nat.le_refl _)).more hz
        have rb := (hb.below hbr (Nat.le_refl _)).more hz
        by_cases hlt : k < 4
        · have ha4 : k < a.length := by rw [la.out]; exact hlt
          have hb4 : k < b.length := by rw [lb.out]; exact hlt
          obtain ⟨ad, rfl, hd1, c1⟩ := ra.int_ ha4
          obtain ⟨ad2, rfl, hd2, d1⟩ := rb.int_ hb4
          have q0 : (0 : Int) ≤ (k : Int) := by omega
          have q1 : (k : Int) < (a.length : Int) := by omega
          have q2 : (k : Int) < (b.length : Int) := by omega
          by_cases heq : a[k] = b[k]
          · have e0 : (a[k] != b[k]) = false := by rw [bne_eq_false_iff_eq]; exact heq
            have HN := hid (H.out.same ha4 hb4 heq)
            clear H heq
            go_wp2_with fail
            refine (CA.out _ ra).mono ?_
            rintro e w1 ⟨rfl, rfl⟩
            go_wp2_with fail
            refine (CB.out _ rb).mono ?_
            rintro e w1 ⟨rfl, rfl⟩
            go_wp2_with fail
            go_quiet (fail)
            go_wp2
            go_roundw
            case rel => exact ⟨k + 1, us, by omega, by go_num, by omega, ho, HN, Wo.Below.drewN hbr _⟩
            case measure => simp [intOf]; omega
          · have e0 : (a[k] != b[k]) = true := by rw [bne_iff_ne]; exact heq
            have HN := hid (H.out.more ha4 hb4 heq)
            obtain ⟨x, hx⟩ : ∃ x, a[k] = x := ⟨_, rfl⟩
            obtain ⟨y, hy⟩ : ∃ y, b[k] = y := ⟨_, rfl⟩
            rw [hx, hy] at HN e0
            rw [hx] at c1
            rw [hy] at d1
            clear H heq hx hy
            go_wp2_with fail
            refine (CA.out _ ra).mono ?_
            rintro e w1 ⟨rfl, rfl⟩
            go_wp2_with fail
            refine (CB.out _ rb).mono ?_
            rintro e w1 ⟨rfl, rfl⟩
            clear CA CB
            go_wp2_with fail
            go_quiet (fail)
            go_wp2_with fail
            have ho' : OwnUps (wr.drewN nq) w.heap.size u5 us := ho
            have hbr' : Below w.heap.size w (wr.drewN nq) := Wo.Below.drewN hbr nq
            have c1' : (wr.drewN nq).cell? (ad.add k) = some (.int .i64 x) := c1
            have d1' : (wr.drewN nq).cell? (ad2.add k) = some (.int .i64 y) := d1
            clear ho hbr c1 d1 ra rb
            generalize wr.drewN nq = W at *
            have hzW := hbr'.size
            have oA : (W.drew.alloc (.cells #[.int .i64 (k : Int), .int .i64 x, .int .i64 y] 52)).ownsRow w.heap.size 52 3 u5 us.length (upsV us) := World.ownsRow.alloc (w := W.drew) ho' _
            have rA := row_three W.drew (.int .i64 (k : Int)) (.int .i64 x) (.int .i64 y) 52
            have bA : Below w.heap.size w (W.drew.alloc (.cells #[.int .i64 (k : Int), .int .i64 x, .int .i64 y] 52)) := (hbr'.drew).alloc hzW _
            have lt1 := World.ownsRow.lt oA
            go_region_law (refine step_append_row _ (by rfl) _ _ 23 (by rfl) w.heap.size 52 i0 (.agg #[.int .i64 0, .int .i64 0, .int .i64 0]) 3 24 Try.underlying23 hi hz0 hz1 hz2 rfl (by decide) u5 us.length (upsV us) (by rfl) oA _ (some ⟨W.heap.size, 0, none⟩) 1 1 [.int .i64 (k : Int), .int .i64 x, .int .i64 y] (by rfl) rA rfl (upV_cells ⟨(k : Int), x, y⟩) (by unfold maxLen; omega) (by omega) (by simp; omega) ?_; intro v3 w7 ho3 hg3; have b7 : Below w.heap.size w w7 := bA.grown hg3 (by simp; omega) (fun j hj => (lt1 j hj).1); have o7 := OwnUps.app (u := ⟨(k : Int), x, y⟩) ho3; clear ho3 hg3)
            all_goals
              go_wp2
              go_roundw
              case rel => exact ⟨k + 1, us ++ [⟨(k : Int), x, y⟩], by omega, by go_num, by rw [List.length_append, List.length_singleton]; omega, o7, HN, b7⟩
              case measure => simp [intOf]; omega
        · have hk' : k = 4 := by omega
          subst hk'
          have HD := hid (H.out.all (by rw [la.out]; omega))
          clear H
          go_wp2
          go_ret
          unfold difs
          rw [if_pos rfl, HD.out]
          exact .mk_ ho hbr
end Go.Proofs.Ytimoabghkmebfab
