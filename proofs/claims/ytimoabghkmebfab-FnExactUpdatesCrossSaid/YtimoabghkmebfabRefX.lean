/-
  Walk: UpdatesCross of the model.
-/
import Derived.Test.YtimoabghkmebfabRefC
namespace Go.Proofs.Ytimoabghkmebfab
open Go.RowKit Wo Pu Rf

/-- None of the first k of a names a ref of b. -/
def NoTo (a b : List Up) (k : Nat) : Prop := ∀ i (h : i < a.length), i < k → ∀ v ∈ b, a[i].r ≠ v.r
theorem NoTo.zero (a b : List Up) : NoTo a b 0 := fun _ _ h => absurd h (Nat.not_lt_zero _)
/-- x is the ref of none of the first k of b. -/
def NoIn (x : Int) (b : List Up) (k : Nat) : Prop := ∀ i (h : i < b.length), i < k → x ≠ b[i].r
theorem NoIn.zero (x : Int) (b : List Up) : NoIn x b 0 := fun _ _ h => absurd h (Nat.not_lt_zero _)
theorem NoIn.next {x : Int} {b : List Up} {k : Nat} (h : NoIn x b k) (hk : k < b.length) (e : x ≠ b[k].r) : NoIn x b (k + 1) := fun i hi hl => by
  by_cases e2 : i = k
  · subst e2; exact e
  · exact h i hi (by omega)
theorem NoTo.next {a b : List Up} {k : Nat} (h : NoTo a b k) (hk : k < a.length) (e : NoIn a[k].r b b.length) : NoTo a b (k + 1) := fun i hi hl v hv => by
  by_cases e2 : i = k
  · subst e2
    obtain ⟨j, hj, rfl⟩ := List.getElem_of_mem hv
    exact e j hj hj
  · exact h i hi (by omega) v hv
theorem NoTo.none {a b : List Up} (h : NoTo a b a.length) : ¬ Cross a b := fun ⟨_, _, u, hu, v, hv, e⟩ => by
  obtain ⟨i, hi, rfl⟩ := List.getElem_of_mem hu
  exact h i hi hi v hv e
set_option maxRecDepth 100000 in
set_option maxHeartbeats 8000000 in
theorem specUpdatesCross_is (x : Bool) (A A2 : Option Addr) (c c2 : Nat) (a b : List Up) (w : World) (ha : Row w w.heap.size A (upsV a)) (hb : Row w w.heap.size A2 (upsV b)) (hma : a.length ≤ 1048600) (hmb : b.length ≤ 1048600) (hx : x = true ↔ Cross a b) :
    Calls Try.prog 33 #[.slice A a.length c, .slice A2 b.length c2] w (Ret (.bool x) w) := by
  obtain ⟨va, hva⟩ := bool_of (UV a)
  obtain ⟨vb, hvb⟩ := bool_of (UV b)
  have CA : Hid (∀ y, Row y y.heap.size A (upsV a) → Calls Try.prog 13 #[.slice A a.length c] y (Ret (.bool va) y)) := fun y h => specUpdatesValid_is va A c a y h hma hva
  have CB : Hid (∀ y, Row y y.heap.size A2 (upsV b) → Calls Try.prog 13 #[.slice A2 b.length c2] y (Ret (.bool vb) y)) := fun y h => specUpdatesValid_is vb A2 c2 b y h hmb hvb
  have HX := hid hx
  clear hx
  cases va with
  | false =>
    have F : Hid (x = false) := by
      show x = false
      rw [← Bool.not_eq_true]
      exact fun e => absurd (hva.2 (HX.out.1 e).1) (by simp)
    clear hva hvb HX
    go_enter Try.func33, Try.ntmps33
    go_wp2_with fail
    go_loopw [5] (fun i wr => i = .int .i64 0 ∧ w = wr) (fun _ _ => 0)
    case atStart => exact ⟨rfl, rfl⟩
    case round =>
      obtain ⟨rfl, rfl⟩ := hrel
      by_cases h0 : a.length = 0
      · have e0 : decide ((0 : Int) < (a.length : Int)) = false := decide_eq_false (by omega)
        have e1 : decide (0 < a.length) = false := decide_eq_false (by omega)
        clear h0
        go_wp2_with fail
        go_ret
        rw [F.out]
        exact .mk_ (Below.refl _ _)
      · have e0 : decide ((0 : Int) < (a.length : Int)) = true := decide_eq_true (by omega)
        have e1 : decide (0 < a.length) = true := decide_eq_true (by omega)
        clear h0
        go_wp2_with fail
        refine (CA.out _ ha).mono ?_
        rintro e w1 ⟨rfl, b1⟩
        go_wp2_with fail
        go_ret
        rw [F.out]
        exact .mk_ b1
  | true =>
    cases vb with
    | false =>
      have F : Hid (x = false) := by
        show x = false
        rw [← Bool.not_eq_true]
        exact fun e => absurd (hvb.2 (HX.out.1 e).2.1) (by simp)
      have hpos : 0 < a.length := List.length_pos_iff.2 (hva.1 rfl).1
      clear hva hvb HX
      go_enter Try.func33, Try.ntmps33
      go_wp2_with fail
      go_loopw [5] (fun i wr => i = .int .i64 0 ∧ w = wr) (fun _ _ => 0)
      case atStart => exact ⟨rfl, rfl⟩
      case round =>
        obtain ⟨rfl, rfl⟩ := hrel
        have e0 : decide ((0 : Int) < (a.length : Int)) = true := decide_eq_true (by omega)
        have e1 : decide (0 < a.length) = true := decide_eq_true (by omega)
        clear hpos
        go_wp2_with fail
        refine (CA.out _ ha).mono ?_
        rintro e w1 ⟨rfl, b1⟩
        go_wp2_with fail
        refine (CB.out _ ((hb.below b1 (Nat.le_refl _)).more b1.size)).mono ?_
        rintro e w2 ⟨rfl, b2⟩
        have b3 := b1.trans (b2.mono b1.size)
        go_wp2_with fail
        go_ret
        rw [F.out]
        exact .mk_ b3
    | true =>
      have ua := hid (hva.1 rfl)
      have ub := hid (hvb.1 rfl)
      clear hva hvb
      go_enter Try.func33, Try.ntmps33
      go_wp2_with fail
      go_loopw [5] (fun i wr => ∃ k : Nat, k ≤ a.length ∧ i = .int .i64 k ∧ Hid (NoTo a b k) ∧ Below w.heap.size w wr) (fun i _ => a.length - (intOf i).toNat)
      case atStart => exact ⟨0, Nat.zero_le _, rfl, .zero a b, Below.refl _ _⟩
      case round =>
        obtain ⟨k, hk, rfl, H, hbr⟩ := hrel
        by_cases hlt : k < a.length
        · have ra := (ha.below hbr (Nat.le_refl _)).more hbr.size
          have q1 : (k : Int) < (a.length : Int) := by omega
          go_wp2_with fail
          refine (CA.out _ ra).mono ?_
          rintro e w1 ⟨rfl, b1⟩
          have hb1 := hbr.trans (b1.mono hbr.size)
          clear b1 hbr
          go_wp2_with fail
          refine (CB.out _ ((hb.below hb1 (Nat.le_refl _)).more hb1.size)).mono ?_
          rintro e w2 ⟨rfl, b2⟩
          have hb2 := hb1.trans (b2.mono hb1.size)
          clear b2 hb1 ra
          go_wp2_with fail
          go_loopw [6] (fun i wr => ∃ j : Nat, j ≤ b.length ∧ i = .int .i64 j ∧ Hid (NoIn a[k].r b j) ∧ Below w.heap.size w wr) (fun i _ => b.length - (intOf i).toNat)
          case atStart => exact ⟨0, Nat.zero_le _, rfl, .zero _ b, hb2⟩
          case round =>
            clear hb2
            obtain ⟨j, hj, rfl, HJ, hbj⟩ := hrel
            by_cases hlj : j < b.length
            · have ra := (ha.below hbj (Nat.le_refl _)).more hbj.size
              have rb := (hb.below hbj (Nat.le_refl _)).more hbj.size
              obtain ⟨o, ad, ho, rfl, ha1, g0, -, -⟩ := ra.up_ hlt
              obtain ⟨o2, ad2, ho2, rfl, ha2, d0, -, -⟩ := rb.up_ hlj
              have k0 : (0 : Int) ≤ (k : Int) := by omega
              have j0 : (0 : Int) ≤ (j : Int) := by omega
              have j1 : (j : Int) < (b.length : Int) := by omega
              by_cases heq : o.r = o2.r
              · have e0 : (o.r == o2.r) = true := by rw [beq_iff_eq]; exact heq
                have F := hid (HX.out.2 ⟨ua.out, ub.out, _, List.getElem_mem hlt, _, List.getElem_mem hlj, by rw [ho, ho2]; exact heq⟩)
                clear H HJ heq ho ho2
                go_wp2
                go_quiet (fail)
                go_wp2
                go_ret
                rw [F.out]
                exact .mk_ (Wo.Below.drewN hbj _)
              · have e0 : (o.r == o2.r) = false := by rw [beq_eq_false_iff_ne]; exact heq
                have HN := hid (HJ.out.next hlj (by rw [ho, ho2]; exact heq))
                clear HJ heq ho ho2
                go_wp2
                go_quiet (fail)
                go_wp2
                go_roundw
                case rel => exact ⟨j + 1, by omega, by go_num, HN, Wo.Below.drewN hbj _⟩
                case measure => simp [intOf]; omega
            · have hj' : j = b.length := by omega
              subst hj'
              have HN := hid (H.out.next hlt HJ.out)
              clear H HJ
              go_wp2
              go_roundw
              case rel => exact ⟨k + 1, by omega, by go_num, HN, hbj⟩
              case measure => simp [intOf]; omega
        · have hk' : k = a.length := by omega
          subst hk'
          have F : Hid (x = false) := by
            show x = false
            rw [← Bool.not_eq_true]
            exact fun e => H.out.none (HX.out.1 e)
          clear H
          go_wp2
          go_ret
          rw [F.out]
          exact .mk_ hbr
end Go.Proofs.Ytimoabghkmebfab
