/-
  Walks: does an operation fit, and what does it add?
-/
import Derived.Test.YtkekbobnbipmoaaSizes
namespace Go.Proofs.Ytkekbobnbipmoaa
open Go.RowKit Wo Pu

theorem l6In_yes (n a b : Int) (w : World) (h0 : a ≤ n) (h1 : n ≤ b) : Calls Try.prog 64 #[.int .i64 n, .int .i64 a, .int .i64 b] w (Same (.bool true) w) := by
  have e0 : decide (a ≤ n) = true := by simp [h0]
  have e1 : decide (n ≤ b) = true := by simp [h1]
  go_enter Try.func64, Try.ntmps64
  go_wp2
  go_ret
  exact ⟨rfl, rfl⟩
theorem l6In_no (n a b : Int) (w : World) (h : n < a ∨ b < n) : Calls Try.prog 64 #[.int .i64 n, .int .i64 a, .int .i64 b] w (Same (.bool false) w) := by
  by_cases h0 : a ≤ n
  · have e0 : decide (a ≤ n) = true := by simp [h0]
    have h1 : ¬ n ≤ b := by omega
    have e1 : decide (n ≤ b) = false := by simpa using h1
    go_enter Try.func64, Try.ntmps64
    go_wp2
    go_ret
    exact ⟨rfl, rfl⟩
  · have e0 : decide (a ≤ n) = false := by simpa using h0
    go_enter Try.func64, Try.ntmps64
    go_wp2
    go_ret
    exact ⟨rfl, rfl⟩

theorem ne_text {s : ByteArray} (h : ¬ s.size = 0) : s.toList.isEmpty = false := by rw [emp_, decide_eq_false h]
theorem opf_t {b : Nat} {o : Op2} {v : Bool} (h : opfB b o = true ↔ v = true) : opfB b o = v := by rw [Bool.eq_iff_iff]; exact h

set_option maxRecDepth 100000 in
set_option maxHeartbeats 2000000 in
theorem fits_any (o : Op2) (base : ByteArray) (w : World) (hs : o.t.size ≤ 1048576) (hb : base.size ≤ 8) (hn : o.n ≤ 9223372036854775807) :
    Calls Try.prog 94 #[opA o, .string base] w (Ret (.bool (opfB base.size o)) w) := by
  obtain ⟨a, n, t⟩ := o
  unfold opA
  simp only at hs hn ⊢
  by_cases h0 : n = 0
  · subst h0
    have F := fun v h => opf_t (b := base.size) (o := ⟨a, 0, t⟩) (v := v) (Iff.trans (opf_ins rfl) h)
    simp only at F
    by_cases ha : a = 0
    · subst ha
      by_cases h1 : 1 ≤ t.size
      · by_cases h8 : t.size ≤ 8
        · have G := hid (F true ⟨fun _ => rfl, fun _ => ⟨rfl, h1, h8⟩⟩)
          clear F
          go_enter Try.func94, Try.ntmps94
          go_wp2
          go_ret
          rw [G.out]
          exact .bool_ (by first | (simp; done) | (simp; omega)) (((Below.refl _ _).alloc (Nat.le_refl _) _).alloc (by simp) _)
        · have G := hid (F false ⟨fun h => absurd h.2.2 h8, fun h => by cases h⟩)
          clear F
          go_enter Try.func94, Try.ntmps94
          go_wp2
          go_ret
          rw [G.out]
          exact .bool_ (by first | (simp; done) | (simp; omega)) (((Below.refl _ _).alloc (Nat.le_refl _) _).alloc (by simp) _)
      · have G := hid (F false ⟨fun h => absurd h.2.1 h1, fun h => by cases h⟩)
        have z : t.size = 0 := by omega
        obtain rfl := size_zero z
        clear F h1 z
        go_enter Try.func94, Try.ntmps94
        go_wp2
        go_ret
        rw [G.out]
        exact .mk_ (((Below.refl _ _).alloc (Nat.le_refl _) _).alloc (by simp) _)
    · have G := hid (F false ⟨fun h => absurd h.1 ha, fun h => by cases h⟩)
      have e0 : (a == 0) = false := by rw [beq_eq_false_iff_ne]; exact ha
      clear F ha
      go_enter Try.func94, Try.ntmps94
      go_wp2
      go_ret
      rw [G.out]
      exact .mk_ (((Below.refl _ _).alloc (Nat.le_refl _) _).alloc (by simp) _)
  · have F := fun v h => opf_t (b := base.size) (o := ⟨a, n, t⟩) (v := v) (Iff.trans (opf_cop h0) h)
    simp only at F
    have e0 : (n == 0) = false := by rw [beq_eq_false_iff_ne]; exact h0
    by_cases hn0 : n < 0
    · have G := hid (F false ⟨fun h => absurd h.2.2.1 (by omega), fun h => by cases h⟩)
      clear F h0
      go_enter Try.func94, Try.ntmps94
      go_wp2
      go_ret
      rw [G.out]
      exact .mk_ (((Below.refl _ _).alloc (Nat.le_refl _) _).alloc (by simp) _)
    · by_cases ha : a < 0
      · have G := hid (F false ⟨fun h => absurd h.2.1 (by omega), fun h => by cases h⟩)
        clear F h0
        go_enter Try.func94, Try.ntmps94
        go_wp2
        go_ret
        rw [G.out]
        exact .mk_ (((Below.refl _ _).alloc (Nat.le_refl _) _).alloc (by simp) _)
      · by_cases ht : t.size = 0
        · obtain rfl := size_zero ht
          by_cases hf : a + n ≤ base.size
          · have G := hid (F true ⟨fun _ => rfl, fun _ => ⟨rfl, by omega, by omega, hf⟩⟩)
            have hle : a ≤ (base.size : Int) - n := by omega
            clear F h0 ht
            go_enter Try.func94, Try.ntmps94
            go_wp2
            go_ret
            rw [G.out]
            exact .bool_ (by first | (simp; done) | (simp; omega)) (((Below.refl _ _).alloc (Nat.le_refl _) _).alloc (by simp) _)
          · have G := hid (F false ⟨fun h => absurd h.2.2.2 hf, fun h => by cases h⟩)
            have hle : ¬ a ≤ (base.size : Int) - n := by omega
            clear F h0 ht
            go_enter Try.func94, Try.ntmps94
            go_wp2
            go_ret
            rw [G.out]
            exact .bool_ (by first | (simp; done) | (simp; omega)) (((Below.refl _ _).alloc (Nat.le_refl _) _).alloc (by simp) _)
        · have G := hid (F false ⟨fun h => absurd h.1 ht, fun h => by cases h⟩)
          have e1 := ne_text ht
          clear F h0
          go_enter Try.func94, Try.ntmps94
          go_wp2
          go_ret
          rw [G.out]
          exact .mk_ (((Below.refl _ _).alloc (Nat.le_refl _) _).alloc (by simp) _)

theorem ext_part {base : ByteArray} {i m : Nat} {t : ByteArray} (h : t.size = 0) : opPart base ⟨i, m, t⟩ = base.extract i (i + m) := by
  rw [part_cop h]
  show base.extract (i : Int).toNat ((i : Int) + (m : Int)).toNat = _
  rw [show ((i : Int) + (m : Int)).toNat = i + m from by omega, Int.toNat_natCast]

set_option maxRecDepth 100000 in
set_option maxHeartbeats 2000000 in
theorem part_any (o : Op2) (base : ByteArray) (w : World) (hb : base.size ≤ 8) (h : opfB base.size o = true) :
    Calls Try.prog 95 #[opA o, .string base] w (Ret (.string (opPart base o)) w) := by
  obtain ⟨a, n, t⟩ := o
  unfold opA
  simp only
  by_cases h0 : n = 0
  · have G := hid (part_ins (base := base) (o := ⟨a, n, t⟩) h0 (opf_in h).1)
    subst h0
    clear h
    go_enter Try.func95, Try.ntmps95
    go_wp2
    go_ret
    rw [G.out]
    exact .mk_ (((Below.refl _ _).alloc (Nat.le_refl _) _).alloc (by simp) _)
  · obtain ⟨h1, h2, h3, h4⟩ := (opf_cop h0).1 h
    simp only at h1 h2 h3 h4
    obtain ⟨i, rfl⟩ := Int.eq_ofNat_of_zero_le h2
    obtain ⟨m, rfl⟩ := Int.eq_ofNat_of_zero_le (show 0 ≤ n by omega)
    have G := hid (ext_part (base := base) (i := i) (m := m) h1)
    have e0 : (((m : Nat) : Int) == 0) = false := by rw [beq_eq_false_iff_ne]; exact h0
    have k1 : i + m ≤ base.size := by omega
    have k2 : (i : Int) + (m : Int) ≤ (base.size : Int) := by omega
    have k3 : (i : Int) ≤ (i : Int) + (m : Int) := by omega
    have k4 : 0 ≤ (m : Int) := by omega
    clear h h0 h1 h3 h4
    go_enter Try.func95, Try.ntmps95
    go_wp2
    go_ret
    rw [G.out]
    exact .mk_ (((Below.refl _ _).alloc (Nat.le_refl _) _).alloc (by simp) _)

set_option maxRecDepth 100000 in
set_option maxHeartbeats 2000000 in
theorem l2Op_any (o : Op2) (base : ByteArray) (w : World) (hs : o.t.size ≤ 1048576) (hb : base.size ≤ 8) :
    Calls Try.prog 96 #[.string base, opA o] w (Ret (.bool (opfB base.size o)) w) := by
  obtain ⟨a, n, t⟩ := o
  unfold opA
  simp only at hs ⊢
  by_cases h0 : n = 0
  · subst h0
    have F := fun v h => opf_t (b := base.size) (o := ⟨a, 0, t⟩) (v := v) (Iff.trans (opf_ins rfl) h)
    simp only at F
    by_cases ha : a = 0
    · subst ha
      by_cases h1 : 1 ≤ t.size ∧ t.size ≤ 8
      · obtain ⟨h1, h8⟩ := h1
        have G := hid (F true ⟨fun _ => rfl, fun _ => ⟨rfl, h1, h8⟩⟩)
        clear F
        go_enter Try.func96, Try.ntmps96
        go_wp2_with (go_at_call 64; refine (l6In_yes _ _ _ _ (by omega) (by omega)).mono ?_; rintro e w' ⟨rfl, rfl⟩)
        go_ret
        rw [G.out]
        exact .mk_ ((Below.refl _ _).alloc (Nat.le_refl _) _)
      · have G := hid (F false ⟨fun h => absurd h.2 h1, fun h => by cases h⟩)
        clear F
        go_enter Try.func96, Try.ntmps96
        go_wp2_with (go_at_call 64; refine (l6In_no _ _ _ _ (by omega)).mono ?_; rintro e w' ⟨rfl, rfl⟩)
        go_ret
        rw [G.out]
        exact .mk_ ((Below.refl _ _).alloc (Nat.le_refl _) _)
    · have G := hid (F false ⟨fun h => absurd h.1 ha, fun h => by cases h⟩)
      have e0 : (a == 0) = false := by rw [beq_eq_false_iff_ne]; exact ha
      clear F ha
      go_enter Try.func96, Try.ntmps96
      go_wp2
      go_ret
      rw [G.out]
      exact .mk_ ((Below.refl _ _).alloc (Nat.le_refl _) _)
  · have F := fun v h => opf_t (b := base.size) (o := ⟨a, n, t⟩) (v := v) (Iff.trans (opf_cop h0) h)
    simp only at F
    have e0 : (n == 0) = false := by rw [beq_eq_false_iff_ne]; exact h0
    by_cases ht : t.size = 0
    · obtain rfl := size_zero ht
      by_cases ha : 0 ≤ a ∧ a ≤ (base.size : Int) - 1
      · by_cases hn : 1 ≤ n ∧ n ≤ (base.size : Int) - a
        · have G := hid (F true ⟨fun _ => rfl, fun _ => ⟨rfl, by omega, by omega, by omega⟩⟩)
          obtain ⟨ha0, ha1⟩ := ha
          obtain ⟨hn0, hn1⟩ := hn
          clear F h0 ht
          go_enter Try.func96, Try.ntmps96
          go_wp2_with (go_at_call 64; refine (l6In_yes _ _ _ _ (by omega) (by omega)).mono ?_; rintro e w' ⟨rfl, rfl⟩)
          go_ret
          rw [G.out]
          exact .mk_ ((Below.refl _ _).alloc (Nat.le_refl _) _)
        · have G := hid (F false ⟨fun h => absurd (by omega) hn, fun h => by cases h⟩)
          obtain ⟨ha0, ha1⟩ := ha
          clear F h0 ht
          go_enter Try.func96, Try.ntmps96
          go_wp2_with (go_at_call 64; first | (refine (l6In_yes _ _ _ _ (by omega) (by omega)).mono ?_; rintro e w' ⟨rfl, rfl⟩) | (refine (l6In_no _ _ _ _ (by omega)).mono ?_; rintro e w' ⟨rfl, rfl⟩))
          go_ret
          rw [G.out]
          exact .mk_ ((Below.refl _ _).alloc (Nat.le_refl _) _)
      · have G := hid (F false ⟨fun h => absurd (by omega) ha, fun h => by cases h⟩)
        clear F h0 ht
        go_enter Try.func96, Try.ntmps96
        go_wp2_with (go_at_call 64; refine (l6In_no _ _ _ _ (by omega)).mono ?_; rintro e w' ⟨rfl, rfl⟩)
        go_ret
        rw [G.out]
        exact .mk_ ((Below.refl _ _).alloc (Nat.le_refl _) _)
    · have G := hid (F false ⟨fun h => absurd h.1 ht, fun h => by cases h⟩)
      have e1 := ne_text ht
      clear F h0
      go_enter Try.func96, Try.ntmps96
      go_wp2
      go_ret
      rw [G.out]
      exact .mk_ ((Below.refl _ _).alloc (Nat.le_refl _) _)
end Go.Proofs.Ytkekbobnbipmoaa
