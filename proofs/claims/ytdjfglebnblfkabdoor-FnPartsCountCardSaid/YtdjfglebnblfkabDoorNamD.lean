/-
  Walks: drawn names, patterns and pairs of names.
-/
import Derived.Test.YtdjfglebnblfkabDoorNamV
namespace Go.Proofs.YtdjfglebnblfkabDoor
open Go.RowKit Wo Pu Nm

set_option maxHeartbeats 1000000 in
theorem of_any (R : Nat) (q : Int) (g m : Nat) (ts : List ByteArray) (w : World) (hR : Rd w R q) (hq : q ≤ 900000000) (hg : g < w.heap.size) (hne : g ≠ R) (hc : ∀ k (hk : k < ts.length), w.cell? ⟨g, k, none⟩ = some (.string ts[k]))
    (h1 : 1 ≤ ts.length) (h2 : ts.length ≤ 100) (hm : ∀ t ∈ ts, t.size ≤ m) :
    Calls Tryd.prog 36 #[.pointer (some ⟨R, 0, none⟩), .slice (some ⟨g, 0, none⟩) ts.length ts.length] w (TextDrawn R q 1 m w) := by
  go_enter Tryd.func36, Tryd.ntmps36
  go_wp2_with fail
  refine (pick_any R q (ts.length : Int) w hR (by omega) (by omega) (by omega)).mono ?_
  rintro e w1 ⟨x, rfl, x0, x1, R1, T1⟩
  obtain ⟨k, rfl⟩ := Int.eq_ofNat_of_zero_le x0
  have hk : k < ts.length := by omega
  have c1 := (T1.cell k hg hne).trans (hc k hk)
  have hsz := hm _ (List.getElem_mem hk)
  clear hc hm
  go_wp2_with fail
  go_ret
  exact ⟨_, rfl, hsz, R1, T1⟩
theorem of_new (R : Nat) (q : Int) (m : Nat) (ts : List ByteArray) (w : World) (hR : Rd w R q) (hq : q ≤ 900000000)
    (h1 : 1 ≤ ts.length) (h2 : ts.length ≤ 100) (hm : ∀ t ∈ ts, t.size ≤ m) :
    Calls Tryd.prog 36 #[.pointer (some ⟨R, 0, none⟩), .slice (some ⟨w.heap.size, 0, none⟩) ts.length ts.length] (w.alloc (.cells (txts ts).toArray 9)) (TextDrawn R q 1 m w) := by
  have hlt := hR.lt
  have al := (Below.refl w.heap.size w).alloc (Nat.le_refl _) (.cells (txts ts).toArray 9)
  refine (of_any R q w.heap.size m ts _ (hR.below al hlt) hq (by simp) (by omega) (fun k hk => ?_) h1 h2 hm).mono ?_
  · have e := heap_alloc_new w (.cells (txts ts).toArray 9)
    simp only [World.cell?, e]
    simp [txts, hk]
  · rintro e w' ⟨s, rfl, hs, R1, T1⟩
    exact ⟨s, rfl, hs, R1, (But.of_below al).trans T1⟩

/-- The lists of texts that names are drawn from. -/
def lst1 : List ByteArray := [⟨#[97]⟩, ⟨#[109, 97, 105, 110]⟩, ⟨#[120, 49]⟩, ⟨#[97, 45, 98]⟩, ⟨#[98]⟩]
def lst2 : List ByteArray := [⟨#[97]⟩, ⟨#[98]⟩, ⟨#[109, 97, 105, 110]⟩, ⟨#[48]⟩]
def lst3 : List ByteArray := [⟨#[47]⟩, ⟨#[45]⟩, ⟨#[65]⟩, ⟨#[47, 47, 98]⟩, ⟨#[32]⟩, ⟨#[47, 108, 111, 110, 103, 112, 97, 114, 116]⟩, ⟨#[42]⟩]
theorem lst1_le : ∀ t ∈ lst1, t.size ≤ 4 := by unfold lst1; simp only [List.mem_cons, List.not_mem_nil, or_false]; rintro t (rfl | rfl | rfl | rfl | rfl) <;> decide
theorem lst2_le : ∀ t ∈ lst2, t.size ≤ 4 := by unfold lst2; simp only [List.mem_cons, List.not_mem_nil, or_false]; rintro t (rfl | rfl | rfl | rfl) <;> decide
theorem lst3_le : ∀ t ∈ lst3, t.size ≤ 9 := by unfold lst3; simp only [List.mem_cons, List.not_mem_nil, or_false]; rintro t (rfl | rfl | rfl | rfl | rfl | rfl | rfl) <;> decide
theorem slash_size (s t : ByteArray) : (s ++ (⟨#[47]⟩ : ByteArray) ++ t).size = s.size + 1 + t.size := by rw [ByteArray.size_append, ByteArray.size_append]; rfl

set_option maxRecDepth 100000 in
set_option maxHeartbeats 4000000 in
theorem l91Name_any (R : Nat) (q : Int) (w : World) (hR : Rd w R q) (hq : q ≤ 800000000) :
    Calls Tryd.prog 25 #[.pointer (some ⟨R, 0, none⟩)] w (TextDrawn R q 10 23 w) := by
  go_enter Tryd.func25, Tryd.ntmps25
  go_wp2_with fail
  refine (of_new R q 4 lst1 w hR (by omega) (by decide) (by decide) lst1_le).mono ?_
  rintro e w1 ⟨s1, rfl, hs1, R1, T1⟩
  clear hR
  go_wp2_with fail
  refine (pick_any R _ 3 w1 R1 (by omega) (by omega) (by omega)).mono ?_
  rintro e w2 ⟨n, rfl, n0, n1, R2, T2⟩
  have T := T1.trans T2
  clear T1 T2 R1
  go_wp2_with fail
  go_loopw [3, 5] (fun t i wr => ∃ (k : Nat) (s : ByteArray), (k : Int) ≤ n ∧ i = .int .i64 k ∧ t = .string s ∧ s.size ≤ 4 + 5 * k ∧ Rd wr R (q + 1 + 1 + k) ∧ But R w wr) (fun _ i _ => n.toNat - (intOf i).toNat)
  case atStart => exact ⟨0, s1, by omega, rfl, rfl, by omega, by simpa using R2, T⟩
  case round =>
    clear T R2
    obtain ⟨k, s, hk, rfl, rfl, hs, Rk, Tk⟩ := hrel
    by_cases hlt : (k : Int) < n
    · go_wp2_with fail
      refine (of_new R _ 4 lst2 wr Rk (by omega) (by decide) (by decide) lst2_le).mono ?_
      rintro e w3 ⟨s3, rfl, hs3, R3, T3⟩
      have T4 := Tk.trans T3
      have hsz := slash_size s s3
      clear Rk Tk T3
      go_wp2_with fail
      go_roundw
      case rel => exact ⟨k + 1, _, by omega, by go_num, rfl, by omega, R3.more (by omega), T4⟩
      case measure => simp [intOf]; omega
    · go_wp2_with fail
      refine (pick_any R _ 8 _ Rk (by omega) (by omega) (by omega)).mono ?_
      rintro e w3 ⟨x, rfl, x0, x1, R3, T3⟩
      have T4 := Tk.trans T3
      clear Rk Tk T3
      by_cases hx : x = 0
      · have e0 : (x == 0) = true := by rw [hx]; rfl
        clear hx
        go_wp2_with fail
        refine (of_new R _ 9 lst3 w3 R3 (by omega) (by decide) (by decide) lst3_le).mono ?_
        rintro e w4 ⟨s4, rfl, hs4, R4, T5⟩
        have hsz : (s ++ s4).size = s.size + s4.size := ByteArray.size_append
        go_wp2_with fail
        go_ret
        exact ⟨_, rfl, by omega, R4.more (by omega), T4.trans T5⟩
      · have e0 : (x == 0) = false := by rw [beq_eq_false_iff_ne]; exact hx
        go_wp2_with fail
        go_ret
        exact ⟨s, rfl, by omega, R3.more (by omega), T4⟩

theorem DrawNameParts_any (A : Option Addr) (c : Nat) (bs : List Int) (w : World) (h : Code_ w A c bs) :
    Calls Tryd.prog 15 #[.slice A bs.length c] w (TextMade 23 w) := by
  go_enter Tryd.func15, Tryd.ntmps15
  go_wp2_with fail
  refine (l6Open_any A c bs w h).mono ?_
  rintro e w1 ⟨rfl, R1, b1⟩
  go_wp2_with fail
  refine (l91Name_any w.heap.size 0 w1 R1 (by omega)).mono ?_
  rintro e w2 ⟨s, rfl, hs, R2, T2⟩
  go_wp2
  go_ret
  exact ⟨s, rfl, hs, b1.trans (T2.below b1.size (Nat.le_refl _))⟩
/-- Two drawn texts. -/
def TextsMade (m : Nat) (w : World) (e : Ending) (w' : World) : Prop := ∃ s t : ByteArray, e = .returned (.tuple #[.string s, .string t]) ∧ s.size ≤ m ∧ t.size ≤ m ∧ Below w.heap.size w w'
set_option maxRecDepth 100000 in
set_option maxHeartbeats 4000000 in
theorem DrawNameClashes_any (A : Option Addr) (c : Nat) (bs : List Int) (w : World) (h : Code_ w A c bs) :
    Calls Tryd.prog 10 #[.slice A bs.length c] w (TextsMade 25 w) := by
  go_enter Tryd.func10, Tryd.ntmps10
  go_wp2_with fail
  refine (l6Open_any A c bs w h).mono ?_
  rintro e w1 ⟨rfl, R1, b1⟩
  go_wp2_with fail
  refine (l91Name_any w.heap.size 0 w1 R1 (by omega)).mono ?_
  rintro e w2 ⟨s, rfl, hs, R2, T2⟩
  have b2 := b1.trans (T2.below b1.size (Nat.le_refl _))
  go_wp2_with fail
  refine (l91Name_any w.heap.size _ w2 R2 (by omega)).mono ?_
  rintro e w3 ⟨t, rfl, ht, R3, T3⟩
  have b3 := b2.trans (T3.below b2.size (Nat.le_refl _))
  go_wp2_with fail
  refine (pick_any w.heap.size _ 3 w3 R3 (by omega) (by omega) (by omega)).mono ?_
  rintro e w4 ⟨x, rfl, x0, x1, R4, T4⟩
  have b4 := b3.trans (T4.below b3.size (Nat.le_refl _))
  clear R1 R2 T2 T3 b1 b2 R3 b3 T4
  by_cases hx : x = 0
  · have e0 : (x == 0) = true := by rw [hx]; rfl
    have hsz := slash_size s t
    have hsz2 : (s ++ (⟨#[47, 97]⟩ : ByteArray)).size = s.size + 2 := ByteArray.size_append
    clear hx
    by_cases h12 : s.size + 1 + t.size ≤ 12
    · have e2 : decide ((12 : Int) < ((s ++ (⟨#[47]⟩ : ByteArray) ++ t).size : Int)) = false := decide_eq_false (by omega)
      have e3 : decide (12 < (s ++ (⟨#[47]⟩ : ByteArray) ++ t).size) = false := decide_eq_false (by omega)
      go_wp2_with fail
      refine (pick_any w.heap.size _ 2 _ R4 (by omega) (by omega) (by omega)).mono ?_
      rintro e w9 ⟨y, rfl, y0, y1, R9, T9⟩
      have b9 := b4.trans (T9.below b4.size (Nat.le_refl _))
      by_cases hy : y = 0
      · have e1 : (y == 0) = true := by rw [hy]; rfl
        go_wp2_with fail
        go_ret2
        exact ⟨_, _, rfl, by omega, by omega, b9⟩
      · have e1 : (y == 0) = false := by rw [beq_eq_false_iff_ne]; exact hy
        go_wp2_with fail
        go_ret2
        exact ⟨_, _, rfl, by omega, by omega, b9⟩
    · have e2 : decide ((12 : Int) < ((s ++ (⟨#[47]⟩ : ByteArray) ++ t).size : Int)) = true := decide_eq_true (by omega)
      have e3 : decide (12 < (s ++ (⟨#[47]⟩ : ByteArray) ++ t).size) = true := decide_eq_true (by omega)
      go_wp2_with fail
      refine (pick_any w.heap.size _ 2 _ R4 (by omega) (by omega) (by omega)).mono ?_
      rintro e w9 ⟨y, rfl, y0, y1, R9, T9⟩
      have b9 := b4.trans (T9.below b4.size (Nat.le_refl _))
      by_cases hy : y = 0
      · have e1 : (y == 0) = true := by rw [hy]; rfl
        go_wp2_with fail
        go_ret2
        exact ⟨_, _, rfl, by omega, by omega, b9⟩
      · have e1 : (y == 0) = false := by rw [beq_eq_false_iff_ne]; exact hy
        go_wp2_with fail
        go_ret2
        exact ⟨_, _, rfl, by omega, by omega, b9⟩
  · have e0 : (x == 0) = false := by rw [beq_eq_false_iff_ne]; exact hx
    go_wp2_with fail
    refine (pick_any w.heap.size _ 2 _ R4 (by omega) (by omega) (by omega)).mono ?_
    rintro e w9 ⟨y, rfl, y0, y1, R9, T9⟩
    have b9 := b4.trans (T9.below b4.size (Nat.le_refl _))
    by_cases hy : y = 0
    · have e1 : (y == 0) = true := by rw [hy]; rfl
      go_wp2_with fail
      go_ret2
      exact ⟨_, _, rfl, by omega, by omega, b9⟩
    · have e1 : (y == 0) = false := by rw [beq_eq_false_iff_ne]; exact hy
      go_wp2_with fail
      go_ret2
      exact ⟨_, _, rfl, by omega, by omega, b9⟩
end Go.Proofs.YtdjfglebnblfkabDoor
