/- The coordinator with the slices $SA and $SB is stored as the answer, with the word $BB. -/
/- Laws on coordinators: a coordinator is boxed. -/
/- On to the world behind D. -/
/- An exact law begins: the argument's box, its size, a copy for the model. -/
/- The program's own copy of the argument is boxed. -/
/- The program's copy is as the argument; the region draws. -/
/- Laws on functions that answer numbers. -/
/- What the boxes hold is read again. -/
/- The coordinator with the slices P4 and P5 is boxed as P6, in block P7, behind it the world P3; ahead of region P1. -/
/- The draw, the program's answer, the model's, and that they are the same: behind it w5, all facts on it by way of dx. -/
/-
  Walks: the laws' own helpers on updates: copies, comparisons, sizes, inverses, marks.
-/
import Derived.Test.YtjplondblkkpmaaG0C
import Derived.Deep.RegionLaw
namespace Go.Proofs.Ytjplondblkkpmaa
open Go.RowKit Wo Pu Rf

/-- An update as a value. -/
def upA (o : Up) : Value := .agg #[.int .i64 o.r, .int .i64 o.o, .int .i64 o.n]
theorem eqUpdate_same (o : Up) (w : World) :
    Calls Try.prog 102 #[upA o, upA o] w (Ret (.bool true) w) := by
  unfold upA
  go_enter Try.func102, Try.ntmps102
  go_wp2
  go_ret
  exact .mk_ (((Below.refl _ _).alloc (Nat.le_refl _) _).alloc (by simp) _)
set_option maxHeartbeats 2000000 in
theorem eqUpdateS_same (A A2 : Option Addr) (c c2 : Nat) (os : List Up) (w : World) (h : Row w w.heap.size A (upsV os)) (h2 : Row w w.heap.size A2 (upsV os)) (hn : os.length ≤ 1048576) :
    Calls Try.prog 99 #[.slice A os.length c, .slice A2 os.length c2] w (Ret (.bool true) w) := by
  go_enter Try.func99, Try.ntmps99
  go_wp2
  go_loopw [5] (fun i wr => ∃ k : Nat, k ≤ os.length ∧ i = .int .i64 k ∧ Below w.heap.size w wr) (fun i _ => os.length - (intOf i).toNat)
  case atStart => exact ⟨0, Nat.zero_le _, rfl, Below.refl _ _⟩
  case round =>
    obtain ⟨k, hk, rfl, hb⟩ := hrel
    by_cases hlt : k < os.length
    · obtain ⟨o, ad, ho, rfl, ha1, g0, g1, g2⟩ := (h.below hb (Nat.le_refl _)).up_ hlt
      obtain ⟨o2, ad2, ho2, rfl, ha2, g20, g21, g22⟩ := (h2.below hb (Nat.le_refl _)).up_ hlt
      obtain rfl : o = o2 := by rw [← ho, ← ho2]
      have k0 : 0 ≤ (k : Int) := by omega
      have k1 : (k : Int) < (os.length : Int) := by omega
      have G0 := Later.cell g0 ha1
      have G1 := Later.cell (p := ⟨(ad.add (k * 3)).block, (ad.add (k * 3)).off + 1, none⟩) g1 ha1
      have G2 := Later.cell (p := ⟨(ad.add (k * 3)).block, (ad.add (k * 3)).off + 2, none⟩) g2 ha1
      have G3 := Later.cell g20 ha2
      have G4 := Later.cell (p := ⟨(ad2.add (k * 3)).block, (ad2.add (k * 3)).off + 1, none⟩) g21 ha2
      have G5 := Later.cell (p := ⟨(ad2.add (k * 3)).block, (ad2.add (k * 3)).off + 2, none⟩) g22 ha2
      have hz := hb.size
      clear ho ho2 g0 g1 g2 g20 g21 g22
      go_wp2_with fail
      refine wp_region_later w.heap.size (by kernel_rfl) (by kernel_rfl) ?_
      repeat (go_big_quiet_step ((go_at_call 102; exact Later.call hz _ (eqUpdate_same o _))))
      refine wpQuiet_nil ?_
      intro _ hw'
      obtain ⟨xx, hxx⟩ := hw'
      have hbx := xx.b
      subst hxx
      go_wp2
      go_roundw
      case rel => exact ⟨k + 1, by omega, by go_num, hb.trans hbx⟩
      case measure => simp [intOf]; omega
    · have hk' : k = os.length := by omega
      subst hk'
      go_wp2
      go_ret
      exact .mk_ hb

/-- Behind it: an update as a value. -/
theorem toUpdate_any (o : Up) (w : World) : Calls Try.prog 101 #[upA o] w (Ret (upA o) w) := by
  unfold upA
  go_enter Try.func101, Try.ntmps101
  go_wp2_with fail
  refine bodyPost_ret (v := .agg #[.int .i64 o.r, .int .i64 o.o, .int .i64 o.n]) (by simp [results, Try.results101, go_sem]) rfl (.mk_ ?_)
  exact (((Below.refl _ _).alloc (Nat.le_refl _) _).alloc (by simp) _).alloc (by simp; omega) _

/-- Behind it: a new slice with the updates. -/
def MineUps (os : List Up) (w : World) (e : Ending) (w' : World) : Prop :=
  ∃ g, e = .returned (.slice (some ⟨g, 0, none⟩) os.length os.length) ∧ Mine w' w.heap.size 38 3 g os.length (upsV os) ∧ Below w.heap.size w w'

theorem take_up {xs : List Value} {os : List Up} {k : Nat} (h : xs.take (k * 3) = (upsV os).take (k * 3)) (hx : xs.length = os.length * 3) (hk : k < os.length) :
    (((xs.set (k * 3) (.int .i64 os[k].r)).set (k * 3 + 1) (.int .i64 os[k].o)).set (k * 3 + 2) (.int .i64 os[k].n)).take ((k + 1) * 3) = (upsV os).take ((k + 1) * 3) := by
  apply List.ext_getElem?
  intro j
  rw [List.getElem?_take, List.getElem?_take]
  by_cases hj : j < (k + 1) * 3
  · rw [if_pos hj, if_pos hj]
    by_cases h1 : j < k * 3
    · rw [List.getElem?_set_ne (by omega), List.getElem?_set_ne (by omega), List.getElem?_set_ne (by omega)]
      have := congrArg (fun l => l[j]?) h
      simpa [List.getElem?_take, h1] using this
    · have key : j = k * 3 + 0 ∨ j = k * 3 + 1 ∨ j = k * 3 + 2 := by omega
      rcases key with rfl | rfl | rfl
      · rw [upsV_get hk (by omega), List.getElem?_set_ne (by omega), List.getElem?_set_ne (by omega), Nat.add_zero, List.getElem?_set_self (by omega)]; rfl
      · rw [upsV_get hk (by omega), List.getElem?_set_ne (by omega), List.getElem?_set_self (by simp; omega)]; rfl
      · rw [upsV_get hk (by omega), List.getElem?_set_self (by simp; omega)]; rfl
  · rw [if_neg hj, if_neg hj]
theorem Mine.cell_ {w : World} {B g n sz : Nat} {e : TypeId} {xs : List Value} (h : Mine w B e sz g n xs) {j : Nat} (hj : j < n * sz) : ∃ v, w.cell? ⟨g, j, none⟩ = some v := by
  have hl := h.len
  exact ⟨_, (World.ownsRow.cellAt h j (by omega)).trans (List.getElem?_eq_getElem (by omega))⟩

set_option maxHeartbeats 2000000 in
theorem toUpdateS_any (A : Option Addr) (c : Nat) (os : List Up) (w : World) (h : Row w w.heap.size A (upsV os)) (hn : os.length ≤ 1048576) :
    Calls Try.prog 98 #[.slice A os.length c] w (MineUps os w) := by
  obtain ⟨i0, hi, hz0, hz1, hz2⟩ := info_of info_up
  go_enter Try.func98, Try.ntmps98
  go_wp2_with (at_make; go_must (refine wpList_make_full _ rfl (.tmp 6) (.tmp 6) 34 rfl w.heap.size 38 i0 (.agg #[.int .i64 0, .int .i64 0, .int .i64 0]) 3 Try.underlying34 hi hz0 hz1 .i64 .i64 os.length os.length os.length rfl rfl rfl rfl (by rw [hz2]; omega) (by unfold maxLen; omega) (Nat.le_refl _) ?_); intro w1 hown hg)
  have hb1 : Below w.heap.size w w1 := (Below.refl _ _).grown hg (Nat.le_refl _) (by simp)
  have f1 : Hid (∃ xs : List Value, Mine w1 w.heap.size 38 3 w.heap.size os.length xs ∧ xs.take (0 * 3) = (upsV os).take (0 * 3)) := ⟨_, hown, by simp⟩
  clear hown hg
  go_loopw [4] (fun i wr => ∃ k : Nat, k ≤ os.length ∧ i = .int .i64 k ∧ Below w.heap.size w wr ∧ Hid (∃ xs : List Value, Mine wr w.heap.size 38 3 w.heap.size os.length xs ∧ xs.take (k * 3) = (upsV os).take (k * 3))) (fun i _ => os.length - (intOf i).toNat)
  case atStart => exact ⟨0, Nat.zero_le _, rfl, hb1, f1⟩
  case round =>
    clear f1 hb1
    obtain ⟨k, hk, rfl, hb, HX⟩ := hrel
    by_cases hlt : k < os.length
    · obtain ⟨o, ad, ho, rfl, ha, g0, g1, g2⟩ := (h.below hb (Nat.le_refl _)).up_ hlt
      have HO := hid ho
      clear ho
      go_wp2_with fail
      refine (toUpdate_any o _).mono ?_
      rintro e w2 ⟨rfl, hb2⟩
      unfold upA
      obtain ⟨xs, hx, ht⟩ := HX.out
      clear HX
      have hx2 := hx.below hb2 hx.lt.2
      have hb3 := hb.trans (hb2.mono hb.size)
      have HT := hid (take_up ht hx.len hlt)
      rw [HO.out] at HT
      clear hb2 hx ht g0 g1 g2
      have hlen := hx2.len
      obtain ⟨y0, q0⟩ := hx2.cell_ (j := k * 3) (by omega)
      obtain ⟨y1, q1⟩ := hx2.cell_ (j := k * 3 + 1) (by omega)
      obtain ⟨y2, q2⟩ := hx2.cell_ (j := k * 3 + 2) (by omega)
      have qf0 := hx2.frozen (k * 3)
      have qf1 := hx2.frozen (k * 3 + 1)
      have qf2 := hx2.frozen (k * 3 + 2)
      have hx3 := ((hx2.set_ (k * 3) (.int .i64 o.r)).set_ (k * 3 + 1) (.int .i64 o.o)).set_ (k * 3 + 2) (.int .i64 o.n)
      have HL := hid hlen
      clear hx2 hlen
      go_wp2_with fail
      go_roundw
      case rel => exact ⟨k + 1, by omega, by go_num, ((hb3.setCell (Nat.le_refl _) _).setCell (Nat.le_refl _) _).setCell (Nat.le_refl _) _, _, hx3, HT.out⟩
      case measure => simp [intOf]; omega
    · have hk' : k = os.length := by omega
      subst hk'
      obtain ⟨xs, hx, ht⟩ := HX.out
      clear HX
      have hxs : xs = upsV os := by
        have hl := hx.len
        rw [List.take_of_length_le (by omega), List.take_of_length_le (by rw [upsV_length]; omega)] at ht
        exact ht
      clear ht
      subst hxs
      go_wp2
      go_ret
      exact ⟨_, rfl, hx, hb⟩

theorem szUpdateS_no (A : Option Addr) (n c : Nat) (left : Int) (w : World) (hn : n ≤ maxLen) (h0 : 0 ≤ left) (h1 : left ≤ 1048576) (h : left < n) :
    Calls Try.prog 97 #[.slice A n c, .int .i64 left] w (Same (.int .i64 (-1)) w) := by
  unfold maxLen at hn
  go_enter Try.func97, Try.ntmps97
  go_wp2
  go_ret
  exact ⟨rfl, rfl⟩
theorem szUpdateS_yes (A : Option Addr) (n c : Nat) (left : Int) (w : World) (hn : n ≤ maxLen) (h0 : 0 ≤ left) (h1 : left ≤ 1048576) (h : n ≤ left) :
    Calls Try.prog 97 #[.slice A n c, .int .i64 left] w (Same (.int .i64 (left - n)) w) := by
  unfold maxLen at hn
  go_enter Try.func97, Try.ntmps97
  go_wp2
  go_ret
  exact ⟨rfl, rfl⟩
end Go.Proofs.Ytjplondblkkpmaa
