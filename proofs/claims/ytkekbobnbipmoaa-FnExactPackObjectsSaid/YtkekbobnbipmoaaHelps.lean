/-
  Walks: the exact laws' own helpers on operations: sizes, copies, comparisons.
-/
import Derived.Test.YtkekbobnbipmoaaSizes
namespace Go.Proofs.Ytkekbobnbipmoaa
open Go.RowKit Wo Pu

theorem eqOp_same (o : Op2) (w : World) :
    Calls Try.prog 99 #[opA o, opA o] w (Ret (.bool true) w) := by
  unfold opA
  go_enter Try.func99, Try.ntmps99
  go_wp2
  go_ret
  exact .mk_ (((Below.refl _ _).alloc (Nat.le_refl _) _).alloc (by simp) _)
set_option maxHeartbeats 2000000 in
theorem eqOpS_same (A A2 : Option Addr) (c c2 : Nat) (os : List Op2) (w : World) (h : Row w w.heap.size A (opsV os)) (h2 : Row w w.heap.size A2 (opsV os)) (hn : os.length ≤ 1048576) :
    Calls Try.prog 86 #[.slice A os.length c, .slice A2 os.length c2] w (Ret (.bool true) w) := by
  go_enter Try.func86, Try.ntmps86
  go_wp2
  go_loopw [5] (fun i wr => ∃ k : Nat, k ≤ os.length ∧ i = .int .i64 k ∧ Below w.heap.size w wr) (fun i _ => os.length - (intOf i).toNat)
  case atStart => exact ⟨0, Nat.zero_le _, rfl, Below.refl _ _⟩
  case round =>
    obtain ⟨k, hk, rfl, hb⟩ := hrel
    by_cases hlt : k < os.length
    · obtain ⟨o, ad, ho, rfl, ha1, g0, g1, g2⟩ := (h.below hb (Nat.le_refl _)).op_ hlt
      obtain ⟨o2, ad2, ho2, rfl, ha2, g20, g21, g22⟩ := (h2.below hb (Nat.le_refl _)).op_ hlt
      obtain rfl : o = o2 := by rw [← ho, ← ho2]
      have k0 : 0 ≤ (k : Int) := by omega
      have k1 : (k : Int) < (os.length : Int) := by omega
      have G0 := Later.cell g0 ha1
      have G1 := Later.cell (p := ⟨(ad.add (k * 3)).block, (ad.add (k * 3)).off + 1, none⟩) g1 ha1
      have G2 := Later.cell (p := ⟨(ad.add (k * 3)).block, (ad.add (k * 3)).off + 2, none⟩) g2 ha1
      have G3 := Later.cell g20 ha2
      have G4 := Later.cell (p := ⟨(ad2.add (k * 3)).block, (ad2.add (k * 3)).off + 1, none⟩) g21 ha2
      have G5 := Later.cell (p := ⟨(ad2.add (k * 3)).block, (ad2.add (k * 3)).off + 2, none⟩) g22 ha2
      have hz := hb.size
      clear ho ho2 g0 g1 g2 g20 g21 g22
      go_wp2_with fail
      refine wp_region_later w.heap.size (by kernel_rfl) (by kernel_rfl) ?_
      repeat (go_big_quiet_step ((go_at_call 99; exact Later.call hz _ (eqOp_same o _))))
      refine wpQuiet_nil ?_
      intro _ hw'
      obtain ⟨xx, hxx⟩ := hw'
      have hbx := xx.b
      subst hxx
      go_wp2
      go_roundw
      case rel => exact ⟨k + 1, by omega, by go_num, hb.trans hbx⟩
      case measure => simp [intOf]; omega
    · have hk' : k = os.length := by omega
      subst hk'
      go_wp2
      go_ret
      exact .mk_ hb

/-- Behind it: an operation as a value. -/
theorem toOp_any (o : Op2) (w : World) : Calls Try.prog 98 #[opA o] w (Ret (opA o) w) := by
  unfold opA
  go_enter Try.func98, Try.ntmps98
  go_wp2_with fail
  refine bodyPost_ret (v := .agg #[.int .i64 o.a, .int .i64 o.n, .string o.t]) (by simp [results, Try.results98, go_sem]) rfl (.mk_ ?_)
  exact (((Below.refl _ _).alloc (Nat.le_refl _) _).alloc (by simp) _).alloc (by simp; omega) _

/-- Behind it: a new slice with the operations. -/
def MineOps (os : List Op2) (w : World) (e : Ending) (w' : World) : Prop :=
  ∃ g, e = .returned (.slice (some ⟨g, 0, none⟩) os.length os.length) ∧ Mine w' w.heap.size 99 3 g os.length (opsV os) ∧ Below w.heap.size w w'

theorem take_op {xs : List Value} {os : List Op2} {k : Nat} (h : xs.take (k * 3) = (opsV os).take (k * 3)) (hx : xs.length = os.length * 3) (hk : k < os.length) :
    (((xs.set (k * 3) (.int .i64 os[k].a)).set (k * 3 + 1) (.int .i64 os[k].n)).set (k * 3 + 2) (.string os[k].t)).take ((k + 1) * 3) = (opsV os).take ((k + 1) * 3) := by
  apply List.ext_getElem?
  intro j
  rw [List.getElem?_take, List.getElem?_take]
  by_cases hj : j < (k + 1) * 3
  · rw [if_pos hj, if_pos hj]
    by_cases h1 : j < k * 3
    · rw [List.getElem?_set_ne (by omega), List.getElem?_set_ne (by omega), List.getElem?_set_ne (by omega)]
      have := congrArg (fun l => l[j]?) h
      simpa [List.getElem?_take, h1] using this
    · have key : j = k * 3 + 0 ∨ j = k * 3 + 1 ∨ j = k * 3 + 2 := by omega
      rcases key with rfl | rfl | rfl
      · rw [opsV_get hk (by omega), List.getElem?_set_ne (by omega), List.getElem?_set_ne (by omega), Nat.add_zero, List.getElem?_set_self (by omega)]; rfl
      · rw [opsV_get hk (by omega), List.getElem?_set_ne (by omega), List.getElem?_set_self (by simp; omega)]; rfl
      · rw [opsV_get hk (by omega), List.getElem?_set_self (by simp; omega)]; rfl
  · rw [if_neg hj, if_neg hj]
theorem Mine.cell_ {w : World} {B g n sz : Nat} {e : TypeId} {xs : List Value} (h : Mine w B e sz g n xs) {j : Nat} (hj : j < n * sz) : ∃ v, w.cell? ⟨g, j, none⟩ = some v := by
  have hl := h.len
  exact ⟨_, (World.ownsRow.cellAt h j (by omega)).trans (List.getElem?_eq_getElem (by omega))⟩

set_option maxHeartbeats 2000000 in
theorem toOpS_any (A : Option Addr) (c : Nat) (os : List Op2) (w : World) (h : Row w w.heap.size A (opsV os)) (hn : os.length ≤ 1048576) :
    Calls Try.prog 84 #[.slice A os.length c] w (MineOps os w) := by
  obtain ⟨i0, hi, hz0, hz1, hz2⟩ := info_of info_op
  go_enter Try.func84, Try.ntmps84
  go_wp2_with (at_make; go_must (refine wpList_make_full _ rfl (.tmp 6) (.tmp 6) 31 rfl w.heap.size 99 i0 (.agg #[.int .i64 0, .int .i64 0, .string ⟨#[]⟩]) 3 Try.underlying31 hi hz0 hz1 .i64 .i64 os.length os.length os.length rfl rfl rfl rfl (by rw [hz2]; omega) (by unfold maxLen; omega) (Nat.le_refl _) ?_); intro w1 hown hg)
  have hb1 : Below w.heap.size w w1 := (Below.refl _ _).grown hg (Nat.le_refl _) (by simp)
  have f1 : Hid (∃ xs : List Value, Mine w1 w.heap.size 99 3 w.heap.size os.length xs ∧ xs.take (0 * 3) = (opsV os).take (0 * 3)) := ⟨_, hown, by simp⟩
  clear hown hg
  go_loopw [4] (fun i wr => ∃ k : Nat, k ≤ os.length ∧ i = .int .i64 k ∧ Below w.heap.size w wr ∧ Hid (∃ xs : List Value, Mine wr w.heap.size 99 3 w.heap.size os.length xs ∧ xs.take (k * 3) = (opsV os).take (k * 3))) (fun i _ => os.length - (intOf i).toNat)
  case atStart => exact ⟨0, Nat.zero_le _, rfl, hb1, f1⟩
  case round =>
    clear f1 hb1
    obtain ⟨k, hk, rfl, hb, HX⟩ := hrel
    by_cases hlt : k < os.length
    · obtain ⟨o, ad, ho, rfl, ha, g0, g1, g2⟩ := (h.below hb (Nat.le_refl _)).op_ hlt
      have HO := hid ho
      clear ho
      go_wp2_with fail
      refine (toOp_any o _).mono ?_
      rintro e w2 ⟨rfl, hb2⟩
      unfold opA
      obtain ⟨xs, hx, ht⟩ := HX.out
      clear HX
      have hx2 := hx.below hb2 hx.lt.2
      have hb3 := hb.trans (hb2.mono hb.size)
      have HT := hid (take_op ht hx.len hlt)
      rw [HO.out] at HT
      clear hb2 hx ht g0 g1 g2
      have hlen := hx2.len
      obtain ⟨y0, q0⟩ := hx2.cell_ (j := k * 3) (by omega)
      obtain ⟨y1, q1⟩ := hx2.cell_ (j := k * 3 + 1) (by omega)
      obtain ⟨y2, q2⟩ := hx2.cell_ (j := k * 3 + 2) (by omega)
      have qf0 := hx2.frozen (k * 3)
      have qf1 := hx2.frozen (k * 3 + 1)
      have qf2 := hx2.frozen (k * 3 + 2)
      have hx3 := ((hx2.set_ (k * 3) (.int .i64 o.a)).set_ (k * 3 + 1) (.int .i64 o.n)).set_ (k * 3 + 2) (.string o.t)
      have HL := hid hlen
      clear hx2 hlen
      go_wp2_with fail
      go_roundw
      case rel => exact ⟨k + 1, by omega, by go_num, ((hb3.setCell (Nat.le_refl _) _).setCell (Nat.le_refl _) _).setCell (Nat.le_refl _) _, _, hx3, HT.out⟩
      case measure => simp [intOf]; omega
    · have hk' : k = os.length := by omega
      subst hk'
      obtain ⟨xs, hx, ht⟩ := HX.out
      clear HX
      have hxs : xs = opsV os := by
        have hl := hx.len
        rw [List.take_of_length_le (by omega), List.take_of_length_le (by rw [opsV_length]; omega)] at ht
        exact ht
      clear ht
      subst hxs
      go_wp2
      go_ret
      exact ⟨_, rfl, hx, hb⟩

/-- The sizes: all fit, or not. -/
def Sized2 (tot : Nat) (left : Int) (w : World) (e : Ending) (w' : World) : Prop := ∃ r : Int, e = .returned (.int .i64 r) ∧ (r = -1 ∨ (0 ≤ r ∧ r = left - tot)) ∧ Below w.heap.size w w'
theorem szOp_no (o : Op2) (left : Int) (w : World) (hs : o.t.size ≤ maxLen) (h0 : 0 ≤ left) (h1 : left ≤ 1048576) (h : left < o.t.size) :
    Calls Try.prog 97 #[opA o, .int .i64 left] w (Ret (.int .i64 (-1)) w) := by
  unfold maxLen at hs
  unfold opA
  go_enter Try.func97, Try.ntmps97
  go_wp2
  go_ret
  exact .mk_ ((Below.refl _ _).alloc (Nat.le_refl _) _)
theorem szOp_yes (o : Op2) (left : Int) (w : World) (hs : o.t.size ≤ maxLen) (h0 : 0 ≤ left) (h1 : left ≤ 1048576) (h : o.t.size ≤ left) :
    Calls Try.prog 97 #[opA o, .int .i64 left] w (Ret (.int .i64 (left - o.t.size)) w) := by
  unfold maxLen at hs
  unfold opA
  go_enter Try.func97, Try.ntmps97
  go_wp2
  go_ret
  exact .mk_ ((Below.refl _ _).alloc (Nat.le_refl _) _)
set_option maxHeartbeats 2000000 in
theorem szOpS_any (A : Option Addr) (c : Nat) (os : List Op2) (left : Int) (w : World) (h : Row w w.heap.size A (opsV os)) (hf : ∀ o ∈ os, o.t.size ≤ maxLen) (hn : os.length ≤ maxLen) (h0 : 0 ≤ left) (h1 : left ≤ 1048576) :
    Calls Try.prog 82 #[.slice A os.length c, .int .i64 left] w (Sized2 (dsz os) left w) := by
  unfold maxLen at hn
  by_cases h2 : left < os.length
  · go_enter Try.func82, Try.ntmps82
    go_wp2
    go_ret
    exact ⟨-1, rfl, .inl rfl, Below.refl _ _⟩
  · go_enter Try.func82, Try.ntmps82
    go_wp2_with fail
    go_loopw [1, 5] (fun l i wr => ∃ k : Nat, k ≤ os.length ∧ i = .int .i64 k ∧ l = .int .i64 (left - os.length - tsz os k) ∧ 0 ≤ left - os.length - tsz os k ∧ Below w.heap.size w wr) (fun _ i _ => os.length - (intOf i).toNat)
    case atStart => exact ⟨0, Nat.zero_le _, rfl, by simp [tsz], by simp [tsz]; omega, Below.refl _ _⟩
    case round =>
      obtain ⟨k, hk, rfl, rfl, hp, hb⟩ := hrel
      by_cases hlt : k < os.length
      · obtain ⟨o, ad, ho, rfl, ha, g0, g1, g2⟩ := (h.below hb (Nat.le_refl _)).op_ hlt
        have hfk := hf os[k] (List.getElem_mem hlt)
        have hs := tsz_succ hlt
        rw [ho] at hfk hs
        have HS := hid hs
        clear hs ho
        go_wp2_with fail
        by_cases hov : left - os.length - tsz os k < o.t.size
        · refine (szOp_no o _ _ hfk hp (by omega) (by omega)).mono ?_
          rintro e w1 ⟨rfl, hb1⟩
          go_wp2
          go_ret
          exact ⟨-1, rfl, .inl rfl, hb.trans (hb1.mono hb.size)⟩
        · refine (szOp_yes o _ _ hfk hp (by omega) (by omega)).mono ?_
          rintro e w1 ⟨rfl, hb1⟩
          go_wp2
          go_roundw
          case rel => exact ⟨k + 1, by omega, by go_num, by rw [HS.out]; congr 1; omega, by rw [HS.out]; omega, hb.trans (hb1.mono hb.size)⟩
          case measure => simp [intOf]; omega
      · have hk' : k = os.length := by omega
        subst hk'
        go_wp2
        go_ret
        exact ⟨_, rfl, .inr ⟨hp, by unfold dsz; omega⟩, hb⟩
end Go.Proofs.Ytkekbobnbipmoaa
