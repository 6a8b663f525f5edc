/-
  Lists of objects in memory.
-/
import Derived.Test.YtkekbobnbipmoaaCopy
namespace Go.Proofs.Ytkekbobnbipmoaa
open Go.RowKit Wo Pu

structure Ob where
  kd : Int
  zs : List Int
  s : ByteArray

/-- At ad lies the object o. -/
def ObAt (w : World) (B : Nat) (ad : Addr) (o : Ob) : Prop :=
  ∃ (A : Option Addr) (c : Nat), w.cell? ad = some (.int .i64 o.kd) ∧ w.cell? (ad.add 1) = some (.slice A o.zs.length c) ∧ w.cell? (ad.add 2) = some (.string o.s) ∧ Row w B A (ints o.zs)
/-- The slice with head A holds the objects os. -/
def Objs (w : World) (B : Nat) (A : Option Addr) (os : List Ob) : Prop :=
  os = [] ∨ ∃ ad, A = some ad ∧ ad.block < B ∧ ∀ i (h : i < os.length), ObAt w B (ad.add (i * 3)) os[i]
theorem ObAt.below {w w' : World} {B C : Nat} {ad : Addr} {o : Ob} (h : ObAt w B ad o) (ha : ad.block < B) (hb : Below C w w') (hC : B ≤ C) : ObAt w' B ad o := by
  obtain ⟨A, c, h0, h1, h2, h3⟩ := h
  have f : ∀ p : Addr, p.block < B → w'.cell? p = w.cell? p := fun p hp => hb.cell (by omega)
  exact ⟨A, c, by rw [f _ ha]; exact h0, by rw [f _ (by rw [add_block]; exact ha)]; exact h1, by rw [f _ (by rw [add_block]; exact ha)]; exact h2, h3.below hb hC⟩
theorem ObAt.more {w : World} {B B' : Nat} {ad : Addr} {o : Ob} (h : ObAt w B ad o) (hB : B ≤ B') : ObAt w B' ad o := by
  obtain ⟨A, c, h0, h1, h2, h3⟩ := h
  exact ⟨A, c, h0, h1, h2, h3.more hB⟩
theorem Objs.below {w w' : World} {B C : Nat} {A : Option Addr} {os : List Ob} (h : Objs w B A os) (hb : Below C w w') (hC : B ≤ C) : Objs w' B A os := by
  rcases h with rfl | ⟨ad, e, ha, hh⟩
  · exact .inl rfl
  · exact .inr ⟨ad, e, ha, fun i hi => (hh i hi).below (by rw [add_block]; exact ha) hb hC⟩
theorem Objs.more {w : World} {B B' : Nat} {A : Option Addr} {os : List Ob} (h : Objs w B A os) (hB : B ≤ B') : Objs w B' A os := by
  rcases h with rfl | ⟨ad, e, ha, hh⟩
  · exact .inl rfl
  · exact .inr ⟨ad, e, by omega, fun i hi => (hh i hi).more hB⟩
theorem Objs.at_ {w : World} {B : Nat} {A : Option Addr} {os : List Ob} (h : Objs w B A os) {k : Nat} (hk : k < os.length) :
    ∃ (ad : Addr) (A' : Option Addr) (c : Nat), A = some ad ∧ ad.block < B ∧ w.cell? (ad.add (k * 3)) = some (.int .i64 os[k].kd) ∧ w.cell? ⟨(ad.add (k * 3)).block, (ad.add (k * 3)).off + 1, none⟩ = some (.slice A' os[k].zs.length c) ∧
      w.cell? ⟨(ad.add (k * 3)).block, (ad.add (k * 3)).off + 2, none⟩ = some (.string os[k].s) ∧ Row w B A' (ints os[k].zs) := by
  rcases h with rfl | ⟨ad, e, ha, hh⟩
  · simp at hk
  · obtain ⟨A', c, h0, h1, h2, h3⟩ := hh k hk
    exact ⟨ad, A', c, e, ha, h0, h1, h2, h3⟩

theorem Objs.obj {w : World} {B : Nat} {A : Option Addr} {os : List Ob} (h : Objs w B A os) {k : Nat} (hk : k < os.length) :
    ∃ (o : Ob) (ad : Addr) (A' : Option Addr) (c : Nat), os[k] = o ∧ A = some ad ∧ (ad.add (k * 3)).block < B ∧ w.cell? (ad.add (k * 3)) = some (.int .i64 o.kd) ∧ w.cell? ⟨(ad.add (k * 3)).block, (ad.add (k * 3)).off + 1, none⟩ = some (.slice A' o.zs.length c) ∧
      w.cell? ⟨(ad.add (k * 3)).block, (ad.add (k * 3)).off + 2, none⟩ = some (.string o.s) ∧ Row w B A' (ints o.zs) := by
  obtain ⟨ad, A', c, e, ha, h1, h2, h3, h4⟩ := h.at_ hk
  exact ⟨_, ad, A', c, rfl, e, by rw [add_block]; exact ha, h1, h2, h3, h4⟩
theorem three_later {w w' : World} {C : Nat} (hb : Below C w w') {ad : Addr} {v0 v1 v2 : Value} (ha : ad.block < C) (h0 : w.cell? ad = some v0) (h1 : w.cell? ⟨ad.block, ad.off + 1, none⟩ = some v1) (h2 : w.cell? ⟨ad.block, ad.off + 2, none⟩ = some v2) :
    w'.cell? ad = some v0 ∧ w'.cell? ⟨ad.block, ad.off + 1, none⟩ = some v1 ∧ w'.cell? ⟨ad.block, ad.off + 2, none⟩ = some v2 :=
  ⟨(hb.cell ha).trans h0, (hb.cell (p := ⟨ad.block, ad.off + 1, none⟩) ha).trans h1, (hb.cell (p := ⟨ad.block, ad.off + 2, none⟩) ha).trans h2⟩

/-- The lengths of the parts are what Go's are. -/
def Fit (os : List Ob) : Prop := ∀ o ∈ os, o.zs.length ≤ maxLen ∧ o.s.size ≤ maxLen
def oneSz (o : Ob) : Nat := o.zs.length + o.s.size
def partSz (os : List Ob) (k : Nat) : Nat := ((os.take k).map oneSz).sum
def allSz (os : List Ob) : Nat := os.length + partSz os os.length
theorem partSz_succ {os : List Ob} {k : Nat} (hk : k < os.length) : partSz os (k + 1) = partSz os k + oneSz os[k] := by
  unfold partSz
  rw [List.take_succ_eq_append_getElem hk, List.map_append, List.sum_append]
  simp

theorem partSz_ge {os : List Ob} {i : Nat} (hi : i < os.length) : ∀ k, i < k → k ≤ os.length → oneSz os[i] ≤ partSz os k := by
  intro k
  induction k with
  | zero => intro h; omega
  | succ k ih =>
    intro h1 h2
    rw [partSz_succ (by omega)]
    by_cases e : i = k
    · subst e; omega
    · have := ih (by omega) (by omega)
      omega
theorem allSz_fits {os : List Ob} {m : Nat} (h : allSz os ≤ m) : os.length ≤ m ∧ ∀ o ∈ os, o.zs.length ≤ m ∧ o.s.size ≤ m := by
  unfold allSz at h
  refine ⟨by omega, fun o ho => ?_⟩
  obtain ⟨i, hi, rfl⟩ := List.mem_iff_getElem.1 ho
  have := partSz_ge hi os.length hi (Nat.le_refl _)
  unfold oneSz at this
  omega

/-- The sizes: all fit, or not. -/
def Sized (tot : Nat) (left : Int) (w : World) (e : Ending) (w' : World) : Prop := ∃ r : Int, e = .returned (.int .i64 r) ∧ (r = -1 ∨ (0 ≤ r ∧ r = left - tot)) ∧ Below w.heap.size w w'

set_option maxHeartbeats 2000000 in
theorem szObjectS_any (A : Option Addr) (c : Nat) (os : List Ob) (left : Int) (w : World) (h : Objs w w.heap.size A os) (hf : Fit os) (hn : os.length ≤ maxLen) (h0 : 0 ≤ left) (h1 : left ≤ 1048576) :
    Calls Try.prog 30 #[.slice A os.length c, .int .i64 left] w (Sized (allSz os) left w) := by
  unfold maxLen at hn
  by_cases h2 : left < os.length
  · go_enter Try.func30, Try.ntmps30
    go_wp2
    go_ret
    exact ⟨-1, rfl, .inl rfl, Below.refl _ _⟩
  · go_enter Try.func30, Try.ntmps30
    go_wp2_with fail
    go_loopw [1, 5] (fun l i wr => ∃ k : Nat, k ≤ os.length ∧ i = .int .i64 k ∧ l = .int .i64 (left - os.length - partSz os k) ∧ 0 ≤ left - os.length - partSz os k ∧ Below w.heap.size w wr) (fun _ i _ => os.length - (intOf i).toNat)
    case atStart => exact ⟨0, Nat.zero_le _, rfl, by simp [partSz], by simp [partSz]; omega, Below.refl _ _⟩
    case round =>
      obtain ⟨k, hk, rfl, rfl, hp, hb⟩ := hrel
      by_cases hlt : k < os.length
      · obtain ⟨ad, A', c', rfl, _, g0, g1, g2, g3⟩ := (h.below hb (Nat.le_refl _)).at_ hlt
        go_wp2_with fail
        have hfk := hf os[k] (List.getElem_mem hlt)
        have hsucc := hid (partSz_succ hlt)
        by_cases hov : left - os.length - partSz os k < os[k].zs.length + os[k].s.size
        · refine (szObject_no A' _ c' _ _ _ _ hfk.1 hfk.2 hp (by omega) (by omega)).mono ?_
          rintro e w1 ⟨rfl, hb1⟩
          go_wp2
          go_ret
          exact ⟨-1, rfl, .inl rfl, hb.trans (hb1.mono hb.size)⟩
        · refine (szObject_yes A' _ c' _ _ _ _ hfk.1 hfk.2 hp (by omega) (by omega)).mono ?_
          rintro e w1 ⟨rfl, hb1⟩
          go_wp2
          go_roundw
          case rel => exact ⟨k + 1, by omega, by go_num, by rw [hsucc.out]; unfold oneSz; congr 1; omega, by rw [hsucc.out]; unfold oneSz; omega, hb.trans (hb1.mono hb.size)⟩
          case measure => simp [intOf]; omega
      · have hk' : k = os.length := by omega
        subst hk'
        go_wp2
        go_ret
        exact ⟨_, rfl, .inr ⟨hp, by unfold allSz; omega⟩, hb⟩
end Go.Proofs.Ytkekbobnbipmoaa
