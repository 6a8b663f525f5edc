/-
  Walks: lists of objects copied and compared by the law's own helpers.
-/
import Derived.Test.YtkekbobnbipmoaaObs
import Derived.Deep.RegionHeld3
namespace Go.Proofs.Ytkekbobnbipmoaa
open Go.RowKit Wo Pu

theorem info_ob : (Try.prog.info? 42).map (fun i => (i.zero, i.size, i.bytes)) = some (some (.agg #[.int .i64 0, .slice none 0 0, .string ⟨#[]⟩]), 3, 48) := by kernel_rfl

/-- Among the cells xs the j-th object is o; its links are a slice of the call's own. -/
def ObIn (w : World) (B : Nat) (xs : List Value) (j : Nat) (o : Ob) : Prop :=
  ∃ g, xs[j * 3]? = some (.int .i64 o.kd) ∧ xs[j * 3 + 1]? = some (.slice (some ⟨g, 0, none⟩) o.zs.length o.zs.length) ∧ xs[j * 3 + 2]? = some (.string o.s) ∧ Mine w B 3 1 g o.zs.length (ints o.zs)

theorem Mine.type_ne {w : World} {B B' g g' n n' : Nat} {e e' : TypeId} {sz sz' : Nat} {xs xs' : List Value} (h : Mine w B e sz g n xs) (h' : Mine w B' e' sz' g' n' xs') (he : e ≠ e') : g ≠ g' := by
  intro hg
  subst hg
  rcases h.2 with ⟨h1, _⟩ | ⟨k, _, cur, hv, _, hh, _⟩
  · cases h1
  · rcases h'.2 with ⟨h1, _⟩ | ⟨k', _, cur', hv', _, hh', _⟩
    · cases h1
    · have e1 : k = g := by injection hv with e1; injection e1 with e1; injection e1 with e1; exact e1.symm
      have e2 : k' = g := by injection hv' with e1; injection e1 with e1; injection e1 with e1; exact e1.symm
      subst e1
      subst e2
      rw [hh] at hh'
      injection hh' with h3
      injection h3 with _ h3
      exact he h3

/-- The new list so far: n places in block g, the first k filled with the first of os. -/
def Filled (w : World) (B g : Nat) (os : List Ob) (k : Nat) : Prop := ∃ xs, Mine w B 42 3 g os.length xs ∧ ∀ j (hj : j < os.length), j < k → ObIn w B xs j os[j]

theorem Filled.below {w w' : World} {B g k : Nat} {os : List Ob} (h : Filled w B g os k) (hb : Below w.heap.size w w') : Filled w' B g os k := by
  obtain ⟨xs, hm, hx⟩ := h
  refine ⟨xs, hm.below hb hm.lt.2, fun j hj hjk => ?_⟩
  obtain ⟨g', h0, h1, h2, h3⟩ := hx j hj hjk
  exact ⟨g', h0, h1, h2, h3.below hb h3.lt.2⟩

theorem Filled.cells3 {w : World} {B g k k' : Nat} {os : List Ob} (h : Filled w B g os k') (hk : k < os.length) :
    (∃ v, w.cell? ⟨g, k * 3, none⟩ = some v) ∧ (∃ v, w.cell? ⟨g, k * 3 + 1, none⟩ = some v) ∧ (∃ v, w.cell? ⟨g, k * 3 + 2, none⟩ = some v) ∧ ∀ o, w.frozen? ⟨g, o, none⟩ = false := by
  obtain ⟨xs, hm, _⟩ := h
  have hlen := hm.len
  have rd : ∀ j, j < os.length * 3 → ∃ v, w.cell? ⟨g, j, none⟩ = some v := fun j hj =>
    ⟨_, (World.ownsRow.cellAt hm j hj).trans (List.getElem?_eq_getElem (by omega))⟩
  exact ⟨rd _ (by omega), rd _ (by omega), rd _ (by omega), fun o => World.ownsRow.frozenAt hm o⟩
theorem Filled.step {w : World} {B g k g' : Nat} {os : List Ob} (h : Filled w B g os k) (hk : k < os.length) (hl : Mine w B 3 1 g' os[k].zs.length (ints os[k].zs)) :
    Filled (((w.setCell ⟨g, k * 3, none⟩ (.int .i64 os[k].kd)).setCell ⟨g, k * 3 + 1, none⟩ (.slice (some ⟨g', 0, none⟩) os[k].zs.length os[k].zs.length)).setCell ⟨g, k * 3 + 2, none⟩ (.string os[k].s)) B g os (k + 1) := by
  obtain ⟨xs, hm, hx⟩ := h
  have hlen := hm.len
  have hlt : k * 3 + 2 < xs.length := by omega
  refine ⟨((xs.set (k * 3) (.int .i64 os[k].kd)).set (k * 3 + 1) (.slice (some ⟨g', 0, none⟩) os[k].zs.length os[k].zs.length)).set (k * 3 + 2) (.string os[k].s), ((hm.set_ _ _).set_ _ _).set_ _ _, fun j hj hjk => ?_⟩
  have far : ∀ {n g2 : Nat} {ys : List Value}, Mine w B 3 1 g2 n ys → Mine (((w.setCell ⟨g, k * 3, none⟩ (.int .i64 os[k].kd)).setCell ⟨g, k * 3 + 1, none⟩ (.slice (some ⟨g', 0, none⟩) os[k].zs.length os[k].zs.length)).setCell ⟨g, k * 3 + 2, none⟩ (.string os[k].s)) B 3 1 g2 n ys := fun {n g2 ys} h2 => by
    have hne := h2.type_ne hm (by decide)
    exact ((h2.far hne _).far hne _).far hne _
  by_cases e : j = k
  · subst e
    refine ⟨g', ?_, ?_, ?_, far hl⟩ <;> simp [List.getElem?_set] <;> omega
  · obtain ⟨g2, h0, h1, h2, h3⟩ := hx j hj (by omega)
    have t : ∀ d, d < 3 → (((xs.set (k * 3) (.int .i64 os[k].kd)).set (k * 3 + 1) (.slice (some ⟨g', 0, none⟩) os[k].zs.length os[k].zs.length)).set (k * 3 + 2) (.string os[k].s))[j * 3 + d]? = xs[j * 3 + d]? := fun d hd => by
      rw [List.getElem?_set_ne (by omega), List.getElem?_set_ne (by omega), List.getElem?_set_ne (by omega)]
    exact ⟨g2, by rw [show j * 3 = j * 3 + 0 from rfl, t 0 (by omega)]; exact h0, by rw [t 1 (by omega)]; exact h1, by rw [t 2 (by omega)]; exact h2, far h3⟩

theorem add_lit (g j : Nat) : (⟨g, 0, none⟩ : Addr).add j = ⟨g, j, none⟩ := by
  unfold Addr.add
  split
  · rename_i h; subst h; rfl
  · simp
theorem Filled.objs {w : World} {B g : Nat} {os : List Ob} (h : Filled w B g os os.length) : Objs w w.heap.size (some ⟨g, 0, none⟩) os := by
  obtain ⟨xs, hm, hx⟩ := h
  have hlen := hm.len
  refine .inr ⟨_, rfl, hm.lt.2, fun i hi => ?_⟩
  obtain ⟨g', h0, h1, h2, h3⟩ := hx i hi hi
  have rd : ∀ d, d < 3 → w.cell? ⟨g, i * 3 + d, none⟩ = xs[i * 3 + d]? := fun d hd => World.ownsRow.cellAt hm _ (by omega)
  have e : ∀ d, (((⟨g, 0, none⟩ : Addr).add (i * 3)).add d) = ⟨g, i * 3 + d, none⟩ := fun d => by
    rw [add_lit]
    unfold Addr.add
    split
    · rename_i h; subst h; rfl
    · rfl
  refine ⟨some ⟨g', 0, none⟩, os[i].zs.length, ?_, ?_, ?_, h3.row⟩
  · rw [add_lit]; exact (rd 0 (by omega)).trans h0
  · rw [e]; exact (rd 1 (by omega)).trans h1
  · rw [e]; exact (rd 2 (by omega)).trans h2

/-- Behind it: a new list of objects. -/
def NewObs (os : List Ob) (w : World) (e : Ending) (w' : World) : Prop := ∃ g, e = .returned (.slice (some ⟨g, 0, none⟩) os.length os.length) ∧ Filled w' w.heap.size g os os.length ∧ Below w.heap.size w w'

set_option maxHeartbeats 2000000 in
theorem toObjectS_any (A : Option Addr) (c : Nat) (os : List Ob) (w : World) (h : Objs w w.heap.size A os) (hn : os.length ≤ 1048576) (hs : ∀ o ∈ os, o.zs.length ≤ 1048576) :
    Calls Try.prog 31 #[.slice A os.length c] w (NewObs os w) := by
  obtain ⟨i0, hi, hz0, hz1, hz2⟩ := info_of info_ob
  go_enter Try.func31, Try.ntmps31
  go_wp2_with (at_make; go_must (refine wpList_make_full _ rfl (.tmp 6) (.tmp 6) 23 rfl w.heap.size 42 i0 (.agg #[.int .i64 0, .slice none 0 0, .string ⟨#[]⟩]) 3 Try.underlying23 hi hz0 hz1 .i64 .i64 os.length os.length os.length rfl rfl rfl rfl (by rw [hz2]; omega) (by unfold maxLen; omega) (Nat.le_refl _) ?_); intro w1 hown hg)
  have hb1 : Below w.heap.size w w1 := (Below.refl _ _).grown hg (Nat.le_refl _) (by simp)
  have f1 : Filled w1 w.heap.size w.heap.size os 0 := ⟨_, hown, fun j _ hj => absurd hj (by omega)⟩
  clear hown hg
  go_loopw [4] (fun i wr => ∃ k : Nat, k ≤ os.length ∧ i = .int .i64 k ∧ Filled wr w.heap.size w.heap.size os k ∧ Below w.heap.size w wr) (fun i _ => os.length - (intOf i).toNat)
  case atStart => exact ⟨0, Nat.zero_le _, rfl, f1, hb1⟩
  case round =>
    clear f1 hb1
    obtain ⟨k, hk, rfl, hf, hb⟩ := hrel
    by_cases hlt : k < os.length
    · obtain ⟨ad, A', c', rfl, _, g0, g1, g2, g3⟩ := (h.below hb (Nat.le_refl _)).at_ hlt
      have hz := hb.size
      go_wp2_with fail
      refine (toObject_any w.heap.size A' c' os[k].kd os[k].zs os[k].s _ g3 hb.size (hs _ (List.getElem_mem hlt))).mono ?_
      rintro e w2 ⟨g', rfl, hl, hb2⟩
      unfold ob
      have hf2 := hf.below hb2
      have hb3 := hb.trans (hb2.mono hb.size)
      have hl2 := hl.base hz
      clear hf hb2 hl g0 g1 g2 g3
      obtain ⟨q0, q1, q2, qf⟩ := hf2.cells3 hlt
      have qf0 := qf (k * 3)
      have qf1 := qf (k * 3 + 1)
      have qf2 := qf (k * 3 + 2)
      clear qf
      obtain ⟨y0, q0⟩ := q0
      obtain ⟨y1, q1⟩ := q1
      obtain ⟨y2, q2⟩ := q2
      go_wp2_with fail
      go_roundw
      case rel => exact ⟨k + 1, by omega, by go_num, hf2.step hlt hl2, ((hb3.setCell (Nat.le_refl _) _).setCell (Nat.le_refl _) _).setCell (Nat.le_refl _) _⟩
      case measure => simp [intOf]; omega
    · have hk' : k = os.length := by omega
      subst hk'
      go_wp2
      go_ret
      exact ⟨_, rfl, hf, hb⟩

/-- The three cells of an object in a list. -/
theorem Objs.drew {w : World} {B : Nat} {A : Option Addr} {os : List Ob} (h : Objs w B A os) : Objs w.drew B A os := h.below (Below.refl B w).drew (Nat.le_refl _)

set_option maxHeartbeats 2000000 in
theorem eqObjectS_same (A A2 : Option Addr) (c c2 : Nat) (os : List Ob) (w : World) (h : Objs w w.heap.size A os) (h2 : Objs w w.heap.size A2 os) (hn : os.length ≤ 1048576) (hs : ∀ o ∈ os, o.zs.length ≤ 1048576) :
    Calls Try.prog 25 #[.slice A os.length c, .slice A2 os.length c2] w (Ret (.bool true) w) := by
  go_enter Try.func25, Try.ntmps25
  go_wp2
  go_loopw [5] (fun i wr => ∃ k : Nat, k ≤ os.length ∧ i = .int .i64 k ∧ Below w.heap.size w wr) (fun i _ => os.length - (intOf i).toNat)
  case atStart => exact ⟨0, Nat.zero_le _, rfl, Below.refl _ _⟩
  case round =>
    obtain ⟨k, hk, rfl, hb⟩ := hrel
    by_cases hlt : k < os.length
    · obtain ⟨ad, A', c', rfl, ha1, g0, g1, g2, g3⟩ := ((h.below hb (Nat.le_refl _)).drew).at_ hlt
      obtain ⟨ad2, A2', c2', rfl, ha2, g20, g21, g22, g23⟩ := ((h2.below hb (Nat.le_refl _)).drew).at_ hlt
      have hmk : os[k].zs.length ≤ maxLen := by have := hs _ (List.getElem_mem hlt); unfold maxLen; omega
      have hbd := hb.drew
      have k0 : 0 ≤ (k : Int) := by omega
      have k1 : (k : Int) < (os.length : Int) := by omega
      simp only [World.cell?_drew] at g0 g1 g2 g20 g21 g22
      go_wp2_with fail
      go_region_held3 (fun w' => w'.cell? (ad.add (k * 3)) = some (.int .i64 os[k].kd) ∧ w'.cell? ⟨(ad.add (k * 3)).block, (ad.add (k * 3)).off + 1, none⟩ = some (.slice A' os[k].zs.length c') ∧ w'.cell? ⟨(ad.add (k * 3)).block, (ad.add (k * 3)).off + 2, none⟩ = some (.string os[k].s) ∧ w'.cell? (ad2.add (k * 3)) = some (.int .i64 os[k].kd) ∧ w'.cell? ⟨(ad2.add (k * 3)).block, (ad2.add (k * 3)).off + 1, none⟩ = some (.slice A2' os[k].zs.length c2') ∧ w'.cell? ⟨(ad2.add (k * 3)).block, (ad2.add (k * 3)).off + 2, none⟩ = some (.string os[k].s))
        (go_keep)
        (first
          | (go_at_call 55; go_must (refine (eqObject_same _ _ A' A2' c' c2' os[k].kd os[k].zs os[k].s _ g3 g23 hbd.size hbd.size hmk).mono ?_); rintro e w7 ⟨rfl, hb7⟩; have hw7 := hbd.trans (hb7.mono hbd.size); obtain ⟨m0, m1, m2⟩ := three_later hb7 (by rw [add_block]; exact Nat.lt_of_lt_of_le ha1 hbd.size) g0 g1 g2; obtain ⟨m3, m4, m5⟩ := three_later hb7 (by rw [add_block]; exact Nat.lt_of_lt_of_le ha2 hbd.size) g20 g21 g22))
      go_wp2
      go_roundw
      case rel => exact ⟨k + 1, by omega, by go_num, hw7⟩
      case measure => simp [intOf]; omega
    · have hk' : k = os.length := by omega
      subst hk'
      go_wp2
      go_ret
      exact .mk_ hb
end Go.Proofs.Ytkekbobnbipmoaa
