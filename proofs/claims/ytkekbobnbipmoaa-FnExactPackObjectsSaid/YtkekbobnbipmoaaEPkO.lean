/-
  Walk: the text of a mark.
  Lists of objects that a call has made, whose links lie in blocks of their own.
  Walks: marks written into lists of objects whose links lie apart, and read again.
  Walks: marks in lists of objects read again.
  Walks: marks written into a copy of the law's own, of any size; only where they lie is told.
  Walk: the program's PackObjects; the links of its answer lie apart.
  Walk of the exact law on PackObjects.
-/
import Derived.Test.YtkekbobnbipmoaaMark
import Derived.Test.YtkekbobnbipmoaaOwnObs
import Derived.Test.YtkekbobnbipmoaaOwnEnt
import Derived.Test.YtkekbobnbipmoaaMarks
import Derived.BigQuiet
import Derived.Test.YtkekbobnbipmoaaToEnt
import Derived.Test.YtkekbobnbipmoaaPackO
import Derived.Test.YtkekbobnbipmoaaPackR
namespace Go.Proofs.Ytkekbobnbipmoaa
open Go.RowKit Wo Pu

def dig (m : Nat) : UInt8 := UInt8.ofNat (48 + m % 10)
/-- The digits of m ahead of s. -/
def mtx : Nat → Nat → ByteArray → ByteArray
  | 0, _, s => s
  | f + 1, m, s => if m = 0 then s else mtx f (m / 10) (⟨#[dig m]⟩ ++ s)
theorem mtx_zero (f : Nat) (s : ByteArray) : mtx f 0 s = s := by
  cases f with
  | zero => rfl
  | succ f => rw [mtx, if_pos rfl]
theorem mtx_succ {f m : Nat} (s : ByteArray) (h : ¬ m = 0) : mtx (f + 1) m s = mtx f (m / 10) (⟨#[dig m]⟩ ++ s) := by rw [mtx, if_neg h]
def mtext (k : Nat) : ByteArray := (⟨#[109]⟩ : ByteArray) ++ mtx k k ⟨#[]⟩
theorem conv_dig (w : World) (m : Nat) : (convert 22 9 (.slice (some ⟨w.heap.size, 0, none⟩) 1 1)).run Try.prog (w.alloc (.cells #[.int .u8 (48 + (m : Int) % 10)] 5)) = .ok (.string ⟨#[dig m]⟩) (w.alloc (.cells #[.int .u8 (48 + (m : Int) % 10)] 5)) := by
  have e : 48 + (m : Int) % 10 = ((dig m).toNat : Int) := by
    unfold dig
    rw [UInt8.toNat_ofNat']
    omega
  rw [e]
  refine run_convert_bytes_back (P := Try.prog) (w.alloc (.cells #[.int .u8 ((dig m).toNat : Int)] 5)) 22 9 5 ⟨w.heap.size, 0, none⟩ 1 [dig m] Try.underlying22 Try.underlying5 Try.underlying9 ?_
  intro j hj
  simp only [List.length_cons, List.length_nil] at hj
  obtain rfl : j = 0 := by omega
  rw [add_zero]
  simp [go_sem]

set_option maxHeartbeats 1000000 in
theorem markText_is (k : Nat) (w : World) (h0 : 1 ≤ k) (h1 : k ≤ 100000) :
    Calls Try.prog 59 #[.int .i64 k] w (Ret (.string (mtext k)) w) := by
  go_enter Try.func59, Try.ntmps59
  go_wp2_with fail
  go_loopw [0, 3] (fun n t wr => ∃ (m f : Nat) (s : ByteArray), n = .int .i64 m ∧ t = .string s ∧ s.size + m ≤ k ∧ m ≤ f ∧ Hid (mtx k k ⟨#[]⟩ = mtx f m s) ∧ Below w.heap.size w wr) (fun n _ _ => (intOf n).toNat)
  case atStart => exact ⟨k, k, ⟨#[]⟩, rfl, rfl, by show 0 + k ≤ k; omega, Nat.le_refl _, rfl, Below.refl _ _⟩
  case round =>
    obtain ⟨m, f, s, rfl, rfl, hs, hf, HM, hb⟩ := hrel
    by_cases hlt : 0 < m
    · obtain ⟨f, rfl⟩ : ∃ f', f = f' + 1 := ⟨f - 1, by omega⟩
      have hcv := conv_dig wr m
      have H2 := hid ((HM.out).trans (mtx_succ s (by omega)))
      clear HM
      go_wp2_with fail
      go_roundw
      case rel =>
        refine ⟨m / 10, f, _, by congr 1, rfl, ?_, by omega, H2, hb.alloc hb.size _⟩
        rw [ByteArray.size_append]
        show 1 + s.size + _ ≤ k
        omega
      case measure => simp [intOf]; omega
    · have hm : m = 0 := by omega
      subst hm
      have H2 : Hid ((⟨#[109]⟩ : ByteArray) ++ s = mtext k) := by show _ = _; unfold mtext; rw [HM.out, mtx_zero]
      clear HM
      go_wp2
      go_ret
      rw [← H2.out]
      exact .mk_ hb
theorem markText_at (x : Int) (k : Nat) (w : World) (hx : x = k) (h0 : 1 ≤ k) (h1 : k ≤ 100000) :
    Calls Try.prog 59 #[.int .i64 x] w (Ret (.string (mtext k)) w) := by
  subst hx; exact markText_is k w h0 h1
end Go.Proofs.Ytkekbobnbipmoaa
namespace Go.Proofs.Ytkekbobnbipmoaa
open Go.RowKit Wo Pu

/-- The links of the first n objects lie apart. -/
def Apt (xs : List Value) (n : Nat) : Prop := ∀ i j v u, i < n → j < n → i ≠ j → xs[i * 3 + 1]? = some v → xs[j * 3 + 1]? = some u → Ap2 v u
/-- The links of the first n objects lie below block N. -/
def Bel (xs : List Value) (n N : Nat) : Prop := ∀ i v g, i < n → xs[i * 3 + 1]? = some v → v.ownBlock = some g → g < N
/-- The slice v, of the call's own, holds the objects os; their links lie apart. -/
def OwnObsF (w : World) (B : Nat) (v : Value) (os : List Ob) : Prop :=
  ∃ xs, w.ownsRow B 42 3 v os.length xs ∧ (∀ j (hj : j < os.length), ObIs w B xs j os[j]) ∧ Apt xs os.length
/-- The same; the links lie below block N. -/
def OwnObsN (w : World) (B N : Nat) (v : Value) (os : List Ob) : Prop :=
  ∃ xs, w.ownsRow B 42 3 v os.length xs ∧ (∀ j (hj : j < os.length), ObIs w B xs j os[j]) ∧ Apt xs os.length ∧ Bel xs os.length N
theorem OwnObsN.toF {w : World} {B N : Nat} {v : Value} {os : List Ob} (h : OwnObsN w B N v os) : OwnObsF w B v os := by
  obtain ⟨xs, h1, h2, h3, _⟩ := h
  exact ⟨xs, h1, h2, h3⟩
theorem OwnObsF.own {w : World} {B : Nat} {v : Value} {os : List Ob} (h : OwnObsF w B v os) : OwnObs w B v os := by
  obtain ⟨xs, h1, h2, _⟩ := h
  exact ⟨xs, h1, h2⟩
theorem OwnObsF.below {w w' : World} {B : Nat} {v : Value} {os : List Ob} (h : OwnObsF w B v os) (hb : Below w.heap.size w w') : OwnObsF w' B v os := by
  obtain ⟨xs, h1, h2, h3⟩ := h
  refine ⟨xs, own_below h1 hb (Nat.le_refl _), fun j hj => ?_, h3⟩
  obtain ⟨A, c, q0, q1, q2, q3⟩ := h2 j hj
  exact ⟨A, c, q0, q1, q2, q3.below hb (Nat.le_refl _)⟩
theorem OwnObsN.below {w w' : World} {B N : Nat} {v : Value} {os : List Ob} (h : OwnObsN w B N v os) (hb : Below w.heap.size w w') : OwnObsN w' B N v os := by
  obtain ⟨xs, h1, h2, h3, h4⟩ := h
  refine ⟨xs, own_below h1 hb (Nat.le_refl _), fun j hj => ?_, h3, h4⟩
  obtain ⟨A, c, q0, q1, q2, q3⟩ := h2 j hj
  exact ⟨A, c, q0, q1, q2, q3.below hb (Nat.le_refl _)⟩
theorem row_base {w : World} {B B' n sz : Nat} {e : TypeId} {v : Value} {xs : List Value} (h : w.ownsRow B e sz v n xs) (hB : B' ≤ B) : w.ownsRow B' e sz v n xs := by
  obtain ⟨h1, h2⟩ := h
  refine ⟨h1, ?_⟩
  rcases h2 with h2 | ⟨g', cap, cur, hv, hb, hr⟩
  · exact .inl h2
  · exact .inr ⟨g', cap, cur, hv, by omega, hr⟩
theorem OwnObsF.base {w : World} {B B' : Nat} {v : Value} {os : List Ob} (h : OwnObsF w B v os) (hB : B' ≤ B) : OwnObsF w B' v os := by
  obtain ⟨xs, h1, h2, h3⟩ := h
  refine ⟨xs, row_base h1 hB, fun j hj => ?_, h3⟩
  obtain ⟨A, c, q0, q1, q2, q3⟩ := h2 j hj
  exact ⟨A, c, q0, q1, q2, q3.base hB⟩
theorem OwnObsF.nil_new {w : World} {B : Nat} (hB : B ≤ w.heap.size) : OwnObsF (w.alloc (.cells #[] 42)) B (.slice (some ⟨w.heap.size, 0, none⟩) 0 0) [] :=
  ⟨[], nil_own hB _ _, (fun j hj => by simp at hj), fun i _ _ _ hi => absurd hi (by simp)⟩
theorem Own.bel {w : World} {B : Nat} {v : Value} {zs : List Int} (h : Own w B v zs) : ∀ g, v.ownBlock = some g → B ≤ g ∧ g < w.heap.size := World.ownsRow.lt h
/-- One object laid in between. -/
theorem laid_link {ys : List Value} {n r j : Nat} {a V b : Value} (hl : ys.length = n * 3) (hr : r ≤ n) : (ys.take (r * 3) ++ [a, V, b] ++ ys.drop (r * 3))[j * 3 + 1]? = if j < r then ys[j * 3 + 1]? else if j = r then some V else ys[(j - 1) * 3 + 1]? := by
  have hyl : (ys.take (r * 3)).length = r * 3 := by rw [List.length_take]; omega
  by_cases e : j < r
  · rw [if_pos e, List.append_assoc, List.getElem?_append_left (by omega), List.getElem?_take, if_pos (by omega)]
  · rw [if_neg e]
    by_cases e2 : j = r
    · subst e2
      rw [if_pos rfl, List.append_assoc, List.getElem?_append_right (by omega), hyl, show j * 3 + 1 - j * 3 = 1 from by omega]
      rfl
    · rw [if_neg e2, List.getElem?_append_right (by simp only [List.length_append, hyl, List.length_cons, List.length_nil]; omega), List.getElem?_drop]
      congr 1
      simp only [List.length_append, hyl, List.length_cons, List.length_nil]
      omega
theorem Apt.laid {ys : List Value} {n N r : Nat} {a V b : Value} (h : Apt ys n) (hb : Bel ys n N) (hl : ys.length = n * 3) (hr : r ≤ n) (hV : ∀ g, V.ownBlock = some g → N ≤ g) : Apt (ys.take (r * 3) ++ [a, V, b] ++ ys.drop (r * 3)) (n + 1) := by
  intro i j v u hi hj hij hv hu
  rw [laid_link hl hr] at hv hu
  have new : ∀ k x, k < n → ys[k * 3 + 1]? = some x → Ap2 x V := fun k x hk hx g h1 h2 => by
    have := hb k x g hk hx h1
    have := hV g h2
    omega
  by_cases i1 : i < r
  · rw [if_pos i1] at hv
    by_cases j1 : j < r
    · rw [if_pos j1] at hu
      exact h i j v u (by omega) (by omega) hij hv hu
    · rw [if_neg j1] at hu
      by_cases j2 : j = r
      · rw [if_pos j2] at hu
        injection hu with hu
        subst hu
        exact new i v (by omega) hv
      · rw [if_neg j2] at hu
        exact h i (j - 1) v u (by omega) (by omega) (by omega) hv hu
  · rw [if_neg i1] at hv
    by_cases i2 : i = r
    · rw [if_pos i2] at hv
      injection hv with hv
      subst hv
      by_cases j1 : j < r
      · rw [if_pos j1] at hu
        exact (new j u (by omega) hu).symm
      · rw [if_neg j1, if_neg (by omega)] at hu
        exact (new (j - 1) u (by omega) hu).symm
    · rw [if_neg i2] at hv
      by_cases j1 : j < r
      · rw [if_pos j1] at hu
        exact h (i - 1) j v u (by omega) (by omega) (by omega) hv hu
      · rw [if_neg j1] at hu
        by_cases j2 : j = r
        · rw [if_pos j2] at hu
          injection hu with hu
          subst hu
          exact new (i - 1) v (by omega) hv
        · rw [if_neg j2] at hu
          exact h (i - 1) (j - 1) v u (by omega) (by omega) (by omega) hv hu
end Go.Proofs.Ytkekbobnbipmoaa
namespace Go.Proofs.Ytkekbobnbipmoaa
open Go.RowKit Wo Pu

/-- The mark at which object m begins. -/
def kAt (os : List Ob) (m : Nat) : Nat := 1 + ((os.take m).map fun o => o.zs.length + 2).sum
theorem kAt_zero (os : List Ob) : kAt os 0 = 1 := rfl
theorem kAt_succ {os : List Ob} {m : Nat} (hm : m < os.length) : kAt os (m + 1) = kAt os m + (os[m].zs.length + 2) := by
  unfold kAt
  rw [List.take_succ_eq_append_getElem hm, List.map_append, List.sum_append]
  simp
  omega
theorem kAt_le {os : List Ob} (hs : ∀ o ∈ os, o.zs.length ≤ 8) : ∀ m, m ≤ os.length → kAt os m ≤ 1 + 10 * m := by
  intro m
  induction m with
  | zero => intro _; rw [kAt_zero]; omega
  | succ m ih =>
    intro h
    have := ih (by omega)
    have h2 := hs _ (List.getElem_mem (show m < os.length by omega))
    rw [kAt_succ (by omega)]
    omega
theorem kAt_pos (os : List Ob) (m : Nat) : 1 ≤ kAt os m := by unfold kAt; omega
/-- Object o with the marks from k on. -/
def mkAt (k : Nat) (o : Ob) : Ob := ⟨(k : Int), marks ((k : Int) + 1) o.zs.length, mtext (k + 1 + o.zs.length)⟩
def mkdO (os : List Ob) (j : Nat) (h : j < os.length) : Ob := mkAt (kAt os j) os[j]
def mkdOs (os : List Ob) : List Ob := (List.finRange os.length).map fun j => mkdO os j.1 j.2
theorem mkdOs_length (os : List Ob) : (mkdOs os).length = os.length := by simp [mkdOs]
theorem mkdOs_get {os : List Ob} {j : Nat} (h : j < os.length) : (mkdOs os)[j]'(by rw [mkdOs_length]; exact h) = mkdO os j h := by simp [mkdOs]

theorem Own.offR {w : World} {B g n c : Nat} {v : Value} {zs : List Int} {ys : List Value} (h : Own w B v zs) (hm : w.ownsRow B 42 3 (.slice (some ⟨g, 0, none⟩) n c) n ys) (j : Nat) (u : Value) : Own (w.setCell ⟨g, j, none⟩ u) B v zs := by
  refine World.ownsRow.kept h (World.ownsRow.stored hm j u).2 ?_
  rcases hu : v.ownBlock with _ | k
  · exact .inl rfl
  · refine .inr (fun e => ?_)
    injection e with e
    subst e
    rcases h.2 with ⟨rfl, _⟩ | ⟨g1, _, cur, rfl, _, hh, _⟩
    · cases hu
    · have hk : g1 = k := by simpa [Value.ownBlock] using hu
      subst hk
      rcases hm.2 with ⟨h1, _⟩ | ⟨g2, _, cur2, hv2, _, hh2, _⟩
      · cases h1
      · have hk : g2 = g1 := by injection hv2 with e1; injection e1 with e1; injection e1 with e1; exact e1.symm
        subst hk
        rw [hh] at hh2
        injection hh2 with h3
        injection h3 with _ h3
        exact absurd h3 (by decide)
theorem Own.neR {w : World} {B g n c : Nat} {v : Value} {zs : List Int} {ys : List Value} (h : Own w B v zs) (hm : w.ownsRow B 42 3 (.slice (some ⟨g, 0, none⟩) n c) n ys) : v.ownBlock ≠ some g := by
  intro hu
  rcases h.2 with ⟨rfl, _⟩ | ⟨g1, _, cur, rfl, _, hh, _⟩
  · cases hu
  · have hk : g1 = g := by simpa [Value.ownBlock] using hu
    subst hk
    rcases hm.2 with ⟨h1, _⟩ | ⟨g2, _, cur2, hv2, _, hh2, _⟩
    · cases h1
    · have hk : g2 = g1 := by injection hv2 with e1; injection e1 with e1; injection e1 with e1; exact e1.symm
      subst hk
      rw [hh] at hh2
      injection hh2 with h3
      injection h3 with _ h3
      exact absurd h3 (by decide)

/-- The list, the first m objects of it marked. -/
def MixO (w : World) (B g c : Nat) (os : List Ob) (m : Nat) : Prop :=
  ∃ xs, w.ownsRow B 42 3 (.slice (some ⟨g, 0, none⟩) os.length c) os.length xs ∧ (∀ j (hj : j < os.length), ObIs w B xs j (if j < m then mkdO os j hj else os[j])) ∧ Apt xs os.length
theorem MixO.below {w w' : World} {B g c m : Nat} {os : List Ob} (h : MixO w B g c os m) (hb : Below w.heap.size w w') : MixO w' B g c os m := by
  obtain ⟨xs, h1, h2, h3⟩ := h
  refine ⟨xs, own_below h1 hb (Nat.le_refl _), fun j hj => ?_, h3⟩
  obtain ⟨A, c, q0, q1, q2, q3⟩ := h2 j hj
  exact ⟨A, c, q0, q1, q2, q3.below hb (Nat.le_refl _)⟩
/-- In the midst of object m: its number and its links are marked, its text is not. -/
def MidO (w : World) (B g c : Nat) (os : List Ob) (m : Nat) : Prop :=
  ∃ xs, w.ownsRow B 42 3 (.slice (some ⟨g, 0, none⟩) os.length c) os.length xs ∧ (∀ j (hj : j < os.length), j ≠ m → ObIs w B xs j (if j < m then mkdO os j hj else os[j])) ∧
    (∀ hm : m < os.length, ∃ A c', xs[m * 3]? = some (.int .i64 (kAt os m : Nat)) ∧ xs[m * 3 + 1]? = some (.slice A os[m].zs.length c') ∧ Own w B (.slice A os[m].zs.length c') (marks ((kAt os m : Nat) + 1) os[m].zs.length)) ∧ Apt xs os.length
theorem MidO.below {w w' : World} {B g c m : Nat} {os : List Ob} (h : MidO w B g c os m) (hb : Below w.heap.size w w') : MidO w' B g c os m := by
  obtain ⟨xs, h1, h2, h3, h4⟩ := h
  refine ⟨xs, own_below h1 hb (Nat.le_refl _), fun j hj hne => ?_, fun hm => ?_, h4⟩
  · obtain ⟨A, c, q0, q1, q2, q3⟩ := h2 j hj hne
    exact ⟨A, c, q0, q1, q2, q3.below hb (Nat.le_refl _)⟩
  · obtain ⟨A, c, q0, q1, q2⟩ := h3 hm
    exact ⟨A, c, q0, q1, q2.below hb (Nat.le_refl _)⟩
theorem MidO.cell {w : World} {B g c m : Nat} {os : List Ob} (h : MidO w B g c os m) (hm : m < os.length) : (∃ v, w.cell? ⟨g, m * 3 + 2, none⟩ = some v) ∧ w.frozen? ⟨g, m * 3 + 2, none⟩ = false := by
  obtain ⟨xs, h1, _⟩ := h
  have hl := h1.1
  exact ⟨⟨_, (World.ownsRow.cellAt h1 (m * 3 + 2) (by omega)).trans (List.getElem?_eq_getElem (by omega))⟩, World.ownsRow.frozenAt h1 _⟩
theorem MidO.text {w : World} {B g c m : Nat} {os : List Ob} (h : MidO w B g c os m) (hm : m < os.length) (t : ByteArray) (ht : t = mtext (kAt os m + 1 + os[m].zs.length)) : MixO (w.setCell ⟨g, m * 3 + 2, none⟩ (.string t)) B g c os (m + 1) := by
  obtain ⟨xs, h1, h2, h3, h4⟩ := h
  have hl := h1.1
  have t1 : ∀ j d, j < os.length → d < 2 → (xs.set (m * 3 + 2) (.string t))[j * 3 + d]? = xs[j * 3 + d]? := fun j d hj hd => by rw [List.getElem?_set_ne (by omega)]
  refine ⟨xs.set (m * 3 + 2) (.string t), (World.ownsRow.stored h1 (m * 3 + 2) (.string t)).1, fun j hj => ?_, fun i j v u hi hj hij hv hu => ?_⟩
  · by_cases e : j = m
    · subst e
      obtain ⟨A, c', q0, q1, q3⟩ := h3 hj
      rw [if_pos (Nat.lt_succ_self _)]
      refine ⟨A, c', ?_, ?_, ?_, ?_⟩
      · rw [show j * 3 = j * 3 + 0 from rfl, t1 j 0 hj (by omega)]; exact q0
      · rw [t1 j 1 hj (by omega)]
        have e2 : (mkdO os j hj).zs.length = os[j].zs.length := marks_length _ _
        rw [e2]; exact q1
      · rw [List.getElem?_set_self (by omega), ht]; rfl
      · have e2 : (mkdO os j hj).zs.length = os[j].zs.length := marks_length _ _
        rw [e2]
        exact q3.offR h1 _ _
    · obtain ⟨A, c', q0, q1, q2, q3⟩ := h2 j hj e
      have e3 : (if j < m + 1 then mkdO os j hj else os[j]) = (if j < m then mkdO os j hj else os[j]) := by
        by_cases hjm : j < m
        · rw [if_pos hjm, if_pos (by omega)]
        · rw [if_neg hjm, if_neg (by omega)]
      rw [e3]
      refine ⟨A, c', ?_, ?_, ?_, q3.offR h1 _ _⟩
      · rw [show j * 3 = j * 3 + 0 from rfl, t1 j 0 hj (by omega)]; exact q0
      · rw [t1 j 1 hj (by omega)]; exact q1
      · rw [List.getElem?_set_ne (by omega)]; exact q2
  · rw [t1 i 1 hi (by omega)] at hv
    rw [t1 j 1 hj (by omega)] at hu
    exact h4 i j v u hi hj hij hv hu
/-- What the round at object m finds. -/
theorem MixO.begin_ {w : World} {B g c m : Nat} {os : List Ob} (h : MixO w B g c os m) (hm : m < os.length) : ∃ (A : Option Addr) (c' : Nat), (∃ v, w.cell? ⟨g, m * 3, none⟩ = some v) ∧ w.frozen? ⟨g, m * 3, none⟩ = false ∧ w.cell? ⟨g, m * 3 + 1, none⟩ = some (.slice A os[m].zs.length c') ∧
    Own (w.setCell ⟨g, m * 3, none⟩ (.int .i64 (kAt os m : Nat))) B (.slice A os[m].zs.length c') os[m].zs ∧
    ∀ w2, (w.setCell ⟨g, m * 3, none⟩ (.int .i64 (kAt os m : Nat))).grownBy w2 (Value.slice A os[m].zs.length c').ownBlock → Own w2 B (.slice A os[m].zs.length c') (marks ((kAt os m : Nat) + 1) os[m].zs.length) → MidO w2 B g c os m := by
  obtain ⟨xs, h1, h2, h3⟩ := h
  have hl := h1.1
  obtain ⟨A, c', q0, q1, q2, q3⟩ := h2 m hm
  rw [if_neg (Nat.lt_irrefl m)] at q0 q1 q2 q3
  have o1 := q3.offR h1 (m * 3) (.int .i64 (kAt os m : Nat))
  have s1 := (World.ownsRow.stored h1 (m * 3) (.int .i64 (kAt os m : Nat))).1
  refine ⟨A, c', ⟨_, (World.ownsRow.cellAt h1 (m * 3) (by omega)).trans (List.getElem?_eq_getElem (by omega))⟩, World.ownsRow.frozenAt h1 _, (World.ownsRow.cellAt h1 (m * 3 + 1) (by omega)).trans q1, o1, fun w2 hg hmk => ?_⟩
  have t1 : ∀ j d, j < os.length → 0 < d → d < 3 → (xs.set (m * 3) (.int .i64 (kAt os m : Nat)))[j * 3 + d]? = xs[j * 3 + d]? := fun j d hj hd hd2 => by rw [List.getElem?_set_ne (by omega)]
  refine ⟨xs.set (m * 3) (.int .i64 (kAt os m : Nat)), World.ownsRow.kept s1 hg (.inr (fun e => o1.neR s1 e.symm)), fun j hj hne => ?_, fun _ => ⟨A, c', ?_, ?_, hmk⟩, fun i j v u hi hj hij hv hu => ?_⟩
  · obtain ⟨A2, c2, r0, r1, r2, r3⟩ := h2 j hj
    have r4 := r3.offR h1 (m * 3) (.int .i64 (kAt os m : Nat))
    refine ⟨A2, c2, ?_, ?_, ?_, ?_⟩
    · rw [List.getElem?_set_ne (by omega)]; exact r0
    · rw [t1 j 1 hj (by omega) (by omega)]; exact r1
    · rw [t1 j 2 hj (by omega) (by omega)]; exact r2
    · have hap := h3 j m _ _ hj hm hne r1 q1
      refine World.ownsRow.kept r4 hg ?_
      rcases hu : (Value.slice A2 (if j < m then mkdO os j hj else os[j]).zs.length c2).ownBlock with _ | k
      · exact .inl rfl
      · exact .inr (fun e => hap k hu e.symm)
  · rw [List.getElem?_set_self (by omega)]
  · rw [t1 m 1 hm (by omega) (by omega)]; exact q1
  · rw [t1 i 1 hi (by omega) (by omega)] at hv
    rw [t1 j 1 hj (by omega) (by omega)] at hu
    exact h3 i j v u hi hj hij hv hu

set_option maxHeartbeats 2000000 in
theorem markObjectS_is (B g c : Nat) (os : List Ob) (w : World) (h : OwnObsF w B (.slice (some ⟨g, 0, none⟩) os.length c) os) (hB : B ≤ w.heap.size) (hn : os.length ≤ 16) (hs : ∀ o ∈ os, o.zs.length ≤ 8) :
    Calls Try.prog 28 #[.slice (some ⟨g, 0, none⟩) os.length c, .int .i64 1] w (fun e w' => e = .returned (.int .i64 (kAt os os.length : Nat)) ∧ MixO w' B g c os os.length ∧ Below B w w') := by
  have hm0 : MixO w B g c os 0 := by
    obtain ⟨xs, h1, h2, h3⟩ := h
    exact ⟨xs, h1, fun j hj => by rw [if_neg (Nat.not_lt_zero j)]; exact h2 j hj, h3⟩
  clear h
  have HS := hid hs
  go_enter Try.func28, Try.ntmps28
  go_wp2_with fail
  go_loopw [1, 5] (fun q i wr => ∃ m K : Nat, m ≤ os.length ∧ i = .int .i64 m ∧ q = .int .i64 (K : Nat) ∧ K ≤ 1000 ∧ Hid (K = kAt os m) ∧ MixO wr B g c os m ∧ Below B w wr) (fun _ i _ => os.length - (intOf i).toNat)
  case atStart => exact ⟨0, 1, Nat.zero_le _, rfl, rfl, by omega, rfl, hm0, Below.refl _ _⟩
  case round =>
    clear hm0 hs
    obtain ⟨m, K, hm, rfl, rfl, hK, HK, hl, hb⟩ := hrel
    by_cases hlt : m < os.length
    · have hk1 := kAt_succ hlt
      have hk2 := kAt_le HS.out (m + 1) (by omega)
      have hsm := HS.out _ (List.getElem_mem hlt)
      obtain ⟨A, c', ⟨v0, q0⟩, f0, q1, o1, hmid⟩ := hl.begin_ hlt
      rw [← HK.out] at hk1 o1 hmid
      have HK1 := hid hk1
      have HT : Hid (∀ t, t = mtext (K + 1 + os[m].zs.length) → t = mtext (kAt os m + 1 + os[m].zs.length)) := fun t ht => by rw [← HK.out]; exact ht
      obtain ⟨n, hnn⟩ : ∃ n, os[m].zs.length = n := ⟨_, rfl⟩
      have hzz : ∃ zs : List Int, os[m].zs = zs ∧ zs.length = n := ⟨_, rfl, hnn⟩
      obtain ⟨zs, hz1, hz2⟩ := hzz
      rw [hnn] at q1 o1 hmid hsm hk1
      rw [hz1] at o1
      have HMID := hid hmid
      have HNN := hid hnn
      have hz := hb.size
      have b1 := hb.setCell (p := ⟨g, m * 3, none⟩) (by obtain ⟨xs, hx, _⟩ := hl; exact (World.ownsRow.lt hx g rfl).1) (.int .i64 (K : Nat))
      have z1 : B ≤ (wr.setCell ⟨g, m * 3, none⟩ (.int .i64 (K : Nat))).heap.size := by simp [World.setCell]; omega
      clear hl hmid hz1 hnn hb
      have hcm := markInts_any B A c' zs ((K : Int) + 1) (wr.setCell ⟨g, m * 3, none⟩ (.int .i64 (K : Nat))) (by rw [hz2]; exact o1) (by omega) (by omega) (by omega)
      rw [hz2] at hcm
      have olt := World.ownsRow.lt o1
      clear o1
      go_wp2_with fail
      refine hcm.mono ?_
      rintro e w2 ⟨rfl, h2, h3⟩
      have hmd := HMID.out w2 h3 h2
      have b2 : Below B w w2 := b1.grown h3 z1 (fun k hk => (olt k hk).1)
      clear hcm h2 h3 b1 olt q0 q1 f0
      have z2 := Nat.le_trans hB b2.size
      go_wp2_with fail
      refine (markText_at _ (K + 1 + n) w2 (by omega) (by omega) (by omega)).mono ?_
      rintro e w3 ⟨rfl, b3⟩
      have hmd3 := hmd.below b3
      have b4 := b2.trans (b3.mono z2)
      obtain ⟨⟨v2, q2⟩, f2⟩ := hmd3.cell hlt
      have hmx := hmd3.text hlt (mtext (K + 1 + n)) (HT.out _ (by rw [HNN.out]))
      have b5 := b4.setCell (p := ⟨g, m * 3 + 2, none⟩) (by obtain ⟨xs, hx, _⟩ := hmd3; exact (World.ownsRow.lt hx g rfl).1) (.string (mtext (K + 1 + n)))
      have HK2 : Hid (K + 1 + n + 1 = kAt os (m + 1)) := by show _ = _; rw [HK1.out, HNN.out]; omega
      have hK2 : K + 1 + n + 1 ≤ 1000 := by rw [HK2.out]; omega
      clear hmd hmd3 b2 b3 b4 hk1 hk2
      go_wp2_with fail
      go_roundw
      case rel => exact ⟨m + 1, K + 1 + n + 1, by omega, by go_num, by go_num, hK2, HK2.out, hmx, b5⟩
      case measure => simp [intOf]; omega
    · have hm' : m = os.length := by omega
      subst hm'
      go_wp2
      go_ret
      have hKe := HK.out
      subst hKe
      exact ⟨rfl, hl, hb⟩
end Go.Proofs.Ytkekbobnbipmoaa
namespace Go.Proofs.Ytkekbobnbipmoaa
open Go.RowKit Wo Pu

theorem MixO.ownObs {w : World} {B g c : Nat} {os : List Ob} (h : MixO w B g c os os.length) : OwnObs w B (.slice (some ⟨g, 0, none⟩) (mkdOs os).length c) (mkdOs os) := by
  obtain ⟨xs, h1, h2, _⟩ := h
  refine ⟨xs, by rw [mkdOs_length]; exact h1, fun j hj => ?_⟩
  have hj' : j < os.length := by rw [mkdOs_length] at hj; exact hj
  rw [mkdOs_get hj']
  have := h2 j hj'
  rwa [if_pos hj'] at this
theorem MixO.objs {w : World} {B g c : Nat} {os : List Ob} (h : MixO w B g c os os.length) : Objs w w.heap.size (some ⟨g, 0, none⟩) (mkdOs os) := by
  obtain ⟨A, c', e, ho⟩ := h.ownObs.form
  injection e with e1 _ _
  subst e1
  exact ho
/-- Behind it: the list marked. -/
def MarkedO (B : Nat) (A : Option Addr) (os : List Ob) (w : World) (e : Ending) (w' : World) : Prop := e = .returned (.int .i64 (kAt os os.length : Nat)) ∧ Objs w' w'.heap.size A (mkdOs os) ∧ Below B w w'
theorem markObjectS_none (c : Nat) (A : Option Addr) (w : World) : Calls Try.prog 28 #[.slice A 0 c, .int .i64 1] w (Same (.int .i64 1) w) := by
  go_enter Try.func28, Try.ntmps28
  go_wp2_with fail
  go_loopw [1, 5] (fun q i wr => i = .int .i64 0 ∧ q = .int .i64 1 ∧ w = wr) (fun _ i _ => 0)
  case atStart => exact ⟨rfl, rfl, rfl⟩
  case round =>
    obtain ⟨rfl, rfl, rfl⟩ := hrel
    go_wp2
    go_ret
    exact ⟨rfl, rfl⟩
theorem markObjectS_own (B : Nat) (A : Option Addr) (c : Nat) (os : List Ob) (w : World) (h : OwnObsF w B (.slice A os.length c) os) (hB : B ≤ w.heap.size) (hn : os.length ≤ 16) (hs : ∀ o ∈ os, o.zs.length ≤ 8) :
    Calls Try.prog 28 #[.slice A os.length c, .int .i64 1] w (MarkedO B A os w) := by
  rcases Nat.eq_zero_or_pos os.length with h0 | h0
  · have e : os = [] := List.eq_nil_of_length_eq_zero h0
    subst e
    refine (markObjectS_none c A w).mono ?_
    rintro e w' ⟨rfl, rfl⟩
    exact ⟨rfl, .inl rfl, Below.refl _ _⟩
  · have h' := h
    obtain ⟨xs, h1, _⟩ := h'
    obtain ⟨g, cap, e, -, -⟩ := World.ownsRow.form h1 h0
    injection e with e1 _ e3
    subst e1
    refine (markObjectS_is B g c os w h hB hn hs).mono ?_
    rintro e w' ⟨rfl, h2, h3⟩
    exact ⟨rfl, h2.objs, h3⟩

set_option maxHeartbeats 4000000 in
theorem heldObjectS_is (A : Option Addr) (c : Nat) (os : List Ob) (w : World) (h : Objs w w.heap.size A (mkdOs os)) (hn : os.length ≤ 16) (hs : ∀ o ∈ os, o.zs.length ≤ 8) :
    Calls Try.prog 29 #[.slice A os.length c, .int .i64 1] w (Ret (.int .i64 (kAt os os.length : Nat)) w) := by
  have HS := hid hs
  clear hs
  go_enter Try.func29, Try.ntmps29
  go_wp2_with fail
  go_loopw [1, 5] (fun q i wr => ∃ m K : Nat, m ≤ os.length ∧ i = .int .i64 m ∧ q = .int .i64 (K : Nat) ∧ K ≤ 1000 ∧ Hid (K = kAt os m) ∧ Below w.heap.size w wr) (fun _ i _ => os.length - (intOf i).toNat)
  case atStart => exact ⟨0, 1, Nat.zero_le _, rfl, rfl, by omega, rfl, Below.refl _ _⟩
  case round =>
    obtain ⟨m, K, hm, rfl, rfl, hK, HK, hb⟩ := hrel
    by_cases hlt : m < os.length
    · have hk1 := kAt_succ hlt
      have hk2 := kAt_le HS.out (m + 1) (by omega)
      have hsm := HS.out _ (List.getElem_mem hlt)
      obtain ⟨o, ad, A1, c1, ho, rfl, ha, g0, g1, g2, g3⟩ := (h.below hb (Nat.le_refl _)).obj (k := m) (by rw [mkdOs_length]; exact hlt)
      rw [mkdOs_get hlt] at ho
      subst ho
      obtain ⟨n, hnn⟩ : ∃ n, os[m].zs.length = n := ⟨_, rfl⟩
      have eO : mkdO os m hlt = ⟨(K : Int), marks ((K : Int) + 1) n, mtext (K + 1 + n)⟩ := by unfold mkdO mkAt; rw [hnn, ← HK.out]
      rw [eO] at g0 g1 g2 g3
      simp only [marks_length] at g0 g1 g2 g3
      rw [← HK.out, hnn] at hk1
      rw [hnn] at hsm
      have HK2 : Hid (K + 1 + n + 1 = kAt os (m + 1)) := by show _ = _; rw [hk1]; omega
      have hK2 : K + 1 + n + 1 ≤ 1000 := by rw [HK2.out]; omega
      have hz := hb.size
      have G2 := Later.cell (p := ⟨(ad.add (m * 3)).block, (ad.add (m * 3)).off + 2, none⟩) g2 (Nat.lt_of_lt_of_le ha hz)
      have hxx : Hid ((K : Int) + 1 + (n : Int) = ((K + 1 + n : Nat) : Int)) := by show _ = _; omega
      have hx1 : Hid (1 ≤ K + 1 + n ∧ K + 1 + n ≤ 100000) := by show _ ∧ _; omega
      have k0 : 0 ≤ (m : Int) := by omega
      have k1 : (m : Int) < (os.length : Int) := by omega
      clear hk1 hk2 eO hnn g2
      go_wp2_with fail
      refine (heldIntS_yes w.heap.size A1 c1 n ((K : Int) + 1) wr g3 (by omega) (by omega) (by omega)).mono ?_
      rintro e w2 ⟨rfl, rfl⟩
      go_wp2_with fail
      refine wp_region_later wr.heap.size (by kernel_rfl) (by kernel_rfl) ?_
      repeat (go_big_quiet_step ((go_at_call 59; exact Later.call (Nat.le_refl _) _ (markText_at _ (K + 1 + n) _ hxx.out hx1.out.1 hx1.out.2))))
      refine wpQuiet_nil ?_
      intro _ hw'
      obtain ⟨xx, hxx⟩ := hw'
      have hbx := xx.b
      subst hxx
      go_wp2
      go_roundw
      case rel => exact ⟨m + 1, K + 1 + n + 1, by omega, by go_num, by go_num, hK2, HK2.out, hb.trans (hbx.mono hz)⟩
      case measure => simp [intOf]; omega
    · have hm' : m = os.length := by omega
      subst hm'
      go_wp2
      go_ret
      have hKe := HK.out
      subst hKe
      exact .mk_ hb
end Go.Proofs.Ytkekbobnbipmoaa
namespace Go.Proofs.Ytkekbobnbipmoaa
open Go.RowKit Wo Pu

/-- Of what was there only cells of block g have been written. -/
def WroteL (g : Nat) (w w' : World) : Prop := w.grownBy w' (some g) ∧ ∀ (B : Nat) (e : TypeId) (sz n c : Nat) (xs : List Value), w.ownsRow B e sz (.slice (some ⟨g, 0, none⟩) n c) n xs → ∃ xs', w'.ownsRow B e sz (.slice (some ⟨g, 0, none⟩) n c) n xs'
theorem WroteL.refl (g : Nat) (w : World) : WroteL g w w := ⟨World.grownBy.refl w _, fun _ _ _ _ _ xs h => ⟨xs, h⟩⟩
theorem WroteL.set_ {g : Nat} {w w' : World} (h : WroteL g w w') (j : Nat) (u : Value) : WroteL g w (w'.setCell ⟨g, j, none⟩ u) := by
  obtain ⟨h1, h3⟩ := h
  refine ⟨⟨h1.os, h1.tape, h1.output, by simpa using h1.size, fun i hi hne => ?_⟩, fun B e sz n c xs ho => ?_⟩
  · rw [Below.heap_setCell _ _ _ _ (fun e => hne (by rw [e]))]
    exact h1.block i hi hne
  · obtain ⟨xs', ho'⟩ := h3 B e sz n c xs ho
    exact ⟨_, (World.ownsRow.stored ho' j u).1⟩
theorem WroteL.below {g : Nat} {w w1 w2 : World} (h : WroteL g w w1) (hb : Below w1.heap.size w1 w2) : WroteL g w w2 := by
  obtain ⟨h1, h3⟩ := h
  refine ⟨h1.trans ⟨hb.os, hb.tape, hb.output, hb.size, fun k hk _ => hb.block k hk⟩, fun B e sz n c xs ho => ?_⟩
  obtain ⟨xs', ho'⟩ := h3 B e sz n c xs ho
  exact ⟨xs', own_below ho' hb (Nat.le_refl _)⟩
theorem WroteL.of {g : Nat} {w w' : World} (h : Wrote g w w') : WroteL g w w' := ⟨h.1, h.2.2⟩
theorem WroteL.own {g : Nat} {w w' : World} (h : WroteL g w w') {B : Nat} {e : TypeId} {sz n c : Nat} {g' : Nat} {xs : List Value} (ho : w.ownsRow B e sz (.slice (some ⟨g', 0, none⟩) n c) n xs) : ∃ xs', w'.ownsRow B e sz (.slice (some ⟨g', 0, none⟩) n c) n xs' := by
  by_cases hg : g' = g
  · subst hg
    exact h.2 _ _ _ _ _ _ ho
  · exact ⟨xs, World.ownsRow.kept ho h.1 (.inr (fun e => hg (by injection e)))⟩
theorem Apart.wroteL {B C g : Nat} {w w1 w2 : World} (h : Apart B C w w1) (hw : WroteL g w1 w2) (hB : B ≤ g) (hC : g < C) (hz : B ≤ w1.heap.size) : Apart B C w w2 := by
  refine ⟨h.1.grown hw.1 (by omega) (fun k hk => by injection hk with hk; omega), fun i hi hl => ?_⟩
  have := h.1.size
  rw [hw.1.block i (by omega) (fun e => by injection e with e; omega)]
  exact h.2 i hi hl

set_option maxRecDepth 100000 in
set_option maxHeartbeats 4000000 in
theorem markOpS_loose (B g n c : Nat) (k : Int) (xs : List Value) (w : World) (ho : w.ownsRow B 99 3 (.slice (some ⟨g, 0, none⟩) n c) n xs) (hn : n ≤ 1048576) (h0 : 1 ≤ k) (h1 : k ≤ 4503599620000000) :
    Calls Try.prog 58 #[.slice (some ⟨g, 0, none⟩) n c, .int .i64 k] w (fun e w' => e = .returned (.int .i64 (k + 3 * (n : Int))) ∧ WroteL g w w') := by
  go_enter Try.func58, Try.ntmps58
  go_wp2_with fail
  have HO := hid ho
  go_loopw [1, 5] (fun q i wr => ∃ (m : Nat) (K : Int), m ≤ n ∧ i = .int .i64 m ∧ q = .int .i64 K ∧ K = k + 3 * (m : Int) ∧ WroteL g w wr) (fun _ i _ => n - (intOf i).toNat)
  case atStart => exact ⟨0, k, Nat.zero_le _, rfl, rfl, by simp, WroteL.refl _ _⟩
  case round =>
    clear ho
    obtain ⟨m, K, hm, rfl, rfl, hK, hw⟩ := hrel
    by_cases hlt : m < n
    · obtain ⟨ys, hy⟩ := hw.2 _ _ _ _ _ _ HO.out
      have hl := hy.1
      obtain ⟨u0, q0⟩ : ∃ v0, wr.cell? ⟨g, m * 3, none⟩ = some v0 := ⟨_, (World.ownsRow.cellAt hy (m * 3) (by omega)).trans (List.getElem?_eq_getElem (by omega))⟩
      obtain ⟨u1, q1⟩ : ∃ v0, wr.cell? ⟨g, m * 3 + 1, none⟩ = some v0 := ⟨_, (World.ownsRow.cellAt hy (m * 3 + 1) (by omega)).trans (List.getElem?_eq_getElem (by omega))⟩
      have f0 := World.ownsRow.frozenAt hy (m * 3)
      have f1 := World.ownsRow.frozenAt hy (m * 3 + 1)
      have w2 := (hw.set_ (m * 3) (.int .i64 K)).set_ (m * 3 + 1) (.int .i64 (K + 1))
      have hK0 : 1 ≤ K := by omega
      have hK1 : K ≤ 4503599627000000 := by omega
      have HK := hid hK
      clear hw hy hl hK
      go_wp2_with fail
      refine (markText_any (K + 1 + 1) _ (by omega) (by omega)).mono ?_
      rintro e w3 ⟨s, rfl, hb3⟩
      have w4 := w2.below hb3
      obtain ⟨ys, hy⟩ := w4.2 _ _ _ _ _ _ HO.out
      have hl := hy.1
      obtain ⟨u2, q2⟩ : ∃ v0, w3.cell? ⟨g, m * 3 + 2, none⟩ = some v0 := ⟨_, (World.ownsRow.cellAt hy (m * 3 + 2) (by omega)).trans (List.getElem?_eq_getElem (by omega))⟩
      have f2 := World.ownsRow.frozenAt hy (m * 3 + 2)
      have w5 := w4.set_ (m * 3 + 2) (.string s)
      clear w2 w4 hy hl hb3 q0 q1 f0 f1
      go_wp2_with fail
      go_roundw
      case rel => exact ⟨m + 1, K + 1 + 1 + 1, by omega, by go_num, rfl, by rw [HK.out]; omega, w5⟩
      case measure => simp [intOf]; omega
    · have hm' : m = n := by omega
      subst hm'
      subst hK
      go_wp2
      go_ret
      exact ⟨rfl, hw⟩

/-- A list of entries of the law's own, all of whose memory lies from B up to C. -/
def ListsE (w : World) (B C g : Nat) (es : List Ent) : Prop :=
  ∃ xs, Mine w B 33 4 g es.length xs ∧ g < C ∧ ∀ j (hj : j < es.length), ∃ g1 ys g2 zs, xs[j * 4 + 1]? = some (.slice (some ⟨g1, 0, none⟩) es[j].zs.length es[j].zs.length) ∧ Mine w B 3 1 g1 es[j].zs.length ys ∧ g1 < C ∧
    xs[j * 4 + 3]? = some (.slice (some ⟨g2, 0, none⟩) es[j].ops.length es[j].ops.length) ∧ Mine w B 99 3 g2 es[j].ops.length zs ∧ g2 < C
theorem FilledE.lists {w : World} {B g : Nat} {es : List Ent} (h : FilledE w B g es es.length) : ListsE w B w.heap.size g es := by
  obtain ⟨xs, h1, h2⟩ := h
  refine ⟨xs, h1, h1.lt.2, fun j hj => ?_⟩
  obtain ⟨g1, g2, _, q1, _, q3, q4, q5⟩ := h2 j hj hj
  exact ⟨g1, _, g2, _, q1, q4, q4.lt.2, q3, q5, q5.lt.2⟩
theorem ListsE.below {w w' : World} {B C D g : Nat} {es : List Ent} (h : ListsE w B C g es) (hb : Below D w w') (hD : C ≤ D) : ListsE w' B C g es := by
  obtain ⟨xs, h1, h2, h3⟩ := h
  refine ⟨xs, h1.below hb (by omega), h2, fun j hj => ?_⟩
  obtain ⟨g1, ys, g2, zs, q1, q2, q3, q4, q5, q6⟩ := h3 j hj
  exact ⟨g1, ys, g2, zs, q1, q2.below hb (by omega), q3, q4, q5.below hb (by omega), q6⟩
theorem ListsE.set_ {w : World} {B C g : Nat} {es : List Ent} (h : ListsE w B C g es) (k d : Nat) (hd : d = 0 ∨ d = 2) (u : Value) : ListsE (w.setCell ⟨g, k * 4 + d, none⟩ u) B C g es := by
  obtain ⟨xs, h1, h2, h3⟩ := h
  refine ⟨_, h1.set_ (k * 4 + d) u, h2, fun j hj => ?_⟩
  obtain ⟨g1, ys, g2, zs, q1, q2, q3, q4, q5, q6⟩ := h3 j hj
  refine ⟨g1, ys, g2, zs, ?_, q2.far (q2.type_ne h1 (by decide)) _, q3, ?_, q5.far (q5.type_ne h1 (by decide)) _, q6⟩
  · rw [List.getElem?_set_ne (by omega)]; exact q1
  · rw [List.getElem?_set_ne (by omega)]; exact q4
theorem ListsE.wrote {w w' : World} {B C g gj n sz : Nat} {t : TypeId} {es : List Ent} {ys : List Value} (h : ListsE w B C g es) (ht : t ≠ 33) (hm : Mine w B t sz gj n ys) (hw : WroteL gj w w') : ListsE w' B C g es := by
  obtain ⟨xs, h1, h2, h3⟩ := h
  have hne := hm.type_ne h1 ht
  refine ⟨xs, World.ownsRow.kept h1 hw.1 (.inr (fun e => hne (by injection e with e; exact e.symm))), h2, fun j hj => ?_⟩
  obtain ⟨g1, ys', g2, zs', q1, q2, q3, q4, q5, q6⟩ := h3 j hj
  obtain ⟨ys2, q7⟩ := hw.own q2
  obtain ⟨zs2, q8⟩ := hw.own q5
  exact ⟨g1, ys2, g2, zs2, q1, q7, q3, q4, q8, q6⟩
theorem ListsE.at_ {w : World} {B C g k : Nat} {es : List Ent} (h : ListsE w B C g es) (hk : k < es.length) :
    ∃ v0 v2 g1 ys g2 zs, w.cell? ⟨g, k * 4, none⟩ = some v0 ∧ w.cell? ⟨g, k * 4 + 1, none⟩ = some (.slice (some ⟨g1, 0, none⟩) es[k].zs.length es[k].zs.length) ∧ w.cell? ⟨g, k * 4 + 2, none⟩ = some v2 ∧ w.cell? ⟨g, k * 4 + 3, none⟩ = some (.slice (some ⟨g2, 0, none⟩) es[k].ops.length es[k].ops.length) ∧
      Mine w B 3 1 g1 es[k].zs.length ys ∧ g1 < C ∧ Mine w B 99 3 g2 es[k].ops.length zs ∧ g2 < C ∧ B ≤ g ∧ g < C ∧ ∀ o, w.frozen? ⟨g, o, none⟩ = false := by
  obtain ⟨xs, h1, h2, h3⟩ := h
  obtain ⟨g1, ys, g2, zs, q1, q2, q3, q4, q5, q6⟩ := h3 k hk
  have hlen := h1.len
  have rd : ∀ j, j < es.length * 4 → w.cell? ⟨g, j, none⟩ = xs[j]? := fun j hj => World.ownsRow.cellAt h1 j hj
  exact ⟨xs[k * 4]'(by omega), xs[k * 4 + 2]'(by omega), g1, ys, g2, zs, (rd _ (by omega)).trans (List.getElem?_eq_getElem (by omega)), (rd _ (by omega)).trans q1, (rd _ (by omega)).trans (List.getElem?_eq_getElem (by omega)), (rd _ (by omega)).trans q4, q2, q3, q5, q6, h1.lt.1, h2, fun o => World.ownsRow.frozenAt h1 o⟩

set_option maxRecDepth 100000 in
set_option maxHeartbeats 4000000 in
theorem markPackEntryS_any (B C g : Nat) (es : List Ent) (w : World) (h : ListsE w B C g es) (hC : C ≤ w.heap.size) (hB : B ≤ C) (hn : es.length ≤ 1048576) (hs : ∀ e ∈ es, e.zs.length ≤ 1048576 ∧ e.ops.length ≤ 1048576) :
    Calls Try.prog 27 #[.slice (some ⟨g, 0, none⟩) es.length es.length, .int .i64 1] w (fun e w' => ∃ k : Int, e = .returned (.int .i64 k) ∧ (0 ≤ k ∧ k ≤ 4503599627370496) ∧ Apart B C w w') := by
  go_enter Try.func27, Try.ntmps27
  go_wp2_with fail
  go_loopw [1, 5] (fun q i wr => ∃ (m : Nat) (k : Int), m ≤ es.length ∧ i = .int .i64 m ∧ q = .int .i64 k ∧ 1 ≤ k ∧ k ≤ 1 + (m : Int) * 4194306 ∧ ListsE wr B C g es ∧ Apart B C w wr) (fun _ i _ => es.length - (intOf i).toNat)
  case atStart => exact ⟨0, 1, Nat.zero_le _, rfl, rfl, by omega, by omega, h, Apart.refl _ _ _⟩
  case round =>
    obtain ⟨m, k, hm, rfl, rfl, k0, k1, hl, ha⟩ := hrel
    clear h
    by_cases hlt : m < es.length
    · obtain ⟨hsm, hso⟩ := hs _ (List.getElem_mem hlt)
      have hz := ha.1.size
      obtain ⟨v0, v2, g1, ys, g2, zs, c0, c1, c2, c3, hm1, hg1, -, -, hgB, hgC, hf⟩ := hl.at_ hlt
      have f0 := hf (m * 4)
      have l2 : ListsE (wr.setCell ⟨g, m * 4, none⟩ (.int .i64 k)) B C g es := hl.set_ m 0 (.inl rfl) (.int .i64 k)
      have a2 := ha.set_ hgB hgC (m * 4) (.int .i64 k)
      have m2 := hm1.far (p := ⟨g, m * 4, none⟩) (by obtain ⟨xs, hx, _⟩ := hl; exact hm1.type_ne hx (by decide)) (.int .i64 k)
      have z2 : C ≤ (wr.setCell ⟨g, m * 4, none⟩ (.int .i64 k)).heap.size := by simp; omega
      have HAT : Hid (∀ W, ListsE W B C g es → ∃ v0 v2 g1 ys g2 zs, W.cell? ⟨g, m * 4, none⟩ = some v0 ∧ W.cell? ⟨g, m * 4 + 1, none⟩ = some (.slice (some ⟨g1, 0, none⟩) es[m].zs.length es[m].zs.length) ∧ W.cell? ⟨g, m * 4 + 2, none⟩ = some v2 ∧ W.cell? ⟨g, m * 4 + 3, none⟩ = some (.slice (some ⟨g2, 0, none⟩) es[m].ops.length es[m].ops.length) ∧
        Mine W B 3 1 g1 es[m].zs.length ys ∧ g1 < C ∧ Mine W B 99 3 g2 es[m].ops.length zs ∧ g2 < C ∧ B ≤ g ∧ g < C ∧ ∀ o, W.frozen? ⟨g, o, none⟩ = false) := fun W hW => hW.at_ hlt
      clear hl ha hm1 hf c2 c3
      generalize es[m].zs.length = n at *
      generalize es[m].ops.length = mo at *
      have K1 : k ≤ 4503599610000000 := by omega
      go_wp2_with fail
      refine (markIntS_own B g1 n n (k + 1) ys _ m2 hsm (by omega) (by omega)).mono ?_
      rintro e w2 ⟨rfl, hw, _⟩
      have l3 := l2.wrote (by decide) m2 (.of hw)
      have a3 := a2.wroteL (.of hw) m2.lt.1 hg1 (by omega)
      have z3 : C ≤ w2.heap.size := by rw [hw.2.1]; exact z2
      clear l2 a2 m2 hw z2 c0 c1 f0
      obtain ⟨-, v2, -, -, g2, zs, -, -, c2, c3, -, -, hm3, hg2, -, -, hf⟩ := HAT.out w2 l3
      have f2 := hf (m * 4 + 2)
      have l4 := l3.set_ m 2 (.inr rfl) (.int .i64 (k + 1 + n))
      have a4 := a3.set_ hgB hgC (m * 4 + 2) (.int .i64 (k + 1 + n))
      have m4 := hm3.far (p := ⟨g, m * 4 + 2, none⟩) (by obtain ⟨xs, hx, _⟩ := l3; exact hm3.type_ne hx (by decide)) (.int .i64 (k + 1 + n))
      have z4 : C ≤ (w2.setCell ⟨g, m * 4 + 2, none⟩ (.int .i64 (k + 1 + n))).heap.size := by simp; omega
      clear l3 a3 hm3 hf HAT z3
      go_wp2_with fail
      refine (markOpS_loose B g2 mo mo (k + 1 + n + 1) zs _ m4 hso (by omega) (by omega)).mono ?_
      rintro e w5 ⟨rfl, hw⟩
      have l5 := l4.wrote (by decide) m4 hw
      have a5 := a4.wroteL hw m4.lt.1 hg2 (by omega)
      clear l4 a4 m4 hw z4 c2 c3 f2
      go_wp2_with fail
      go_roundw
      case rel => exact ⟨m + 1, k + 1 + n + 1 + 3 * (mo : Int), by omega, by go_num, rfl, by omega, by omega, l5, a5⟩
      case measure => simp [intOf]; omega
    · have hm' : m = es.length := by omega
      subst hm'
      go_wp2
      go_ret
      exact ⟨k, rfl, ⟨by omega, by omega⟩, ha⟩
end Go.Proofs.Ytkekbobnbipmoaa
namespace Go.Proofs.Ytkekbobnbipmoaa
open Go.RowKit Wo Pu

theorem OwnObsF.toN {w : World} {B : Nat} {v : Value} {os : List Ob} (h : OwnObsF w B v os) : OwnObsN w B w.heap.size v os := by
  obtain ⟨xs, h1, h2, h3⟩ := h
  refine ⟨xs, h1, h2, h3, fun i u g hi hu hg => ?_⟩
  obtain ⟨A, c, _, q1, _, q3⟩ := h2 i hi
  rw [q1] at hu
  injection hu with hu
  subst hu
  exact (q3.bel g hg).2
theorem OwnObsN.node {w w' : World} {B N g : Nat} {v : Value} {os : List Ob} {cs : Array Value} (h : OwnObsN w B N v os) (hE : w.heap[g]? = some (.cells cs 61 (0, 0))) (hb : But g w w') : OwnObsN w' B N v os := by
  obtain ⟨xs, h1, h2, h3⟩ := h
  refine ⟨xs, World.ownsRow.kept h1 hb (.inr (row_ne h1 hE (by decide))), fun j hj => ?_, h3⟩
  obtain ⟨A, c, q0, q1, q2, q3⟩ := h2 j hj
  exact ⟨A, c, q0, q1, q2, World.ownsRow.kept q3 hb (.inr (row_ne q3 hE (by decide)))⟩
theorem Apt.app {ys : List Value} {n N : Nat} {a V b : Value} (h : Apt ys n) (hb : Bel ys n N) (hl : ys.length = n * 3) (hV : ∀ g, V.ownBlock = some g → N ≤ g) : Apt (ys ++ [a, V, b]) (n + 1) := by
  have := Apt.laid (r := n) (a := a) (b := b) h hb hl (Nat.le_refl _) hV
  rwa [List.take_of_length_le (by omega), List.drop_of_length_le (by omega), List.append_nil] at this
theorem OwnObsF.app {w w1 : World} {B c : Nat} {A : Option Addr} {v v' : Value} {os : List Ob} {o : Ob} {ys : List Value} (hos : ∀ j (hj : j < os.length), ObIs w B ys j os[j]) (hlen : ys.length = os.length * 3)
    (hlinks : Own w B (.slice A o.zs.length c) o.zs) (hrow : w.ownsRow B 42 3 v os.length ys)
    (hown : w1.ownsRow B 42 3 v' (os.length + 1) (ys ++ [.int .i64 o.kd, .slice A o.zs.length c, .string o.s]))
    (hg : (w.alloc (.cells #[.int .i64 o.kd, .slice A o.zs.length c, .string o.s] 42)).grownBy w1 v.ownBlock) (hap : Apt (ys ++ [.int .i64 o.kd, .slice A o.zs.length c, .string o.s]) (os.length + 1)) : OwnObsF w1 B v' (os ++ [o]) := by
  have al := (Below.refl w.heap.size w).alloc (Nat.le_refl _) (.cells #[.int .i64 o.kd, .slice A o.zs.length c, .string o.s] 42)
  -- the links of any of the objects are in another block than the row of the objects
  have keep : ∀ {u : Value} {zs : List Int}, Own w B u zs → Own w1 B u zs := fun {u zs} h => by
    have h' := h.below al (Nat.le_refl _)
    refine World.ownsRow.kept h' hg ?_
    rcases hu : u.ownBlock with _ | k
    · exact .inl rfl
    · refine .inr (fun e => ?_)
      rcases h.2 with ⟨rfl, _⟩ | ⟨g, _, cur, rfl, _, hh, _⟩
      · cases hu
      · have hk : g = k := by simpa [Value.ownBlock] using hu
        subst hk
        rcases hrow.2 with ⟨rfl, _⟩ | ⟨g2, _, cur2, rfl, _, hh2, _⟩
        · cases e
        · have hk : g = g2 := by simpa [Value.ownBlock] using e
          subst hk
          rw [hh] at hh2
          injection hh2 with h3
          injection h3 with _ h3
          exact absurd h3 (by decide)
  refine ⟨_, by simpa using hown, fun j hj => ?_, by rw [List.length_append]; exact hap⟩
  by_cases e : j < os.length
  · obtain ⟨A', c', q0, q1, q2, q3⟩ := hos j e
    rw [List.getElem_append_left e]
    exact ⟨A', c', by rw [List.getElem?_append_left (by omega)]; exact q0, by rw [List.getElem?_append_left (by omega)]; exact q1, by rw [List.getElem?_append_left (by omega)]; exact q2, keep q3⟩
  · have ej : j = os.length := by simp at hj; omega
    subst ej
    have eo : (os ++ [o])[os.length]'(by simp) = o := by simp
    rw [eo]
    refine ⟨A, c, ?_, ?_, ?_, keep hlinks⟩
    · rw [List.getElem?_append_right (by omega), hlen]; simp
    · rw [List.getElem?_append_right (by omega), hlen, show os.length * 3 + 1 - os.length * 3 = 1 from by omega]; rfl
    · rw [List.getElem?_append_right (by omega), hlen, show os.length * 3 + 2 - os.length * 3 = 2 from by omega]; rfl
/-- Behind PackObjects. -/
def POutF (es : List Ent) (w : World) (e : Ending) (w' : World) : Prop := ∃ v, e = .returned (.tuple #[v, .bool (packB es)]) ∧ OwnObsF w' w.heap.size v (packO es) ∧ Below w.heap.size w w'
theorem POutF.no_ {es : List Ent} {w w' : World} (h : packB es = false) (hb : Below w.heap.size w w') : POutF es w (.returned (.tuple #[.slice (some ⟨w'.heap.size, 0, none⟩) 0 0, .bool false])) (w'.alloc (.cells #[] 42)) := by
  refine ⟨_, by rw [h], ?_, hb.alloc hb.size _⟩
  rw [packO_no h]
  exact OwnObsF.nil_new hb.size

set_option maxRecDepth 100000 in
set_option maxHeartbeats 4000000 in
theorem implPackObjectsA_any (A : Option Addr) (c : Nat) (es : List Ent) (w : World) (h : Ents w w.heap.size A es) (hn : es.length ≤ 1048576) (hfe : FitE es) :
    Calls Try.prog 18 #[.slice A es.length c] w (POutF es w) := by
  obtain ⟨i0, hi, hz0, hz1, hz2⟩ := info_of info_ob
  by_cases hl16 : es.length ≤ 16
  · go_enter Try.func18, Try.ntmps18
    go_wp2_with fail
    refine (linkEntries_any A c es w h hn hfe).mono ?_
    rintro e w1 (⟨hb, rfl, b1⟩ | ⟨hb, v, ns0, rfl, hch0, hnr0, _, b1⟩)
    · have HP := hid (packB_b hb)
      go_wp2
      go_ret2
      exact POutF.no_ HP.out b1
    · obtain ⟨AN, cN, rfl, _, _⟩ := hch0.row
      have hnl0 := hch0.1
      obtain ⟨m, hm⟩ : ∃ m, ns0.length = m := ⟨_, rfl⟩
      rw [hm] at hch0 hnl0 ⊢
      have n2 := OwnObsF.nil_new (w := w1) (B := w.heap.size) b1.size
      have al := (Below.refl w1.heap.size w1).alloc (Nat.le_refl _) (.cells #[] 42)
      have ch2 := hch0.below al (Nat.le_refl _)
      have nr2 := hnr0.below al b1.size
      have b2 := b1.trans (al.mono b1.size)
      have HBAS := hid hb
      subst hnl0
      clear hch0 hnr0 al b1 hb hm
      go_wp2_with fail
      go_loopw [6, 26] (fun v6 i wr => ∃ (k : Nat) (ns : List Nd), i = .int .i64 k ∧ k ≤ es.length ∧ Chain wr w.heap.size (.slice AN es.length cN) es ns ∧ NR wr w.heap.size es ns ∧ OwnObsF wr w.heap.size v6 (objs es k) ∧
        Hid (okTo es k = true ∧ (∀ j, j < k → dep es j ≤ 2) ∧ Txd ns (objs es k)) ∧ Below w.heap.size w wr) (fun _ i _ => es.length - (intOf i).toNat)
      case atStart => exact ⟨0, ns0, rfl, Nat.zero_le _, ch2, nr2, n2, ⟨rfl, fun j hj => absurd hj (by omega), fun j hj => absurd hj (by simp [objs])⟩, b2⟩
      case round =>
        obtain ⟨k, ns, rfl, hk, hch, hnr, hoo, HV, hbw⟩ := hrel
        clear n2 ch2 nr2 b2
        have hz := hbw.size
        have hol := objs_length (es := es) hk
        obtain ⟨out, hout⟩ : ∃ out, objs es k = out := ⟨_, rfl⟩
        rw [hout] at HV hoo hol
        have HOUT := hid hout
        clear hout
        by_cases hlt : k < es.length
        · have hk2 : k < ns.length := by rw [hch.1]; exact hlt
          have hnl := hch.1
          have hbr := (basB_iff.1 HBAS.out) k hlt
          obtain ⟨ad, rfl, hadb, g0⟩ := hch.row_.ptr_ hk2
          obtain ⟨T, hT⟩ : ∃ T, txtN ns es[k].b = T := ⟨_, rfl⟩
          have hTO : txtOf out es[k].b = T := by rw [← hT]; exact (HV.out.2.2.base (by omega) (by omega)).symm
          have hTs : T.size ≤ 1048576 := by
            rw [← hTO]
            unfold txtOf
            split
            · rcases hq : out[es[k].b.toNat]? with _ | q
              · decide
              · have := okTo_small HV.out.1 hk HOUT.out q (List.mem_of_getElem? hq)
                show q.s.size ≤ _
                omega
            · decide
          obtain ⟨o, ho⟩ : ∃ o, mkO out es[k] = o := ⟨_, rfl⟩
          have hkd : es[k].kd = o.kd := by rw [← ho]; rfl
          have hzs : es[k].zs = o.zs := by rw [← ho]; rfl
          have HO : Hid (dRes T es[k].ops = o.s) := by show _ = _; rw [← ho]; show _ = dRes (txtOf out es[k].b) _; rw [hTO]
          have HS : Hid (objs es (k + 1) = out ++ [o]) := by show _ = _; rw [objs_succ hlt, HOUT.out, ho]
          have HOK : Hid (okTo es (k + 1) = (dOk T es[k].ops && vOb o)) := by show _ = _; rw [okTo_succ hlt, HV.out.1, Bool.true_and, HOUT.out]; unfold okO; rw [ho, hTO]
          have HT := hid hT
          have i1 : (k : Int) < (es.length : Int) := by omega
          clear hT hTO ho
          have hun := unpack_any w.heap.size w.heap.size (.slice (some ad) es.length cN) es ns k T o wr hch hnr (Nat.le_refl _) hz hlt hk2 hn hfe HT hTs hkd hzs HO
          go_wp2_with fail
          refine hun.mono ?_
          clear hun
          rintro e w3 (⟨hg, rfl, b3⟩ | ⟨hg, A3, c3, rfl, o3, hall, b3⟩)
          · have HF : Hid (packB es = false) := by
              show _ = _
              rw [Bool.and_eq_false_iff] at hg
              rcases hg with hg | hg
              · refine packB_c ?_
                rw [Bool.eq_false_iff]
                intro e
                have := depB_iff.1 e k hlt
                exact absurd this (of_decide_eq_false hg)
              · refine packB_d ?_
                rw [Bool.eq_false_iff]
                intro e
                have := okTo_le (j := k + 1) (by omega) (Nat.le_refl _) e
                rw [HOK.out, hg] at this
                cases this
            have b4 := hbw.trans b3
            clear hg
            have b5 := b4.alloc b4.size (.cells #[.int .i64 0, .slice none 0 0, .string ⟨#[]⟩] 42)
            unfold ob
            go_upto_region 11 with (fail)
            generalize w3.alloc (.cells #[.int .i64 0, .slice none 0 0, .string ⟨#[]⟩] 42) = w4 at *
            go_wp2
            go_ret2
            exact POutF.no_ HF.out b5
          · rw [Bool.and_eq_true, decide_eq_true_eq] at hg
            obtain ⟨hd, hok⟩ := hg
            obtain ⟨ch3, nr3, tb3⟩ := hall hk2
            have hE := (hch.2.2.2.1 k hlt hk2).2
            have oo3 := hoo.toN.node hE tb3
            have b4 := hbw.trans b3
            have HV2 : Hid (okTo es (k + 1) = true ∧ (∀ j, j < k + 1 → dep es j ≤ 2) ∧ Txd (ns.set k ⟨ns[k].g, ns[k].k, ns[k].l, ns[k].o, o.s⟩) (out ++ [o])) := by
              refine ⟨by rw [HOK.out]; exact hok, fun j hj => ?_, ?_⟩
              · by_cases e : j = k
                · rw [e]; exact hd
                · exact HV.out.2.1 j (by omega)
              · have := HV.out.2.2.snoc (o := o) (by omega)
                simp only [hol] at this
                exact this
            have z3 := tb3.size
            have o3b := o3.base hz
            have o3l := fun g h => (o3.bel g h).1
            have hE3 : (ns.set k ⟨ns[k].g, ns[k].k, ns[k].l, ns[k].o, o.s⟩).length = ns.length := List.length_set
            clear hall hch hnr hoo hE tb3 o3 hbw b3 HT HO HOK hok g0
            have al := (Below.refl w3.heap.size w3).alloc (Nat.le_refl _) (.cells #[.int .i64 o.kd, .slice A3 o.zs.length c3, .string o.s] 42)
            have u5 := Blk.new_ w3 42 (.int .i64 o.kd) (.slice A3 o.zs.length c3) (.string o.s)
            have ch5 := ch3.below al (Nat.le_refl _)
            have nr5 := nr3.below al b4.size
            have oo5 := oo3.below al
            have o5 := o3b.below al (Nat.le_refl _)
            have b5 := b4.trans (al.mono b4.size)
            obtain ⟨x0, x1, x2, -⟩ := id u5.reads
            clear ch3 nr3 oo3 o3b al b4
            obtain ⟨ys, hyrow, hyos, hyap, hybd⟩ := oo5
            have HAP := hid (Apt.app (a := .int .i64 o.kd) (b := .string o.s) hyap hybd hyrow.1 o3l)
            clear hyap hybd o3l
            obtain ⟨w5, hw5⟩ : ∃ w5, w3.alloc (.cells #[.int .i64 o.kd, .slice A3 o.zs.length c3, .string o.s] 42) = w5 := ⟨_, rfl⟩
            unfold ob
            go_upto_region 11 with (fail)
            rw [hw5] at hyrow hyos ch5 nr5 o5 b5 u5 x0 x1 x2
            clear hw5
            have z5 := b5.size
            have hll : out.length ≤ 16 := by omega
            go_wp2_with (at_builtin; go_must (refine wpList_append_own _ rfl _ _ 23 rfl w.heap.size 42 i0 (.agg #[.int .i64 0, .slice none 0 0, .string ⟨#[]⟩]) 3 48 Try.underlying23 hi hz0 hz1 hz2 rfl (by decide) _ out.length ys rfl (World.ownsRow.alloc hyrow _) ⟨w5.heap.size, 0, none⟩ 1 1 [.int .i64 o.kd, .slice A3 o.zs.length c3, .string o.s] rfl rfl (three_at _ _ _ _ _ _ (by simp)) (obj_cells o A3 c3) (by unfold maxLen; omega) (by omega) (by simp; omega) ?_); intro v' w9 hown hg _)
            have hv9 : OwnObsF w9 w.heap.size v' (out ++ [o]) := OwnObsF.app hyos hyrow.1 o5 hyrow hown hg HAP.out
            have al9 := (Below.refl w5.heap.size w5).alloc (Nat.le_refl _) (.cells #[.int .i64 o.kd, .slice A3 o.zs.length c3, .string o.s] 42)
            have ch9 := (ch5.below al9 (Nat.le_refl _)).grown (own_below hyrow al9 (Nat.le_refl _)) (by decide) (by decide) hg
            have b9 : Below w.heap.size w w9 := (b5.trans (al9.mono z5)).grown hg (by simp; omega) (fun q hq => (World.ownsRow.lt hyrow q hq).1)
            have nr9 := nr5.below (((Below.refl w.heap.size w5).alloc z5 (.cells #[.int .i64 o.kd, .slice A3 o.zs.length c3, .string o.s] 42)).grown hg (by simp; omega) (fun q hq => (World.ownsRow.lt hyrow q hq).1)) (Nat.le_refl _)
            clear hown hg hyrow hyos al9 ch5 nr5 o5 b5 u5 x0 x1 x2
            go_wp2_with fail
            go_roundw
            case rel => exact ⟨k + 1, _, by go_num, by omega, ch9, nr9, by rw [HS.out]; exact hv9, by rw [HS.out]; exact HV2, b9⟩
            case measure => simp [intOf]; omega
        · have hk' : k = es.length := by omega
          subst hk'
          have HP : Hid (packB es = true) := packB_iff.2 ⟨hl16, basB_iff.1 HBAS.out, fun j hj => HV.out.2.1 j hj, HV.out.1⟩
          have HPO : Hid (packO es = out) := by show _ = _; rw [packO_yes HP.out, HOUT.out]
          go_wp2
          go_ret2
          exact ⟨_, by rw [HP.out]; rfl, by rw [HPO.out]; exact hoo, hbw⟩
  · have HF := hid (packB_a hl16)
    go_enter Try.func18, Try.ntmps18
    go_wp2
    go_ret2
    exact POutF.no_ HF.out (Below.refl _ _)
end Go.Proofs.Ytkekbobnbipmoaa
namespace Go.Proofs.Ytkekbobnbipmoaa
open Go.RowKit Wo Pu

theorem row_heap {w w' : World} {B n sz : Nat} {e : TypeId} {v : Value} {xs : List Value} (h : w.ownsRow B e sz v n xs) (hk : ∀ g, v.ownBlock = some g → w'.heap[g]? = w.heap[g]?) : w'.ownsRow B e sz v n xs := by
  obtain ⟨h1, h2⟩ := h
  refine ⟨h1, ?_⟩
  rcases h2 with h2 | ⟨g, cap, cur, hv, hB, hh, hr⟩
  · exact .inl h2
  · exact .inr ⟨g, cap, cur, hv, hB, (hk g (by rw [hv]; rfl)).trans hh, hr⟩
theorem Apart.row {B C D n sz : Nat} {w w' : World} {e : TypeId} {v : Value} {xs : List Value} (ha : Apart B C w w') (h : w.ownsRow D e sz v n xs) (hD : C ≤ D) : w'.ownsRow D e sz v n xs :=
  row_heap h (fun g hg => ha.2 g (Nat.le_trans hD (World.ownsRow.lt h g hg).1) (World.ownsRow.lt h g hg).2)
theorem OwnObsF.apart {B C D : Nat} {w w' : World} {v : Value} {os : List Ob} (h : OwnObsF w D v os) (ha : Apart B C w w') (hD : C ≤ D) : OwnObsF w' D v os := by
  obtain ⟨xs, h1, h2, h3⟩ := h
  refine ⟨xs, ha.row h1 hD, fun j hj => ?_, h3⟩
  obtain ⟨A, c, q0, q1, q2, q3⟩ := h2 j hj
  exact ⟨A, c, q0, q1, q2, ha.row q3 hD⟩
theorem OwnObsF.objs {w : World} {B n c : Nat} {A : Option Addr} {os : List Ob} (h : OwnObsF w B (.slice A n c) os) : Objs w w.heap.size A os := by
  obtain ⟨A2, c2, e, ho⟩ := h.own.form
  injection e with e1 _ _
  subst e1
  exact ho
theorem packO_small (es : List Ent) : (packO es).length ≤ 16 ∧ ∀ p ∈ packO es, p.zs.length ≤ 8 := by
  have hval : ∀ o ∈ packO es, vOb o = true := fun o ho => by
    cases hb : packB es
    · rw [packO_no hb] at ho; cases ho
    · exact pack_valid hb o ho
  refine ⟨?_, fun p hp => by have := (vldB_parts (hval p hp)).2.1; omega⟩
  cases hb : packB es
  · rw [packO_no hb]; exact Nat.zero_le _
  · have := (packB_iff.1 hb).1
    have h2 := packO_length (es := es)
    omega

set_option maxRecDepth 100000 in
set_option maxHeartbeats 8000000 in
theorem exactPackObjects_any (A : Option Addr) (c : Nat) (es : List Ent) (w : World) (h : Ents w w.heap.size A es) (hw : WideE es) (hn : es.length ≤ maxLen) :
    Calls Try.prog 6 #[.slice A es.length c] w (Ret (.bool true) w) := by
  go_enter Try.func6, Try.ntmps6
  go_wp2_with fail
  refine (szPackEntryS_any A c es 1048576 w h hw hn (by omega) (by omega)).mono ?_
  rintro e w1 ⟨q, rfl, hr, b1⟩
  rcases hr with rfl | ⟨hr0, hre⟩
  · go_wp2
    go_ret
    exact .mk_ b1
  · obtain ⟨hl, hfe⟩ := eAll_fits (es := es) (by omega) hw
    have hs1 : ∀ e ∈ es, e.zs.length ≤ 1048576 ∧ e.ops.length ≤ 1048576 := fun e he => ⟨(hfe e he).1, (hfe e he).2.1⟩
    obtain ⟨hn16, hk8⟩ := packO_small es
    have SP : Hid (∀ A' c' x, Ents x x.heap.size A' es → Calls Try.prog 20 #[.slice A' es.length c'] x (POut es x)) := fun A' c' x hx => specPackObjects_any A' c' es x hx hl hfe
    have IM : Hid (∀ A' c' x, Ents x x.heap.size A' es → Calls Try.prog 18 #[.slice A' es.length c'] x (POutF es x)) := fun A' c' x hx => implPackObjectsA_any A' c' es x hx hl hfe
    unfold POut at SP
    unfold POutF at IM
    obtain ⟨os, hos⟩ : ∃ os, packO es = os := ⟨_, rfl⟩
    obtain ⟨b, hb⟩ : ∃ b, packB es = b := ⟨_, rfl⟩
    rw [hos] at hn16 hk8 SP IM
    rw [hb] at SP IM
    have hn1 : os.length ≤ 1048576 := by omega
    have hk1 : ∀ p ∈ os, p.zs.length ≤ 1048576 := fun p hp => by have := hk8 p hp; omega
    have HK8 := hid hk8
    have HL : Hid (∀ x, Below w.heap.size w x → Ents x x.heap.size A es) := fun x hx => (h.below hx (Nat.le_refl _)).more hx.size
    clear hre hk8 hos hb hfe
    go_wp2_with fail
    refine (toPackEntryS_any A c es w1 (HL.out _ b1) hl hs1).mono ?_
    rintro e w2 ⟨g2, rfl, f2, hb⟩
    have b2 := b1.trans (hb.mono b1.size)
    clear b1 hb
    go_wp2_with fail
    refine (SP.out _ _ w2 f2.ents).mono ?_
    rintro e w3 ⟨v3, rfl, o3, hb⟩
    obtain ⟨A3, c3, rfl, q3⟩ := o3.form
    have b3 := b2.trans (hb.mono b2.size)
    clear b2 hb f2 o3
    -- x0
    go_wp2_with fail
    refine (toPackEntryS_any A c es w3 (HL.out _ b3) hl hs1).mono ?_
    rintro e w4 ⟨g4, rfl, f4, hb⟩
    have b4 := b3.trans (hb.mono b3.size)
    have q4 := q3.below hb (Nat.le_refl _)
    have l4 := f4.lists
    have z4 := hb.size
    have b3s := b3.size
    have b4s := b4.size
    clear b3 hb q3
    go_wp2_with fail
    refine (IM.out _ _ w4 f4.ents).mono ?_
    rintro e w5 ⟨v5, rfl, o5, hb⟩
    obtain ⟨A5, c5, rfl, h5⟩ := o5.own.form
    have b5 := b4.trans (hb.mono b4.size)
    have q5 := q4.below hb (by omega)
    have l5 := l4.below hb (Nat.le_refl _)
    have f5 := f4.below hb
    have z5 := hb.size
    clear b4 hb q4 l4 f4
    -- the answer is the model's
    go_wp2_with fail
    refine (eqObjectS_same A5 A3 c5 c3 os w5 h5 (q5.more (by omega)) hn1 hk1).mono ?_
    rintro e w6 ⟨rfl, hb⟩
    have b6 := b5.trans (hb.mono b5.size)
    have q6 := q5.below hb (by omega)
    have l6 := l5.below hb (by omega)
    have f6 := f5.below hb
    have o6 := o5.below hb
    have z6 := hb.size
    clear b5 hb q5 l5 f5 o5 h5
    -- x0 is as it was
    go_wp2_with fail
    refine (toPackEntryS_any A c es w6 (HL.out _ b6) hl hs1).mono ?_
    rintro e w7 ⟨g7, rfl, f7, hb⟩
    have b7 := b6.trans (hb.mono b6.size)
    have q7 := q6.below hb (by omega)
    have l7 := l6.below hb (by omega)
    have e7 := f6.below hb
    have o7 := o6.below hb
    have z7 := hb.size
    clear b6 hb q6 l6 f6 o6
    go_wp2_with fail
    refine (eqPackEntryS_same (some ⟨g4, 0, none⟩) (some ⟨g7, 0, none⟩) es.length es.length es w7 e7.ents f7.ents hl hs1).mono ?_
    rintro e w8 ⟨rfl, hb⟩
    have b8 := b7.trans (hb.mono b7.size)
    have q8 := q7.below hb (by omega)
    have l8 := l7.below hb (by omega)
    have o8 := o7.below hb
    have z8 := hb.size
    clear b7 hb q7 l7 e7 f7 o7
    -- x0 is marked
    go_wp2_with fail
    refine (markPackEntryS_any w3.heap.size w4.heap.size g4 es w8 l8 (by omega) z4 hl hs1).mono ?_
    rintro e w9 ⟨k9, rfl, ⟨hk0, hk9⟩, ha⟩
    have b9 := b8.trans (ha.1.mono (by omega))
    have q9 := q8.below ha.1 (Nat.le_refl _)
    have o9 := o8.apart ha (Nat.le_refl _)
    have z9 : w8.heap.size ≤ w9.heap.size := ha.1.size
    have ek : decide (k9 < 0) = false := decide_eq_false (by omega)
    clear b8 q8 l8 o8 ha
    go_wp2_with fail
    refine (eqObjectS_same A5 A3 c5 c3 os w9 o9.objs (q9.more (by omega)) hn1 hk1).mono ?_
    rintro e w10 ⟨rfl, hb⟩
    have b10 := b9.trans (hb.mono b9.size)
    have q10 := q9.below hb (by omega)
    have o10 := o9.below hb
    have z10 := hb.size
    clear b9 hb q9 o9 ek
    -- the answer is marked
    obtain ⟨K, hK⟩ : ∃ K, kAt os os.length = K := ⟨_, rfl⟩
    have hK1 : K ≤ 1000 := by rw [← hK]; have := kAt_le HK8.out os.length (Nat.le_refl _); omega
    have cm := markObjectS_own w4.heap.size A5 c5 os w10 o10 (by omega) hn16 HK8.out
    have CH := hid (fun x hx => heldObjectS_is A5 c5 os x hx hn16 HK8.out)
    rw [hK] at CH
    unfold MarkedO at cm
    rw [hK] at cm
    clear hK o10
    go_wp2_with fail
    refine cm.mono ?_
    rintro e w11 ⟨rfl, h11, hb⟩
    clear cm
    have b11 := b10.trans (hb.mono b4s)
    have q11 := q10.below hb (by omega)
    have z11 := hb.size
    clear b10 q10 hb
    go_wp2_with fail
    refine (CH.out w11 h11).mono ?_
    rintro e w12 ⟨rfl, hb⟩
    have b12 := b11.trans (hb.mono b11.size)
    have q12 := q11.below hb (by omega)
    have h12 := (h11.below hb (Nat.le_refl _)).more hb.size
    have z12 := hb.size
    clear b11 q11 h11 hb
    -- another answer
    go_wp2_with fail
    refine (toPackEntryS_any A c es w12 (HL.out _ b12) hl hs1).mono ?_
    rintro e w13 ⟨g13, rfl, f13, hb⟩
    have b13 := b12.trans (hb.mono b12.size)
    have q13 := q12.below hb (by omega)
    have h13 := (h12.below hb (Nat.le_refl _)).more hb.size
    have z13 := hb.size
    clear b12 q12 h12 hb
    go_wp2_with fail
    refine (IM.out _ _ w13 f13.ents).mono ?_
    rintro e w14 ⟨v14, rfl, o14, hb⟩
    obtain ⟨A14, c14, rfl, p14⟩ := o14.own.form
    have b14 := b13.trans (hb.mono b13.size)
    have q14 := q13.below hb (by omega)
    have h14 := (h13.below hb (Nat.le_refl _)).more hb.size
    have z14 := hb.size
    clear b13 q13 h13 hb o14 f13
    go_wp2_with fail
    refine (eqObjectS_same A14 A3 c14 c3 os w14 p14 (q14.more (by omega)) hn1 hk1).mono ?_
    rintro e w15 ⟨rfl, hb⟩
    have b15 := b14.trans (hb.mono b14.size)
    have h15 := (h14.below hb (Nat.le_refl _)).more hb.size
    clear b14 q14 h14 hb p14
    go_wp2_with fail
    refine (CH.out w15 h15).mono ?_
    rintro e w16 ⟨rfl, hb⟩
    go_wp2
    go_ret
    exact .mk_ (b15.trans (hb.mono b15.size))
end Go.Proofs.Ytkekbobnbipmoaa
