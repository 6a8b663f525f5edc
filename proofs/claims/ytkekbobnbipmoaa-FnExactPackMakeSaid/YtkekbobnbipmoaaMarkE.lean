/-
  Walks: marks written into entries of the call's own, and read again.
-/
import Derived.Test.YtkekbobnbipmoaaOwnEnt
import Derived.Test.YtkekbobnbipmoaaMarks
import Derived.Test.YtkekbobnbipmoaaMarkT
import Derived.Test.YtkekbobnbipmoaaHelps
import Derived.Test.YtkekbobnbipmoaaMakeS
namespace Go.Proofs.Ytkekbobnbipmoaa
open Go.RowKit Wo Pu

/-- The marks from k on. -/
def opM (k i : Nat) : Op2 := ⟨(k + 3 * i : Nat), ((k + 3 * i : Nat) : Int) + 1, mtext (k + 3 * i + 2)⟩
def opMs (k n : Nat) : List Op2 := (List.range n).map (opM k)
theorem opMs_length (k n : Nat) : (opMs k n).length = n := by simp [opMs]
theorem opMs_get (k n i : Nat) (h : i < (opMs k n).length) : (opMs k n)[i] = opM k i := by simp [opMs]
theorem opsV_set {os : List Op2} {m : Nat} (h : m < os.length) (o : Op2) : (((opsV os).set (m * 3) (.int .i64 o.a)).set (m * 3 + 1) (.int .i64 o.n)).set (m * 3 + 2) (.string o.t) = opsV (os.set m o) := by
  have hl := opsV_length os
  apply List.ext_getElem?
  intro j
  by_cases hj : j < os.length * 3
  · obtain ⟨q, d, hd, rfl⟩ : ∃ q d, d < 3 ∧ j = q * 3 + d := ⟨j / 3, j % 3, by omega, by omega⟩
    have hq : q < os.length := by omega
    rw [opsV_get (os := os.set m o) (by rw [List.length_set]; exact hq) hd]
    by_cases e : q = m
    · subst e
      have ho : (os.set q o)[q]'(by rw [List.length_set]; exact hq) = o := by simp
      rw [ho]
      have key : d = 0 ∨ d = 1 ∨ d = 2 := by omega
      rcases key with rfl | rfl | rfl
      · rw [List.getElem?_set_ne (by omega), List.getElem?_set_ne (by omega), Nat.add_zero, List.getElem?_set_self (by omega)]; rfl
      · rw [List.getElem?_set_ne (by omega), List.getElem?_set_self (by simp; omega)]; rfl
      · rw [List.getElem?_set_self (by simp; omega)]; rfl
    · have ho : (os.set m o)[q]'(by rw [List.length_set]; exact hq) = os[q] := by rw [List.getElem_set_ne (by omega)]
      rw [ho, List.getElem?_set_ne (by omega), List.getElem?_set_ne (by omega), List.getElem?_set_ne (by omega), opsV_get hq hd]
  · rw [List.getElem?_eq_none (by simp; omega), List.getElem?_eq_none (by rw [opsV_length, List.length_set]; omega)]
theorem setop_take {os : List Op2} {k n m : Nat} (h : os.take m = (opMs k n).take m) (hl : os.length = n) (hm : m < n) : (os.set m (opM k m)).take (m + 1) = (opMs k n).take (m + 1) := by
  rw [List.take_succ_eq_append_getElem (by simpa using (by omega : m < os.length)), List.take_succ_eq_append_getElem (by rw [opMs_length]; exact hm), List.take_set_of_le (Nat.le_refl m), h, opMs_get]
  simp

theorem World.grownBy.of_below' {w w' : World} {row : Option Nat} (h : Below w.heap.size w w') : w.grownBy w' row := ⟨h.os, h.tape, h.output, h.size, fun k hk _ => h.block k hk⟩
/-- Only block g, of those that were there, has turned; the row in it is of the call's own. -/
def MarkedOps (B : Nat) (v : Value) (k n : Nat) (w : World) (e : Ending) (w' : World) : Prop :=
  e = .returned (.int .i64 (k + 3 * n : Nat)) ∧ OwnOps w' B v (opMs k n) ∧ w.grownBy w' v.ownBlock

theorem MarkedOps.mk_ {B : Nat} {v : Value} {k n J : Nat} {w w' : World} (hJ : J = k + 3 * n) (h1 : OwnOps w' B v (opMs k n)) (h2 : w.grownBy w' v.ownBlock) : MarkedOps B v k n w (.returned (.int .i64 J)) w' := ⟨by rw [hJ], h1, h2⟩

set_option maxHeartbeats 4000000 in
theorem markOpS_own (B g c k : Nat) (os : List Op2) (w : World) (ho : OwnOps w B (.slice (some ⟨g, 0, none⟩) os.length c) os) (hn : os.length ≤ 8) (h1 : 1 ≤ k) (h2 : k ≤ 1000) :
    Calls Try.prog 58 #[.slice (some ⟨g, 0, none⟩) os.length c, .int .i64 k] w (MarkedOps B (.slice (some ⟨g, 0, none⟩) os.length c) k os.length w) := by
  have hx0 : Hid (∃ ys : List Op2, ys.length = os.length ∧ OwnOps w B (.slice (some ⟨g, 0, none⟩) os.length c) ys ∧ ys.take 0 = (opMs k os.length).take 0) := ⟨os, rfl, ho, by simp⟩
  clear ho
  generalize os.length = n at *
  go_enter Try.func58, Try.ntmps58
  go_wp2_with fail
  go_loopw [1, 5] (fun q i wr => ∃ m J : Nat, m ≤ n ∧ i = .int .i64 m ∧ q = .int .i64 J ∧ J ≤ 1900 ∧ 1 ≤ J ∧ Hid (J = k + 3 * m) ∧ w.grownBy wr (some g) ∧ Hid (∃ ys : List Op2, ys.length = n ∧ OwnOps wr B (.slice (some ⟨g, 0, none⟩) n c) ys ∧ ys.take m = (opMs k n).take m)) (fun _ i _ => n - (intOf i).toNat)
  case atStart => exact ⟨0, k, Nat.zero_le _, rfl, rfl, by omega, h1, rfl, World.grownBy.refl _ _, hx0⟩
  case round =>
    obtain ⟨m, J, hm, rfl, rfl, hJ, hJ1, HJ, hw, HX⟩ := hrel
    clear hx0
    obtain ⟨ys, hyl, hy, ht⟩ := HX.out
    clear HX
    by_cases hlt : m < n
    · have hrow : wr.ownsRow B 99 3 (.slice (some ⟨g, 0, none⟩) n c) n (opsV ys) := by
        unfold OwnOps at hy
        rwa [hyl] at hy
      clear hy
      have hl := opsV_length ys
      have rd : ∀ d, d < 3 → ∃ v0, wr.cell? ⟨g, m * 3 + d, none⟩ = some v0 := fun d hd => ⟨_, (World.ownsRow.cellAt hrow (m * 3 + d) (by omega)).trans (List.getElem?_eq_getElem (by omega))⟩
      obtain ⟨u0, q0⟩ := rd 0 (by omega)
      obtain ⟨u1, q1⟩ := rd 1 (by omega)
      rw [Nat.add_zero] at q0
      have f0 := World.ownsRow.frozenAt hrow (m * 3)
      have f1 := World.ownsRow.frozenAt hrow (m * 3 + 1)
      have hs1 := (World.ownsRow.stored hrow (m * 3) (.int .i64 (J : Int))).1
      have hs2 := (World.ownsRow.stored hs1 (m * 3 + 1) (.int .i64 ((J : Int) + 1))).1
      have hgr : w.grownBy ((wr.setCell ⟨g, m * 3, none⟩ (.int .i64 (J : Int))).setCell ⟨g, m * 3 + 1, none⟩ (.int .i64 ((J : Int) + 1))) (some g) := (hw.trans (but_set wr g (m * 3) _)).trans (but_set _ g (m * 3 + 1) _)
      have HT := hid (setop_take ht hyl hlt)
      have HO := hid (opsV_set (os := ys) (m := m) (by omega) (opM k m))
      have HYL := hid hyl
      have eO : opM k m = ⟨(J : Int), (J : Int) + 1, mtext (J + 2)⟩ := by unfold opM; rw [HJ.out]
      rw [eO] at HO HT
      have k2 : m ≤ 8 := by omega
      have k3 : J + 3 ≤ 1900 := by rw [HJ.out]; omega
      clear ht hrow hs1 hw rd hl hyl eO
      go_wp2_with fail
      refine (markText_at _ (J + 2) _ (by omega) (by omega) (by omega)).mono ?_
      rintro e w2 ⟨rfl, b2⟩
      have hs3 := own_below hs2 b2 (Nat.le_refl _)
      have hgr2 := hgr.trans (World.grownBy.of_below' b2)
      have hl3 := hs3.1
      obtain ⟨u2, q2⟩ : ∃ v0, w2.cell? ⟨g, m * 3 + 2, none⟩ = some v0 := ⟨_, (World.ownsRow.cellAt hs3 (m * 3 + 2) (by omega)).trans (List.getElem?_eq_getElem (by omega))⟩
      have f2 := World.ownsRow.frozenAt hs3 (m * 3 + 2)
      have hs4 := (World.ownsRow.stored hs3 (m * 3 + 2) (.string (mtext (J + 2)))).1
      have hy4 : OwnOps (w2.setCell ⟨g, m * 3 + 2, none⟩ (.string (mtext (J + 2)))) B (.slice (some ⟨g, 0, none⟩) n c) (ys.set m ⟨(J : Int), (J : Int) + 1, mtext (J + 2)⟩) := by
        unfold OwnOps
        rw [List.length_set, HYL.out, ← HO.out]
        exact hs4
      have hgr4 := hgr2.trans (but_set w2 g (m * 3 + 2) (.string (mtext (J + 2))))
      have HYS : Hid ((ys.set m (⟨(J : Int), (J : Int) + 1, mtext (J + 2)⟩ : Op2)).length = n) := by show _ = _; rw [List.length_set, HYL.out]
      have HJ2 : Hid (J + 3 = k + 3 * (m + 1)) := by show _ = _; rw [HJ.out]; omega
      clear hs2 hs3 hs4 hgr hgr2 hl3 b2 q0 q1 f0 f1
      go_wp2_with fail
      go_roundw
      case rel => exact ⟨m + 1, J + 3, by omega, by go_num, by go_num, by omega, by omega, HJ2, hgr4, _, HYS.out, hy4, HT.out⟩
      case measure => simp [intOf]; omega
    · have hm' : m = n := by omega
      subst hm'
      have e : ys = opMs k m := by
        rw [List.take_of_length_le (by omega), List.take_of_length_le (by rw [opMs_length]; omega)] at ht
        exact ht
      subst e
      clear ht hyl
      go_wp2
      go_ret
      exact .mk_ HJ.out hy hw
theorem markOpS_any (B k : Nat) (v : Value) (os : List Op2) (w : World) (ho : OwnOps w B v os) (hn : os.length ≤ 8) (h1 : 1 ≤ k) (h2 : k ≤ 1000) :
    Calls Try.prog 58 #[v, .int .i64 k] w (MarkedOps B v k os.length w) := by
  have ho' := ho
  rcases ho.2 with ⟨rfl, hz⟩ | ⟨g, cap, cur, rfl, _⟩
  · have hzs : os = [] := List.eq_nil_of_length_eq_zero hz
    subst hzs
    go_enter Try.func58, Try.ntmps58
    go_wp2_with fail
    go_loopw [1, 5] (fun q i wr => i = .int .i64 0 ∧ q = .int .i64 k ∧ wr = w) (fun _ _ _ => 0)
    case atStart => exact ⟨rfl, rfl, rfl⟩
    case round =>
      obtain ⟨rfl, rfl, rfl⟩ := hrel
      go_wp2
      go_ret
      exact .mk_ (by simp) ho' (World.grownBy.refl _ _)
  · exact markOpS_own B g cap k os w ho hn h1 h2

set_option maxHeartbeats 4000000 in
theorem heldOpS_yes (A : Option Addr) (c k n : Nat) (w : World) (hr : Row w w.heap.size A (opsV (opMs k n))) (hn : n ≤ 8) (h1 : 1 ≤ k) (h2 : k ≤ 1000) :
    Calls Try.prog 63 #[.slice A n c, .int .i64 k] w (Ret (.int .i64 (k + 3 * n : Nat)) w) := by
  go_enter Try.func63, Try.ntmps63
  go_wp2_with fail
  go_loopw [1, 5] (fun q i wr => ∃ m J : Nat, m ≤ n ∧ i = .int .i64 m ∧ q = .int .i64 J ∧ J ≤ 1900 ∧ 1 ≤ J ∧ Hid (J = k + 3 * m) ∧ Below w.heap.size w wr) (fun _ i _ => n - (intOf i).toNat)
  case atStart => exact ⟨0, k, Nat.zero_le _, rfl, rfl, by omega, h1, rfl, Below.refl _ _⟩
  case round =>
    obtain ⟨m, J, hm, rfl, rfl, hJ, hJ1, HJ, hb⟩ := hrel
    by_cases hlt : m < n
    · obtain ⟨o, ad, ho, rfl, ha, g0, g1, g2⟩ := (hr.below hb (Nat.le_refl _)).op_ (k := m) (by rw [opMs_length]; exact hlt)
      rw [opMs_get] at ho
      have eO : o = ⟨(J : Int), (J : Int) + 1, mtext (J + 2)⟩ := by rw [← ho]; unfold opM; rw [HJ.out]
      subst eO
      simp only at g0 g1 g2
      have k2 : m ≤ 8 := by omega
      have k3 : J + 3 ≤ 1900 := by rw [HJ.out]; omega
      have HJ2 : Hid (J + 3 = k + 3 * (m + 1)) := by show _ = _; rw [HJ.out]; omega
      have hz := hb.size
      have G2 := Later.cell (p := ⟨(ad.add (m * 3)).block, (ad.add (m * 3)).off + 2, none⟩) g2 (Nat.lt_of_lt_of_le ha hz)
      have hxx : Hid ((J : Int) + 1 + 1 = ((J + 2 : Nat) : Int)) := by show _ = _; omega
      have k0 : 0 ≤ (m : Int) := by omega
      have k1 : (m : Int) < (n : Int) := by omega
      clear ho g2 HJ
      go_wp2_with fail
      refine wp_region_later wr.heap.size (by kernel_rfl) (by kernel_rfl) ?_
      repeat (go_big_quiet_step ((go_at_call 59; exact Later.call (Nat.le_refl _) _ (markText_at _ (J + 2) _ hxx.out (by omega) (by omega)))))
      refine wpQuiet_nil ?_
      intro _ hw'
      obtain ⟨xx, hxx⟩ := hw'
      have hbx := xx.b
      subst hxx
      go_wp2
      go_roundw
      case rel => exact ⟨m + 1, J + 3, by omega, by go_num, by go_num, by omega, by omega, HJ2, hb.trans (hbx.mono hz)⟩
      case measure => simp [intOf]; omega
    · have hm' : m = n := by omega
      subst hm'
      go_wp2
      go_ret
      exact .int_ (by rw [HJ.out]) hb
/-- The links lie apart, and so do the operations. -/
def Apl (ps : List (Value × Value)) : Prop := ∀ (i j : Nat) (p q : Value × Value), i ≠ j → ps[i]? = some p → ps[j]? = some q → Ap2 p.1 q.1 ∧ Ap2 p.2 q.2
theorem Apl.of_flat {ps : List (Value × Value)} (h : (flat ps).Pairwise Ap2) : Apl ps := by
  have h2 := (List.pairwise_flatMap.1 h).2
  rw [List.pairwise_iff_getElem] at h2
  have key : ∀ (i j : Nat) (p q : Value × Value), i < j → ps[i]? = some p → ps[j]? = some q → Ap2 p.1 q.1 ∧ Ap2 p.2 q.2 := fun i j p q hij hi hj => by
    have li : i < ps.length := (List.getElem?_eq_some_iff.1 hi).1
    have lj : j < ps.length := (List.getElem?_eq_some_iff.1 hj).1
    have ei : ps[i] = p := (List.getElem?_eq_some_iff.1 hi).2
    have ej : ps[j] = q := (List.getElem?_eq_some_iff.1 hj).2
    have := h2 i j li lj hij
    rw [ei, ej] at this
    exact ⟨this p.1 (by simp) q.1 (by simp), this p.2 (by simp) q.2 (by simp)⟩
  intro i j p q hij hi hj
  rcases Nat.lt_or_gt_of_ne hij with h3 | h3
  · exact key i j p q h3 hi hj
  · obtain ⟨a, b⟩ := key j i q p h3 hj hi
    exact ⟨a.symm, b.symm⟩
def upd (F : Nat → Ent) (m : Nat) (e : Ent) : Nat → Ent := fun j => if j = m then e else F j
theorem upd_at (F : Nat → Ent) (m : Nat) (e : Ent) : upd F m e m = e := if_pos rfl
theorem upd_ne (F : Nat → Ent) {m j : Nat} (e : Ent) (h : j ≠ m) : upd F m e j = F j := if_neg h
/-- The slice holds the entries F 0, F 1, ..; their links and operations are the slices ps. -/
def StE (w : World) (B g c n : Nat) (ps : List (Value × Value)) (F : Nat → Ent) : Prop :=
  ∃ xs, w.ownsRow B 33 4 (.slice (some ⟨g, 0, none⟩) n c) n xs ∧ ∀ j, j < n → ∃ p, ps[j]? = some p ∧ xs[j * 4]? = some (.int .i64 (F j).kd) ∧ xs[j * 4 + 1]? = some p.1 ∧ xs[j * 4 + 2]? = some (.int .i64 (F j).b) ∧ xs[j * 4 + 3]? = some p.2 ∧ Own w B p.1 (F j).zs ∧ OwnOps w B p.2 (F j).ops
section
variable {w w' : World} {B g c n m : Nat} {ps : List (Value × Value)} {F G : Nat → Ent}
theorem StE.congr (h : StE w B g c n ps F) (e : ∀ j, j < n → F j = G j) : StE w B g c n ps G := by
  obtain ⟨xs, h1, h2⟩ := h
  exact ⟨xs, h1, fun j hj => by rw [← e j hj]; exact h2 j hj⟩
theorem StE.below (h : StE w B g c n ps F) (hb : Below w.heap.size w w') : StE w' B g c n ps F := by
  obtain ⟨xs, h1, h2⟩ := h
  refine ⟨xs, own_below h1 hb (Nat.le_refl _), fun j hj => ?_⟩
  obtain ⟨p, q0, q1, q2, q3, q4, q5, q6⟩ := h2 j hj
  exact ⟨p, q0, q1, q2, q3, q4, q5.below hb (Nat.le_refl _), q6.below hb⟩
theorem StE.setKd (h : StE w B g c n ps F) (hm : m < n) (k : Int) : StE (w.setCell ⟨g, m * 4, none⟩ (.int .i64 k)) B g c n ps (upd F m ⟨k, (F m).zs, (F m).b, (F m).ops⟩) := by
  obtain ⟨xs, h1, h2⟩ := h
  have hl := h1.1
  have hs := World.ownsRow.stored h1 (m * 4) (.int .i64 k)
  refine ⟨xs.set (m * 4) (.int .i64 k), hs.1, fun j hj => ?_⟩
  obtain ⟨p, q0, q1, q2, q3, q4, q5, q6⟩ := h2 j hj
  have k5 := row_keep q5 h1 (by decide) hs.2
  have k6 := row_keep q6 h1 (by decide) hs.2
  have t : ∀ d, 0 < d → d < 4 → (xs.set (m * 4) (.int .i64 k))[j * 4 + d]? = xs[j * 4 + d]? := fun d hd hd2 => by rw [List.getElem?_set_ne (by omega)]
  by_cases e : j = m
  · subst e
    rw [upd_at]
    exact ⟨p, q0, by rw [List.getElem?_set_self (by omega)], by rw [t 1 (by omega) (by omega)]; exact q2, by rw [t 2 (by omega) (by omega)]; exact q3, by rw [t 3 (by omega) (by omega)]; exact q4, k5, k6⟩
  · rw [upd_ne _ _ e]
    exact ⟨p, q0, by rw [List.getElem?_set_ne (by omega)]; exact q1, by rw [t 1 (by omega) (by omega)]; exact q2, by rw [t 2 (by omega) (by omega)]; exact q3, by rw [t 3 (by omega) (by omega)]; exact q4, k5, k6⟩
theorem StE.setB (h : StE w B g c n ps F) (hm : m < n) (k : Int) : StE (w.setCell ⟨g, m * 4 + 2, none⟩ (.int .i64 k)) B g c n ps (upd F m ⟨(F m).kd, (F m).zs, k, (F m).ops⟩) := by
  obtain ⟨xs, h1, h2⟩ := h
  have hl := h1.1
  have hs := World.ownsRow.stored h1 (m * 4 + 2) (.int .i64 k)
  refine ⟨xs.set (m * 4 + 2) (.int .i64 k), hs.1, fun j hj => ?_⟩
  obtain ⟨p, q0, q1, q2, q3, q4, q5, q6⟩ := h2 j hj
  have k5 := row_keep q5 h1 (by decide) hs.2
  have k6 := row_keep q6 h1 (by decide) hs.2
  have t : ∀ d, d < 4 → d ≠ 2 → (xs.set (m * 4 + 2) (.int .i64 k))[j * 4 + d]? = xs[j * 4 + d]? := fun d hd hd2 => by rw [List.getElem?_set_ne (by omega)]
  by_cases e : j = m
  · subst e
    rw [upd_at]
    exact ⟨p, q0, by rw [show j * 4 = j * 4 + 0 from rfl, t 0 (by omega) (by omega)]; exact q1, by rw [t 1 (by omega) (by omega)]; exact q2, by rw [List.getElem?_set_self (by omega)], by rw [t 3 (by omega) (by omega)]; exact q4, k5, k6⟩
  · rw [upd_ne _ _ e]
    exact ⟨p, q0, by rw [show j * 4 = j * 4 + 0 from rfl, t 0 (by omega) (by omega)]; exact q1, by rw [t 1 (by omega) (by omega)]; exact q2, by rw [List.getElem?_set_ne (by omega)]; exact q3, by rw [t 3 (by omega) (by omega)]; exact q4, k5, k6⟩
theorem kept_ap {e : TypeId} {sz k : Nat} {v u : Value} {xs : List Value} (h : w.ownsRow B e sz v k xs) (hg : w.grownBy w' u.ownBlock) (hap : Ap2 v u) : w'.ownsRow B e sz v k xs :=
  World.ownsRow.kept h hg (by
    rcases hv : v.ownBlock with _ | q
    · exact .inl rfl
    · exact .inr (fun hu => hap q hv hu.symm))
theorem StE.links (h : StE w B g c n ps F) (hA : Apl ps) (hm : m < n) {p : Value × Value} (hp : ps[m]? = some p) {zs : List Int} (hg : w.grownBy w' p.1.ownBlock) (ho : Own w' B p.1 zs) : StE w' B g c n ps (upd F m ⟨(F m).kd, zs, (F m).b, (F m).ops⟩) := by
  obtain ⟨xs, h1, h2⟩ := h
  obtain ⟨pm, r0, _, _, _, _, r5, _⟩ := h2 m hm
  obtain rfl : pm = p := by rw [hp] at r0; injection r0 with r0; exact r0.symm
  refine ⟨xs, row_keep h1 r5 (by decide) hg, fun j hj => ?_⟩
  obtain ⟨q, q0, q1, q2, q3, q4, q5, q6⟩ := h2 j hj
  have k6 := row_keep q6 r5 (by decide) hg
  by_cases e : j = m
  · subst e
    obtain rfl : q = pm := by rw [hp] at q0; injection q0 with q0; exact q0.symm
    rw [upd_at]
    exact ⟨q, q0, q1, q2, q3, q4, ho, k6⟩
  · rw [upd_ne _ _ e]
    exact ⟨q, q0, q1, q2, q3, q4, kept_ap q5 hg (hA j m q pm e q0 hp).1, k6⟩
theorem StE.ops (h : StE w B g c n ps F) (hA : Apl ps) (hm : m < n) {p : Value × Value} (hp : ps[m]? = some p) {os : List Op2} (hg : w.grownBy w' p.2.ownBlock) (ho : OwnOps w' B p.2 os) : StE w' B g c n ps (upd F m ⟨(F m).kd, (F m).zs, (F m).b, os⟩) := by
  obtain ⟨xs, h1, h2⟩ := h
  obtain ⟨pm, r0, _, _, _, _, _, r6⟩ := h2 m hm
  obtain rfl : pm = p := by rw [hp] at r0; injection r0 with r0; exact r0.symm
  refine ⟨xs, row_keep h1 r6 (by decide) hg, fun j hj => ?_⟩
  obtain ⟨q, q0, q1, q2, q3, q4, q5, q6⟩ := h2 j hj
  have k5 := row_keep q5 r6 (by decide) hg
  by_cases e : j = m
  · subst e
    obtain rfl : q = pm := by rw [hp] at q0; injection q0 with q0; exact q0.symm
    rw [upd_at]
    exact ⟨q, q0, q1, q2, q3, q4, k5, ho⟩
  · rw [upd_ne _ _ e]
    exact ⟨q, q0, q1, q2, q3, q4, k5, kept_ap q6 hg (hA j m q pm e q0 hp).2⟩
/-- What one reads of entry m. -/
theorem StE.at_ (h : StE w B g c n ps F) (hm : m < n) : ∃ p, ps[m]? = some p ∧ w.cell? ⟨g, m * 4, none⟩ = some (.int .i64 (F m).kd) ∧ w.cell? ⟨g, m * 4 + 1, none⟩ = some p.1 ∧ w.cell? ⟨g, m * 4 + 2, none⟩ = some (.int .i64 (F m).b) ∧ w.cell? ⟨g, m * 4 + 3, none⟩ = some p.2 ∧
    Own w B p.1 (F m).zs ∧ OwnOps w B p.2 (F m).ops ∧ (∀ o, w.frozen? ⟨g, o, none⟩ = false) ∧ B ≤ g := by
  obtain ⟨xs, h1, h2⟩ := h
  have hl := h1.1
  obtain ⟨p, q0, q1, q2, q3, q4, q5, q6⟩ := h2 m hm
  exact ⟨p, q0, (World.ownsRow.cellAt h1 _ (by omega)).trans q1, (World.ownsRow.cellAt h1 _ (by omega)).trans q2, (World.ownsRow.cellAt h1 _ (by omega)).trans q3, (World.ownsRow.cellAt h1 _ (by omega)).trans q4, q5, q6, fun o => World.ownsRow.frozenAt h1 o, (World.ownsRow.lt h1 g rfl).1⟩
end

/-- The mark at which entry m begins. -/
def eAt (es : List Ent) (m : Nat) : Nat := 1 + ((es.take m).map fun e => e.zs.length + 2 + 3 * e.ops.length).sum
theorem eAt_succ {es : List Ent} {m : Nat} (hm : m < es.length) : eAt es (m + 1) = eAt es m + (es[m].zs.length + 2 + 3 * es[m].ops.length) := by
  unfold eAt
  rw [List.take_succ_eq_append_getElem hm, List.map_append, List.sum_append]
  simp
  omega
theorem eAt_le {es : List Ent} (hs : ∀ e ∈ es, e.zs.length ≤ 8 ∧ e.ops.length ≤ 8) : ∀ m, m ≤ es.length → eAt es m ≤ 1 + 34 * m := by
  intro m
  induction m with
  | zero => intro _; show 1 ≤ 1; omega
  | succ m ih =>
    intro h
    have := ih (by omega)
    have h2 := hs _ (List.getElem_mem (show m < es.length by omega))
    rw [eAt_succ (by omega)]
    omega
/-- Entry e with the marks from k on. -/
def mkEn (k : Nat) (e : Ent) : Ent := ⟨(k : Int), marks ((k : Int) + 1) e.zs.length, (k : Int) + 1 + e.zs.length, opMs (k + 2 + e.zs.length) e.ops.length⟩
def enAt (es : List Ent) (j : Nat) : Ent := (es[j]?).getD ⟨0, [], 0, []⟩
theorem enAt_get {es : List Ent} {j : Nat} (h : j < es.length) : enAt es j = es[j] := by unfold enAt; rw [List.getElem?_eq_getElem h]; rfl
/-- The entries, the first m of them marked. -/
def mixE (es : List Ent) (m : Nat) : Nat → Ent := fun j => if j < m then mkEn (eAt es j) (enAt es j) else enAt es j
theorem mixE_step (es : List Ent) (m : Nat) : upd (mixE es m) m (mkEn (eAt es m) (enAt es m)) = mixE es (m + 1) := by
  funext j
  by_cases e : j = m
  · subst e
    rw [upd_at]
    unfold mixE
    rw [if_pos (Nat.lt_succ_self _)]
  · rw [upd_ne _ _ e]
    unfold mixE
    by_cases hlt : j < m
    · rw [if_pos hlt, if_pos (by omega)]
    · rw [if_neg hlt, if_neg (by omega)]
theorem mixE_at (es : List Ent) (m : Nat) : mixE es m m = enAt es m := if_neg (Nat.lt_irrefl m)
theorem upd_upd (F : Nat → Ent) (m : Nat) (a b : Ent) : upd (upd F m a) m b = upd F m b := by
  funext j
  by_cases e : j = m
  · subst e; rw [upd_at, upd_at]
  · rw [upd_ne _ _ e, upd_ne _ _ e, upd_ne _ _ e]

set_option maxRecDepth 100000 in
set_option maxHeartbeats 4000000 in
theorem markPackEntryS_is (B g c : Nat) (es : List Ent) (ps : List (Value × Value)) (w : World) (h : StE w B g c es.length ps (enAt es)) (hA : Apl ps) (hB : B ≤ w.heap.size) (hn : es.length ≤ 16) (hs : ∀ e ∈ es, e.zs.length ≤ 8 ∧ e.ops.length ≤ 8) :
    Calls Try.prog 27 #[.slice (some ⟨g, 0, none⟩) es.length c, .int .i64 1] w (fun e w' => e = .returned (.int .i64 (eAt es es.length : Nat)) ∧ StE w' B g c es.length ps (mixE es es.length) ∧ Below B w w') := by
  have hm0 : StE w B g c es.length ps (mixE es 0) := h.congr fun j _ => (if_neg (Nat.not_lt_zero j)).symm
  clear h
  have HS := hid hs
  have HA := hid hA
  go_enter Try.func27, Try.ntmps27
  go_wp2_with fail
  go_loopw [1, 5] (fun q i wr => ∃ m K : Nat, m ≤ es.length ∧ i = .int .i64 m ∧ q = .int .i64 (K : Nat) ∧ K ≤ 1000 ∧ Hid (K = eAt es m) ∧ StE wr B g c es.length ps (mixE es m) ∧ Below B w wr) (fun _ i _ => es.length - (intOf i).toNat)
  case atStart => exact ⟨0, 1, Nat.zero_le _, rfl, rfl, by omega, rfl, hm0, Below.refl _ _⟩
  case round =>
    clear hm0 hs hA
    obtain ⟨m, K, hm, rfl, rfl, hK, HK, hl, hb⟩ := hrel
    by_cases hlt : m < es.length
    · have hk1 := eAt_succ hlt
      have hk2 := eAt_le HS.out (m + 1) (by omega)
      obtain ⟨hz8, ho8⟩ := HS.out _ (List.getElem_mem hlt)
      have hen := enAt_get hlt
      have hstep := mixE_step es m
      have hma := mixE_at es m
      obtain ⟨en, hEn⟩ : ∃ en, enAt es m = en := ⟨_, rfl⟩
      rw [hEn] at hen hstep hma
      rw [← hen] at hk1 hz8 ho8
      obtain ⟨kd, zs, b0, os⟩ := en
      simp only at hk1 hz8 ho8
      have HF : Hid (upd (mixE es m) m ⟨(K : Int), marks ((K : Int) + 1) zs.length, (K : Int) + 1 + zs.length, opMs (K + 2 + zs.length) os.length⟩ = mixE es (m + 1)) := by
        show _ = _
        rw [← hstep, HK.out]
        rfl
      have HK2 : Hid (K + 2 + zs.length + 3 * os.length = eAt es (m + 1)) := by show _ = _; rw [hk1, HK.out]; omega
      have hKx : K + 2 + zs.length + 3 * os.length ≤ 1000 := by rw [HK2.out]; omega
      have s1 := hl.setKd hlt (K : Nat)
      rw [hma] at s1
      obtain ⟨p, hp, q0, q1, q2, q3, p1, p2, fz, hBg⟩ := hl.at_ hlt
      have f0 := fz (m * 4)
      rw [hma] at q0 q2
      have hz := hb.size
      have b1 := hb.setCell (p := ⟨g, m * 4, none⟩) hBg (.int .i64 (K : Nat))
      have z1 : B ≤ (wr.setCell ⟨g, m * 4, none⟩ (.int .i64 (K : Nat))).heap.size := by simp [World.setCell]; omega
      obtain ⟨p', hp', -, -, -, -, o1, o2, -, -⟩ := s1.at_ hlt
      obtain rfl : p = p' := by rw [hp] at hp'; injection hp'
      rw [upd_at] at o1 o2
      obtain ⟨A1, c1, e1, -⟩ := o1.form
      obtain ⟨A2, c2, e2, -⟩ := o2.form
      obtain ⟨v1, v2⟩ := p
      simp only at e1 e2 q1 q3 o1 o2
      subst e1 e2
      have HP := hid hp
      have S1 := hid s1
      have lt1 := World.ownsRow.lt o1
      have lt2 := World.ownsRow.lt o2
      clear hk1 hk2 hen hstep hma hEn hl p1 p2 fz hb hp hp' s1 o2 q2 q3 lt2
      obtain ⟨n, hnn⟩ : ∃ n, zs.length = n := ⟨_, rfl⟩
      have hcm := markInts_any B A1 c1 zs ((K : Int) + 1) (wr.setCell ⟨g, m * 4, none⟩ (.int .i64 (K : Nat))) o1 (by omega) (by omega) (by omega)
      clear o1
      rw [hnn] at hcm HF HK2 hKx HP lt1 q1
      clear hz8 hnn
      go_wp2_with fail
      refine hcm.mono ?_
      rintro e w2 ⟨rfl, h2, h3⟩
      have s2 := S1.out.links HA.out hlt HP.out h3 h2
      simp only [upd_at, upd_upd] at s2
      have b2 : Below B w w2 := b1.grown h3 z1 (fun k hk => (lt1 k hk).1)
      have z2 := Nat.le_trans hB b2.size
      clear hcm h2 h3 b1 lt1 q0 q1 f0 S1 z1
      obtain ⟨p', hp', -, -, q2, q3, -, -, fz, -⟩ := s2.at_ hlt
      rw [HP.out] at hp'
      injection hp' with hp'
      subst hp'
      simp only [upd_at] at q2 q3
      have f2 := fz (m * 4 + 2)
      have s3 := s2.setB hlt ((K : Int) + 1 + n)
      simp only [upd_at, upd_upd] at s3
      have b3 := b2.setCell (p := ⟨g, m * 4 + 2, none⟩) hBg (.int .i64 ((K : Int) + 1 + n))
      have z3 : B ≤ (w2.setCell ⟨g, m * 4 + 2, none⟩ (.int .i64 ((K : Int) + 1 + n))).heap.size := by simp [World.setCell]; omega
      obtain ⟨p', hp', -, -, -, -, -, o3, -, -⟩ := s3.at_ hlt
      rw [HP.out] at hp'
      injection hp' with hp'
      subst hp'
      simp only [upd_at] at o3
      have hxx : (K : Int) + 1 + n + 1 = (K : Int) + 2 + n := by omega
      have hx2 : ((K + 2 + n : Nat) : Int) = (K : Int) + 2 + n := by omega
      have hco := markOpS_any B (K + 2 + n) (.slice A2 os.length c2) os (w2.setCell ⟨g, m * 4 + 2, none⟩ (.int .i64 ((K : Int) + 1 + n))) o3 ho8 (by omega) (by omega)
      rw [hx2] at hco
      clear hx2
      have lt3 := World.ownsRow.lt o3
      have S3 := hid s3
      clear s2 s3 o3 fz b2 z2
      go_wp2_with fail
      refine hco.mono ?_
      rintro e w4 ⟨rfl, h5, h6⟩
      have s4 := S3.out.ops HA.out hlt HP.out h6 h5
      simp only [upd_at, upd_upd] at s4
      rw [HF.out] at s4
      have b4 : Below B w w4 := b3.grown h6 z3 (fun k hk => (lt3 k hk).1)
      clear hco h5 h6 b3 lt3 S3 q2 q3 f2 hxx
      go_wp2_with fail
      go_roundw
      case rel => exact ⟨m + 1, K + 2 + n + 3 * os.length, by omega, by go_num, rfl, hKx, HK2.out, s4, b4⟩
      case measure => simp [intOf]; omega
    · have hm' : m = es.length := by omega
      subst hm'
      go_wp2
      go_ret
      have hKe := HK.out
      subst hKe
      exact ⟨rfl, hl, hb⟩
end Go.Proofs.Ytkekbobnbipmoaa
