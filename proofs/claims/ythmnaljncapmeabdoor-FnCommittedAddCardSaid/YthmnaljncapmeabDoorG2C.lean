/-
  Walks: updates performed, by the model.
  Walks: RefsApply, RefsDiffer and UpdatesCross of the model.
  Walks: RefsDiffer and UpdatesCross of the model.
  Walk: UpdatesCross of the model.
  Walks: drawn refs and updates.
  Walks: drawn updates.
  Walks: what the laws on refs draw.
  Walks: the laws' own helpers on updates: compared, turned round.
  Plain facts: arrays in memory; lists of refs that are being filled; which refs have been marked.
  Walks: the program's ids, updates and arrays of refs.
  Walks: the program's updates of an array of refs; which refs are updated.
  Walks: the program's five functions on refs and updates.
  Walks: which locks are valid, taken, freed and whose they are, by the model.
  Walks: locks taken, by the model.
  Walks: locks freed, and whose they are, by the model.
  Walks: LocksFree and LocksOf of the model.
  Walks: drawn locks and transactions.
  Walks: what the laws on locks draw.
  Walks: the program's functions on locks, but for LocksTake.
  Walks: the program's LocksTake, with its two refusals as error values.
  What the row's listed error values give the walks.
  What the program's ledger holds: a list of 29 cells.
  Walks: what records say of a transaction, by the model.
  Walk: a shard without records, by the model.
  Walks: the program's ledger that nothing has been told; a transaction's last state.
  Walks: what the program's ledger is after a transaction is decided.
-/
import Derived.Test.YthmnaljncapmeabDoorRefU
import Derived.Laws.Rows
import Derived.Laws.Tables
import Derived.Laws.CopyOwn
import Derived.Great.BuildSlice
import Derived.Test.YthmnaljncapmeabDoorG0C
import Derived.Test.YthmnaljncapmeabDoorErrIs
import Derived.Test.YthmnaljncapmeabDoorRows
import Derived.MakeChecks
import Derived.LaidLaws
import Derived.Stop.LaidTwo
import Derived.Test.YthmnaljncapmeabDoorG1C
import Derived.Deep.MidRow
import Derived.Deep.Cut
namespace Go.Proofs.YthmnaljncapmeabDoor
open Go.RowKit Wo Pu Rf

/-- The refs of the updates are refs. -/
def Refs4 (us : List Up) : Prop := ∀ u ∈ us, 0 ≤ u.r ∧ u.r ≤ 3
theorem refs4_of {us : List Up} (h : UV us) : Refs4 us := fun u hu => (h.2.mem u hu).2.1
def FitTo (zs : List Int) (us : List Up) (k : Nat) : Prop := ∀ j (h : j < us.length), j < k → fit1 zs us[j]
theorem FitTo.zero (zs : List Int) (us : List Up) : FitTo zs us 0 := fun _ _ h => absurd h (Nat.not_lt_zero _)
theorem FitTo.next {zs : List Int} {us : List Up} {k : Nat} (h : FitTo zs us k) (hk : k < us.length) (ho : fit1 zs us[k]) : FitTo zs us (k + 1) := fun j hj hl => by
  by_cases e : j = k
  · subst e; exact ho
  · exact h j hj (by omega)
theorem FitTo.all {zs : List Int} {us : List Up} (h : FitTo zs us us.length) : Fits zs us := fun u hu => by
  obtain ⟨j, hj, rfl⟩ := List.getElem_of_mem hu
  exact h j hj hj
set_option maxRecDepth 100000 in
set_option maxHeartbeats 4000000 in
theorem l11Fits_is (b : Bool) (A A2 : Option Addr) (c c2 : Nat) (zs : List Int) (us : List Up) (w : World) (B B2 : Nat) (hz : Row w B A (ints zs)) (h4 : zs.length = 4) (hu : Row w B2 A2 (upsV us)) (hr : Refs4 us) (hm : us.length ≤ 1048600) (hb : b = true ↔ Fits zs us) :
    Calls Tryd.prog 96 #[.slice A zs.length c, .slice A2 us.length c2] w (Ret (.bool b) w) := by
  have HB := hid hb
  clear hb
  have H4 := hid h4
  clear h4
  go_enter Tryd.func96, Tryd.ntmps96
  go_wp2_with fail
  go_loopw [5] (fun i wr => ∃ k : Nat, k ≤ us.length ∧ i = .int .i64 k ∧ Hid (FitTo zs us k) ∧ Dr w wr) (fun i _ => us.length - (intOf i).toNat)
  case atStart => exact ⟨0, Nat.zero_le _, rfl, .zero zs us, .refl _⟩
  case round =>
    obtain ⟨k, hk, rfl, H, HW⟩ := hrel
    by_cases hlt : k < us.length
    · obtain ⟨o, ad, ho, rfl, ha1, g0, g1, -⟩ := (HW.row hu).up_ hlt
      obtain ⟨q0, q1⟩ := hr _ (List.getElem_mem hlt)
      rw [ho] at q0 q1
      obtain ⟨m, hm0⟩ := Int.eq_ofNat_of_zero_le q0
      have hmz : m < zs.length := by rw [H4.out]; omega
      obtain ⟨ad2, rfl, hb2, hc2⟩ := (HW.row hz).int_ hmz
      rw [hm0] at g0
      have k0 : (0 : Int) ≤ (k : Int) := by omega
      have k1 : (k : Int) < (us.length : Int) := by omega
      have k2 : (0 : Int) ≤ (m : Int) := by omega
      have k3 : (m : Int) < (zs.length : Int) := by omega
      have hfit : fit1 zs us[k] ↔ zs[m] = o.o := by
        unfold fit1
        rw [ho, hm0, Int.toNat_natCast, List.getElem?_eq_getElem hmz]
        exact ⟨fun h => by injection h, fun h => by rw [h]⟩
      by_cases heq : zs[m] = o.o
      · have e0 : (zs[m] != o.o) = false := by rw [bne_eq_false_iff_eq]; exact heq
        have HN := hid (H.out.next hlt (hfit.2 heq))
        clear H hfit heq ho hm0 q0 q1
        go_wp2
        go_quiet (fail)
        go_wp2
        go_roundw
        case rel => exact ⟨k + 1, by omega, by go_num, HN, HW.drewN _⟩
        case measure => simp [intOf]; omega
      · have e0 : (zs[m] != o.o) = true := by rw [bne_iff_ne]; exact heq
        have F : Hid (b = false) := by
          show b = false
          rw [← Bool.not_eq_true]
          exact fun e => heq (hfit.1 (HB.out.1 e _ (List.getElem_mem hlt)))
        clear H hfit heq ho hm0 q0 q1
        go_wp2
        go_quiet (fail)
        go_wp2
        go_ret
        rw [F.out]
        exact .mk_ ((HW.drewN _).below _)
    · have hk' : k = us.length := by omega
      subst hk'
      have F := hid (HB.out.2 H.out.all)
      clear H
      go_wp2
      go_ret
      rw [F.out]
      exact .mk_ (HW.below _)
theorem setR_take {zs : List Int} {us : List Up} {k : Nat} (hk : k < us.length) : setR zs (us.take (k + 1)) = (setR zs (us.take k)).set us[k].r.toNat us[k].n := by
  rw [List.take_succ_eq_append_getElem hk, setR_snoc]
theorem ints_set (zs : List Int) (m : Nat) (x : Int) : (ints zs).set m (.int .i64 x) = ints (zs.set m x) := by unfold ints; rw [List.map_set]
/-- Integers stored into. -/
theorem OwnI.set {w : World} {B g c : Nat} {zs : List Int} (h : OwnI w B (.slice (some ⟨g, 0, none⟩) zs.length c) zs) (m : Nat) (x : Int) : OwnI (w.setCell ⟨g, m, none⟩ (.int .i64 x)) B (.slice (some ⟨g, 0, none⟩) (zs.set m x).length c) (zs.set m x) := by
  have := (World.ownsRow.stored h m (.int .i64 x)).1
  rw [ints_set] at this
  unfold OwnI
  rw [List.length_set]
  exact this
theorem OwnI.cell {w : World} {B g c : Nat} {zs : List Int} (h : OwnI w B (.slice (some ⟨g, 0, none⟩) zs.length c) zs) {m : Nat} (hm : m < zs.length) : w.cell? ⟨g, m, none⟩ = some (.int .i64 zs[m]) := by
  have := World.ownsRow.cellAt h m (by omega)
  rw [this]
  simp [ints, hm]
theorem OwnI.at {w : World} {B : Nat} {v : Value} {zs : List Int} (h : OwnI w B v zs) (hp : 0 < zs.length) : ∃ g c, v = .slice (some ⟨g, 0, none⟩) zs.length c ∧ B ≤ g ∧ g < w.heap.size := by
  obtain ⟨g, cap, e, h1, h2⟩ := World.ownsRow.form h hp
  exact ⟨g, cap, e, h1, h2⟩
set_option maxRecDepth 100000 in
set_option maxHeartbeats 4000000 in
theorem l11Set_any (A A2 : Option Addr) (c c2 : Nat) (zs : List Int) (us : List Up) (w : World) (hz : Row w w.heap.size A (ints zs)) (h4 : zs.length = 4) (hu : Row w w.heap.size A2 (upsV us)) (hr : Refs4 us) (hm : us.length ≤ 1048600) :
    Calls Tryd.prog 98 #[.slice A zs.length c, .slice A2 us.length c2] w (IntsOf (setR zs us) w) := by
  obtain ⟨i0, hi, hz0, hz1, hz2⟩ := info_of info_int
  have H4 := hid h4
  have HE := hid (setR_length us zs)
  have al := (Below.refl w.heap.size w).alloc (Nat.le_refl _) (.cells #[] 3)
  have hzl : Hid (zs.length ≤ 10) := by show _ ≤ _; omega
  clear h4
  go_enter Tryd.func98, Tryd.ntmps98
  go_wp2_with (at_builtin; go_must (refine wpList_append_row _ rfl _ _ 28 rfl w.heap.size 3 i0 (.int .i64 0) 1 8 Tryd.underlying28 hi hz0 hz1 hz2 rfl (by decide) _ 0 [] rfl (nil_own (Nat.le_refl _) _ _) w.heap.size A zs.length c (ints zs) rfl (hz.below al (Nat.le_refl _)) (by rw [ints_length]; omega) (by intro u hu; obtain ⟨x, _, rfl⟩ := List.mem_map.1 hu; rfl) (by have := hzl.out; unfold maxLen; omega) (by have := hzl.out; omega) (by simp) ?_); intro v4 w4 hown hg)
  have b4 : Below w.heap.size w w4 := al.grown hg (by simp) (fun j hj => by injection hj with hj; exact Nat.le_of_eq hj)
  have ho0 : OwnI w4 w.heap.size v4 zs := by
    unfold OwnI
    rw [Nat.zero_add, List.nil_append] at hown
    exact hown
  obtain ⟨g, c4, rfl, hg1, hg2⟩ := ho0.at (by rw [H4.out]; omega)
  clear hown hg al
  go_wp2_with fail
  go_loopw [6] (fun i wr => ∃ k : Nat, k ≤ us.length ∧ i = .int .i64 k ∧ OwnI wr w.heap.size (.slice (some ⟨g, 0, none⟩) zs.length c4) (setR zs (us.take k)) ∧ Below w.heap.size w wr) (fun i _ => us.length - (intOf i).toNat)
  case atStart => exact ⟨0, Nat.zero_le _, rfl, by rw [List.take_zero, setR_nil]; exact ho0, b4⟩
  case round =>
    obtain ⟨k, hk, rfl, ho, hb⟩ := hrel
    clear ho0 b4
    by_cases hlt : k < us.length
    · obtain ⟨o, ad, ho1, rfl, ha1, g0, -, g2⟩ := (hu.below hb (Nat.le_refl _)).up_ hlt
      obtain ⟨q0, q1⟩ := hr _ (List.getElem_mem hlt)
      rw [ho1] at q0 q1
      obtain ⟨m, hm0⟩ := Int.eq_ofNat_of_zero_le q0
      rw [hm0] at g0
      have hsl := setR_length (us.take k) zs
      have ho' : OwnI wr w.heap.size (.slice (some ⟨g, 0, none⟩) (setR zs (us.take k)).length c4) (setR zs (us.take k)) := by rw [hsl]; exact ho
      have hmz : m < (setR zs (us.take k)).length := by rw [hsl, H4.out]; omega
      have y0 := ho'.cell hmz
      have f0 := World.ownsRow.frozenAt ho' m
      have ho2 := ho'.set m o.n
      have hb2 := hb.setCell (p := ⟨g, m, none⟩) hg1 (.int .i64 o.n)
      have hst := setR_take (zs := zs) hlt
      rw [ho1, hm0, Int.toNat_natCast] at hst
      have hl2 : ((setR zs (us.take k)).set m o.n).length = zs.length := by rw [List.length_set, hsl]
      rw [← hst] at ho2 hl2
      rw [hl2] at ho2
      have k0 : (0 : Int) ≤ (k : Int) := by omega
      have k1 : (k : Int) < (us.length : Int) := by omega
      have k2 : (0 : Int) ≤ (m : Int) := by omega
      have k3 : (m : Int) < (zs.length : Int) := by rw [H4.out]; omega
      clear ho ho' hb hst hl2 hsl q0 q1 hm0 ho1
      go_wp2_with fail
      go_region_law (fail)
      go_wp2
      go_roundw
      case rel => exact ⟨k + 1, by omega, by go_num, ho2, hb2.drew⟩
      case measure => simp [intOf]; omega
      exact ⟨⟨k + 1, by omega, by go_num, ho2, hb2.drew⟩, by simp [intOf]; omega⟩
    · have hk' : k = us.length := by omega
      subst hk'
      rw [List.take_length] at ho
      go_wp2
      go_ret
      refine ⟨some ⟨g, 0, none⟩, c4, ?_, ?_, hb⟩
      · rw [HE.out]; rfl
      · rw [HE.out]; exact ho
end Go.Proofs.YthmnaljncapmeabDoor
namespace Go.Proofs.YthmnaljncapmeabDoor
open Go.RowKit Wo Pu Rf

/-- What RefsApply answers. -/
def Applied (zs : List Int) (us : List Up) (y : RWay) (w : World) (e : Ending) (w' : World) : Prop := ∃ A c, e = .returned (.tuple #[.slice A (applied zs us y).length c, .bool y.ok]) ∧ OwnI w' w.heap.size (.slice A (applied zs us y).length c) (applied zs us y) ∧ Below w.heap.size w w'
end Go.Proofs.YthmnaljncapmeabDoor
namespace Go.Proofs.YthmnaljncapmeabDoor
open Go.RowKit Wo Pu Rf

/-- The differences, if both are refs. -/
def difs (v : Bool) (a b : List Int) : List Up := if v then dif a b else []
/-- What is still to be told from k on. -/
def DifTo (a b : List Int) (us : List Up) (k : Nat) : Prop := dif a b = us ++ difL k (a.drop k) (b.drop k)
theorem DifTo.zero (a b : List Int) : DifTo a b [] 0 := rfl
theorem DifTo.same {a b : List Int} {us : List Up} {k : Nat} (h : DifTo a b us k) (ha : k < a.length) (hb : k < b.length) (e : a[k] = b[k]) : DifTo a b us (k + 1) := by
  unfold DifTo at h ⊢
  rw [h, List.drop_eq_getElem_cons ha, List.drop_eq_getElem_cons hb]
  conv => lhs; unfold difL
  rw [if_pos e]
  rfl
theorem DifTo.more {a b : List Int} {us : List Up} {k : Nat} (h : DifTo a b us k) (ha : k < a.length) (hb : k < b.length) (e : ¬ a[k] = b[k]) : DifTo a b (us ++ [⟨(k : Int), a[k], b[k]⟩]) (k + 1) := by
  unfold DifTo at h ⊢
  rw [h, List.drop_eq_getElem_cons ha, List.drop_eq_getElem_cons hb]
  conv => lhs; unfold difL
  rw [if_neg e, List.append_assoc]
  rfl
theorem DifTo.all {a b : List Int} {us : List Up} {k : Nat} (h : DifTo a b us k) (ha : a.length ≤ k) : dif a b = us := by
  unfold DifTo at h
  rw [h, List.drop_of_length_le ha]
  unfold difL
  rw [List.append_nil]
/-- Updates of the call's own. -/
def UpsOf (us : List Up) (w : World) (e : Ending) (w' : World) : Prop := ∃ A c, e = .returned (.slice A us.length c) ∧ OwnUps w' w.heap.size (.slice A us.length c) us ∧ Below w.heap.size w w'
theorem UpsOf.mk_ {us : List Up} {w w' : World} {v : Value} (ho : OwnUps w' w.heap.size v us) (hb : Below w.heap.size w w') : UpsOf us w (.returned v) w' := by
  obtain ⟨A, c, rfl, _⟩ := ho.form
  exact ⟨A, c, rfl, ho, hb⟩
theorem OwnUps.app {w' : World} {B : Nat} {v' : Value} {us : List Up} {u : Up} (h : w'.ownsRow B 97 3 v' (us.length + 1) (upsV us ++ [.int .i64 u.r, .int .i64 u.o, .int .i64 u.n])) : OwnUps w' B v' (us ++ [u]) := by
  unfold OwnUps
  rw [List.length_append, List.length_singleton, upsV_append, upsV_one]
  exact h
end Go.Proofs.YthmnaljncapmeabDoor
namespace Go.Proofs.YthmnaljncapmeabDoor
open Go.RowKit Wo Pu Rf

/-- None of the first k of a names a ref of b. -/
def NoTo (a b : List Up) (k : Nat) : Prop := ∀ i (h : i < a.length), i < k → ∀ v ∈ b, a[i].r ≠ v.r
theorem NoTo.zero (a b : List Up) : NoTo a b 0 := fun _ _ h => absurd h (Nat.not_lt_zero _)
/-- x is the ref of none of the first k of b. -/
def NoIn (x : Int) (b : List Up) (k : Nat) : Prop := ∀ i (h : i < b.length), i < k → x ≠ b[i].r
theorem NoIn.zero (x : Int) (b : List Up) : NoIn x b 0 := fun _ _ h => absurd h (Nat.not_lt_zero _)
theorem NoIn.next {x : Int} {b : List Up} {k : Nat} (h : NoIn x b k) (hk : k < b.length) (e : x ≠ b[k].r) : NoIn x b (k + 1) := fun i hi hl => by
  by_cases e2 : i = k
  · subst e2; exact e
  · exact h i hi (by omega)
theorem NoTo.next {a b : List Up} {k : Nat} (h : NoTo a b k) (hk : k < a.length) (e : NoIn a[k].r b b.length) : NoTo a b (k + 1) := fun i hi hl v hv => by
  by_cases e2 : i = k
  · subst e2
    obtain ⟨j, hj, rfl⟩ := List.getElem_of_mem hv
    exact e j hj hj
  · exact h i hi (by omega) v hv
theorem NoTo.none {a b : List Up} (h : NoTo a b a.length) : ¬ Cross a b := fun ⟨_, _, u, hu, v, hv, e⟩ => by
  obtain ⟨i, hi, rfl⟩ := List.getElem_of_mem hu
  exact h i hi hi v hv e
end Go.Proofs.YthmnaljncapmeabDoor
namespace Go.Proofs.YthmnaljncapmeabDoor
open Go.RowKit Wo Pu Rf

/-- A drawn id, seldom a wrong one. -/
def ValDrawn (R : Nat) (q : Int) (w : World) (e : Ending) (w' : World) : Prop := ∃ x : Int, e = .returned (.int .i64 x) ∧ -2 ≤ x ∧ x ≤ 991 ∧ Rd w' R (q + 2) ∧ But R w w'
set_option maxHeartbeats 4000000 in
theorem l92Value_any (R : Nat) (q : Int) (w : World) (hR : Rd w R q) (hq : q ≤ 900000000) :
    Calls Tryd.prog 92 #[.pointer (some ⟨R, 0, none⟩)] w (ValDrawn R q w) := by
  go_enter Tryd.func92, Tryd.ntmps92
  go_wp2_with fail
  refine (pick_any R q 30 w hR (by omega) (by omega) (by omega)).mono ?_
  rintro e w1 ⟨n1, rfl, a0, a1, hR1, hT1⟩
  by_cases h0 : n1 = 0
  · have e0 : (n1 == 0) = true := by rw [h0]; rfl
    clear h0
    go_wp2_with fail
    have hbA := (Below.refl w1.heap.size w1).alloc (Nat.le_refl _) (.cells #[.int .i64 (-2), .int .i64 990, .int .i64 991] 3)
    have hz := hR1.lt
    refine (pick_any R (q + 1) 3 _ (hR1.below hbA hz) (by omega) (by omega) (by omega)).mono ?_
    rintro e w2 ⟨n2, rfl, b0, b1, hR2, hT2⟩
    have bx : Box3 w2 w1.heap.size (.int .i64 (-2)) (.int .i64 990) (.int .i64 991) := hT2.box (Box3.new_ w1 _ _ _ _) (by omega)
    have hTT := (hT1.trans (.of_below hbA)).trans hT2
    obtain ⟨_, p0, p1, p2⟩ := bx
    have key : n2 = 0 ∨ n2 = 1 ∨ n2 = 2 := by omega
    rcases key with rfl | rfl | rfl
    · go_wp2
      go_ret
      exact ⟨_, rfl, by omega, by omega, hR2.more (by omega), hTT⟩
    · go_wp2
      go_ret
      exact ⟨_, rfl, by omega, by omega, hR2.more (by omega), hTT⟩
    · go_wp2
      go_ret
      exact ⟨_, rfl, by omega, by omega, hR2.more (by omega), hTT⟩
  · have e0 : (n1 == 0) = false := by rw [beq_eq_false_iff_ne]; omega
    go_wp2_with fail
    refine (pick_any R (q + 1) 6 _ hR1 (by omega) (by omega) (by omega)).mono ?_
    rintro e w2 ⟨n2, rfl, b0, b1, hR2, hT2⟩
    go_wp2
    go_ret
    exact ⟨_, rfl, by omega, by omega, hR2.more (by omega), hT1.trans hT2⟩

/-- The first k of a row of the call's own. -/
theorem own_cut {w : World} {B n c sz k : Nat} {e : TypeId} {A : Option Addr} {xs : List Value} (h : w.ownsRow B e sz (.slice A n c) n xs) (hk : k ≤ n) : w.ownsRow B e sz (.slice A k c) k (xs.take (k * sz)) := by
  obtain ⟨h1, h2⟩ := h
  refine ⟨by rw [List.length_take, h1]; exact Nat.min_eq_left (Nat.mul_le_mul_right sz hk), ?_⟩
  rcases h2 with ⟨hv, h0⟩ | ⟨g, cap, cur, hv, hB, hh, hn, hm, hcs, htk⟩
  · injection hv with e1 e2 e3
    subst e1
    subst e3
    have : k = 0 := by omega
    subst this
    exact .inl ⟨rfl, rfl⟩
  · injection hv with e1 e2 e3
    subst e1
    subst e3
    exact .inr ⟨g, c, cur, rfl, hB, hh, by omega, hm, hcs, by rw [← htk, List.take_take, Nat.min_eq_left (Nat.mul_le_mul_right sz hk)]⟩
theorem OwnI.cut {w : World} {B c k : Nat} {A : Option Addr} {zs : List Int} (h : OwnI w B (.slice A zs.length c) zs) (hk : k ≤ zs.length) : OwnI w B (.slice A k c) (zs.take k) := by
  have h1 := own_cut h hk
  have e : (zs.take k).length = k := by rw [List.length_take]; omega
  unfold OwnI
  rw [e]
  have e2 : ints (zs.take k) = (ints zs).take (k * 1) := by unfold ints; rw [List.map_take, Nat.mul_one]
  rw [e2]
  exact h1
/-- Drawn refs. -/
def RefsDrawn (R : Nat) (q : Int) (w : World) (e : Ending) (w' : World) : Prop := ∃ v zs, e = .returned v ∧ OwnI w' w.heap.size v zs ∧ zs.length ≤ 4 ∧ Rd w' R (q + 12) ∧ But R w w'
end Go.Proofs.YthmnaljncapmeabDoor
namespace Go.Proofs.YthmnaljncapmeabDoor
open Go.RowKit Wo Pu Rf

theorem row_but {w w' : World} {R B : Nat} {A : Option Addr} {vs : List Value} (h : Row w B A vs) (hA : ∀ ad, A = some ad → ad.block ≠ R) (hb : But R w w') (hB : B ≤ w.heap.size) : Row w' B A vs := by
  rcases h with rfl | ⟨ad, e, hbk, hc⟩
  · exact .inl rfl
  · refine .inr ⟨ad, e, hbk, fun j v hv => ?_⟩
    rw [← hc j v hv]
    exact World.cell?_of_block (w := w) (a := ad.add j) (by rw [add_block]; exact hb.block ad.block (by omega) (fun e2 => hA ad e (by injection e2)))
theorem OwnUps.far {w : World} {B g : Nat} {v : Value} {os : List Up} (h : OwnUps w B v os) (hg : v.ownBlock ≠ some g) (o : Nat) (u : Value) : OwnUps (w.setCell ⟨g, o, none⟩ u) B v os := by
  obtain ⟨h1, h2⟩ := h
  refine ⟨h1, ?_⟩
  rcases h2 with h2 | ⟨g', cap, cur, rfl, hB, hh, hr⟩
  · exact .inl h2
  · refine .inr ⟨g', cap, cur, rfl, hB, ?_, hr⟩
    rw [Below.heap_setCell _ _ _ _ (fun e => hg (by show some g' = some g; rw [show g' = g from e]))]
    exact hh
theorem new_three_at (w : World) (g : Nat) (v0 v1 v2 : Value) (t : TypeId) (hg : g = w.heap.size) : ∀ j u, [v0, v1, v2][j]? = some u → (w.alloc (.cells #[v0, v1, v2] t)).cell? ((⟨g, 0, none⟩ : Addr).add j) = some u := by
  subst hg; exact new_three _ _ _ _ _
/-- An update that is being drawn, in block g; those before it. -/
def USt (R g : Nat) (q : Int) (W : World) (v : Value) (L : List Up) (o : Up) (wx : World) : Prop :=
  OwnUps wx W.heap.size v L ∧ Blk wx g 97 (.int .i64 o.r) (.int .i64 o.o) (.int .i64 o.n) ∧ v.ownBlock ≠ some g ∧ W.heap.size ≤ g ∧ Rd wx R q ∧ But R W wx
section
variable {R g : Nat} {q q' : Int} {W wx w' : World} {v : Value} {L : List Up} {o : Up}
theorem USt.but (h : USt R g q W v L o wx) (hR : R < W.heap.size) (hb : But R wx w') (hr : Rd w' R q') : USt R g q' W v L o w' := by
  obtain ⟨h1, h2, h3, h4, h5, h6⟩ := h
  exact ⟨h1.but hb hR, h2.but hb (by omega), h3, h4, hr, h6.trans hb⟩
theorem USt.set1 (h : USt R g q W v L o wx) (hR : R < W.heap.size) (x : Int) : USt R g q W v L ⟨o.r, x, o.n⟩ (wx.setCell ⟨g, 1, none⟩ (.int .i64 x)) := by
  obtain ⟨h1, h2, h3, h4, h5, h6⟩ := h
  exact ⟨h1.far h3 _ _, h2.set1 _, h3, h4, h5.far (by omega) _ _, h6.set_new h4 _ _⟩
theorem USt.set2 (h : USt R g q W v L o wx) (hR : R < W.heap.size) (x : Int) : USt R g q W v L ⟨o.r, o.o, x⟩ (wx.setCell ⟨g, 2, none⟩ (.int .i64 x)) := by
  obtain ⟨h1, h2, h3, h4, h5, h6⟩ := h
  exact ⟨h1.far h3 _ _, h2.set2 _, h3, h4, h5.far (by omega) _ _, h6.set_new h4 _ _⟩
theorem USt.new_ (h1 : OwnUps wx W.heap.size v L) (h5 : Rd wx R q) (h6 : But R W wx) (hR : R < W.heap.size) : USt R wx.heap.size q W v L o (wx.alloc (.cells #[.int .i64 o.r, .int .i64 o.o, .int .i64 o.n] 97)) := by
  have al := (Below.refl wx.heap.size wx).alloc (Nat.le_refl _) (.cells #[.int .i64 o.r, .int .i64 o.o, .int .i64 o.n] 97)
  refine ⟨h1.below al, Blk.new_ _ _ _ _ _, fun e => ?_, h6.size, h5.below al (Nat.lt_of_lt_of_le hR h6.size), h6.trans (.of_below al)⟩
  have := (World.ownsRow.lt h1 _ e).2
  omega
end
/-- Behind an append of an update. -/
theorem ups_app {R : Nat} {q : Int} {W wx w' : World} {v v' : Value} {L : List Up} {o : Up} (h1 : OwnUps wx W.heap.size v L) (h5 : Rd wx R q) (h6 : But R W wx) (hR : R < W.heap.size)
    (hown : w'.ownsRow W.heap.size 97 3 v' (L.length + 1) (upsV L ++ [.int .i64 o.r, .int .i64 o.o, .int .i64 o.n]))
    (hg : (wx.alloc (.cells #[.int .i64 o.r, .int .i64 o.o, .int .i64 o.n] 97)).grownBy w' v.ownBlock) : OwnUps w' W.heap.size v' (L ++ [o]) ∧ Rd w' R q ∧ But R W w' := by
  have al := (Below.refl wx.heap.size wx).alloc (Nat.le_refl _) (.cells #[.int .i64 o.r, .int .i64 o.o, .int .i64 o.n] 97)
  have lt1 := World.ownsRow.lt h1
  refine ⟨?_, ?_, ?_⟩
  · unfold OwnUps
    rw [List.length_append, List.length_singleton, upsV_append, upsV_one]
    exact hown
  · have b : Below W.heap.size wx w' := ((Below.refl W.heap.size wx).alloc h6.size _).grown hg (by have := h6.size; simp; omega) (fun k hk => (lt1 k hk).1)
    exact h5.below b hR
  · exact World.grownBy.andThen (h6.trans (.of_below al)) hg (fun k hk => .inl (lt1 k hk).1)
theorem upsV_setd {os : List Up} {m d : Nat} (h : m < os.length) (hd : d < 3) (o : Up) (v : Value) (ho : upV o = (upV os[m]).set d v) : (upsV os).set (m * 3 + d) v = upsV (os.set m o) := by
  have hl := upsV_length os
  apply List.ext_getElem?
  intro j
  by_cases hj : j < os.length * 3
  · obtain ⟨q, d', hd', rfl⟩ : ∃ q d', d' < 3 ∧ j = q * 3 + d' := ⟨j / 3, j % 3, by omega, by omega⟩
    have hq : q < os.length := by omega
    rw [upsV_get (os := os.set m o) (by rw [List.length_set]; exact hq) hd']
    by_cases e : q = m
    · subst e
      have hoo : (os.set q o)[q]'(by rw [List.length_set]; exact hq) = o := by simp
      rw [hoo, ho]
      by_cases e2 : d' = d
      · subst e2
        rw [List.getElem?_set_self (by omega), List.getElem?_set_self (by show _ < 3; exact hd)]
      · rw [List.getElem?_set_ne (by omega), List.getElem?_set_ne (by omega), upsV_get hq hd']
    · have hoo : (os.set m o)[q]'(by rw [List.length_set]; exact hq) = os[q] := by rw [List.getElem_set_ne (by omega)]
      rw [hoo, List.getElem?_set_ne (by omega), upsV_get hq hd']
  · rw [List.getElem?_eq_none (by simp; omega), List.getElem?_eq_none (by rw [upsV_length, List.length_set]; omega)]
theorem OwnUps.stored {w : World} {B g c : Nat} {os : List Up} (h : OwnUps w B (.slice (some ⟨g, 0, none⟩) os.length c) os) {m d : Nat} (hm : m < os.length) (hd : d < 3) (o : Up) (v : Value) (ho : upV o = (upV os[m]).set d v) :
    OwnUps (w.setCell ⟨g, m * 3 + d, none⟩ v) B (.slice (some ⟨g, 0, none⟩) os.length c) (os.set m o) := by
  have := (World.ownsRow.stored h (m * 3 + d) v).1
  rw [upsV_setd hm hd o v ho] at this
  unfold OwnUps
  rw [List.length_set]
  exact this
theorem OwnUps.at {w : World} {B : Nat} {v : Value} {os : List Up} (h : OwnUps w B v os) (hp : 0 < os.length) : ∃ g c, v = .slice (some ⟨g, 0, none⟩) os.length c ∧ B ≤ g ∧ g < w.heap.size := by
  obtain ⟨g, cap, e, h1, h2⟩ := World.ownsRow.form h hp
  exact ⟨g, cap, e, h1, h2⟩
theorem OwnUps.cut0 {w : World} {B c n : Nat} {A : Option Addr} {os : List Up} (h : OwnUps w B (.slice A n c) os) (hn : n = os.length) : OwnUps w B (.slice A 0 c) [] := by
  subst hn
  exact own_cut h (Nat.zero_le _)

/-- Drawn updates. -/
def UpsDrawn (R : Nat) (q : Int) (w : World) (e : Ending) (w' : World) : Prop := ∃ v us, e = .returned v ∧ OwnUps w' w.heap.size v us ∧ us.length ≤ 4 ∧ Rd w' R (q + 30) ∧ But R w w'

set_option maxRecDepth 100000 in
set_option maxHeartbeats 8000000 in
theorem l92Updates_any (R : Nat) (q : Int) (A : Option Addr) (c : Nat) (zs : List Int) (w : World) (hR : Rd w R q) (hq : q ≤ 700000000) (hz : Row w w.heap.size A (ints zs)) (hA : ∀ ad, A = some ad → ad.block ≠ R) :
    Calls Tryd.prog 76 #[.pointer (some ⟨R, 0, none⟩), .slice A zs.length c] w (UpsDrawn R q w) := by
  obtain ⟨i0, hi, hz0, hz1, hz2⟩ := info_of info_up
  have hRl := hR.lt
  have al := (Below.refl w.heap.size w).alloc (Nat.le_refl _) (.cells #[] 97)
  have R0 := hR.below al hRl
  have T0 : But R w (w.alloc (.cells #[] 97)) := .of_below al
  have o0 := OwnUps.nil_new (w := w) (Nat.le_refl _)
  go_enter Tryd.func76, Tryd.ntmps76
  go_wp2_with fail
  go_loopw [5, 6] (fun v i wr => ∃ (k : Nat) (L : List Up), k ≤ 4 ∧ i = .int .i64 k ∧ Hid (L.length ≤ k) ∧ OwnUps wr w.heap.size v L ∧ Rd wr R (q + 4 * k) ∧ But R w wr) (fun _ i _ => 4 - (intOf i).toNat)
  case atStart => exact ⟨0, [], Nat.zero_le _, rfl, Nat.le_refl _, o0, by simpa using R0, T0⟩
  case round =>
    clear o0 R0 T0 al
    obtain ⟨k, L, hk, rfl, HL, ho, Rk, Tk⟩ := hrel
    have HL4 : Hid (L.length ≤ 4) := by have := HL.out; show _ ≤ _; omega
    by_cases hlt : k < 4
    · go_wp2_with fail
      refine (pick_any R _ 3 wr Rk (by omega) (by omega) (by omega)).mono ?_
      rintro e w1 ⟨x, rfl, x0, x1, R1, T1⟩
      have o1 := ho.but T1 hRl
      have T2 := Tk.trans T1
      clear ho Rk Tk T1
      by_cases hx : x = 0
      · have e0 : (x == 0) = true := by rw [hx]; rfl
        clear hx
        go_wp2_with fail
        refine (pick_any R _ 4 w1 R1 (by omega) (by omega) (by omega)).mono ?_
        rintro e w2 ⟨x2, rfl, y0, y1, R2, T3⟩
        have o2 := o1.but T3 hRl
        have T4 := T2.trans T3
        clear o1 R1 T2 T3
        go_wp2_with fail
        refine (pick_any R _ 6 w2 R2 (by omega) (by omega) (by omega)).mono ?_
        rintro e w3 ⟨x3, rfl, y2, y3, R3, T5⟩
        have o3 := o2.but T5 hRl
        have T6 := T4.trans T5
        have s1 := USt.new_ (o := ⟨(k : Int), x2 - 1, x3 - 1⟩) o3 R3 T6 hRl
        clear o2 R2 T4 T5 o3 R3 T6
        by_cases hkz : k < zs.length
        · have q0 : (0 : Int) ≤ (k : Int) := by omega
          have q1 : (k : Int) < (zs.length : Int) := by omega
          go_wp2_with fail
          refine (pick_any R _ 6 _ s1.2.2.2.2.1 (by omega) (by omega) (by omega)).mono ?_
          rintro e w4 ⟨y, rfl, y4, y5, R4, T7⟩
          have s4 := USt.but s1 hRl T7 R4
          clear s1 R4 T7
          by_cases hy : 0 < y
          · have e1 : decide (0 < y) = true := decide_eq_true hy
            have rz := row_but hz hA s4.2.2.2.2.2 (Nat.le_refl _)
            obtain ⟨ad, rfl, had, hc⟩ := rz.int_ hkz
            obtain ⟨p0, p1, p2, pf⟩ := id s4.2.1.reads
            have pf1 := pf 1
            have s5 := USt.set1 s4 hRl zs[k]
            obtain ⟨z, hzz⟩ : ∃ z, zs[k] = z := ⟨_, rfl⟩
            rw [hzz] at hc s5
            clear pf hy rz s4 hzz
            by_cases he : (x3 - 1) = z
            · have e9 : ((x3 - 1) == z) = true := by rw [beq_iff_eq]; exact he
              obtain ⟨t0, t1, t2, tf⟩ := id s5.2.1.reads
              have tf2 := tf 2
              have s9 := USt.set2 s5 hRl (7 + (k : Int))
              clear tf he
              obtain ⟨hrow, -⟩ := id s9
              obtain ⟨y0, y1, y2, -⟩ := id s9.2.1.reads
              have hsz := Nat.le_trans s9.2.2.2.1 (Nat.le_of_lt s9.2.1.lt)
              go_wp2_with (at_builtin; go_must (refine wpList_append_own _ rfl _ _ 40 rfl w.heap.size 97 i0 (.agg #[.int .i64 0, .int .i64 0, .int .i64 0]) 3 24 Tryd.underlying40 hi hz0 hz1 hz2 rfl (by decide) _ L.length (upsV L) rfl (World.ownsRow.alloc hrow _) ⟨_, 0, none⟩ 1 1 [.int .i64 (k : Int), .int .i64 z, .int .i64 (7 + (k : Int))] rfl rfl (new_three_at _ _ _ _ _ _ (by first | rfl | simp)) (upV_cells ⟨(k : Int), z, (7 + (k : Int))⟩) (by have := HL4.out; unfold maxLen; omega) (by have := HL4.out; omega) (by rw [World.size_alloc]; exact Nat.le_succ_of_le hsz) ?_); intro v' w8 hown hg _)
              obtain ⟨a1, a2, a3⟩ := ups_app (o := ⟨(k : Int), z, (7 + (k : Int))⟩) s9.1 s9.2.2.2.2.1 s9.2.2.2.2.2 hRl hown hg
              clear hown hg
              go_wp2
              go_roundw
              case rel => exact ⟨k + 1, L ++ [⟨(k : Int), z, (7 + (k : Int))⟩], by omega, by go_num, by show _ ≤ _; rw [List.length_append, List.length_singleton]; have := HL.out; omega, a1, a2.more (by omega), a3⟩
              case measure => simp [intOf]; omega
            · have e9 : ((x3 - 1) == z) = false := by rw [beq_eq_false_iff_ne]; exact he
              clear he
              obtain ⟨hrow, -⟩ := id s5
              obtain ⟨y0, y1, y2, -⟩ := id s5.2.1.reads
              have hsz := Nat.le_trans s5.2.2.2.1 (Nat.le_of_lt s5.2.1.lt)
              go_wp2_with (at_builtin; go_must (refine wpList_append_own _ rfl _ _ 40 rfl w.heap.size 97 i0 (.agg #[.int .i64 0, .int .i64 0, .int .i64 0]) 3 24 Tryd.underlying40 hi hz0 hz1 hz2 rfl (by decide) _ L.length (upsV L) rfl (World.ownsRow.alloc hrow _) ⟨_, 0, none⟩ 1 1 [.int .i64 (k : Int), .int .i64 z, .int .i64 (x3 - 1)] rfl rfl (new_three_at _ _ _ _ _ _ (by first | rfl | simp)) (upV_cells ⟨(k : Int), z, (x3 - 1)⟩) (by have := HL4.out; unfold maxLen; omega) (by have := HL4.out; omega) (by rw [World.size_alloc]; exact Nat.le_succ_of_le hsz) ?_); intro v' w8 hown hg _)
              obtain ⟨a1, a2, a3⟩ := ups_app (o := ⟨(k : Int), z, (x3 - 1)⟩) s5.1 s5.2.2.2.2.1 s5.2.2.2.2.2 hRl hown hg
              clear hown hg
              go_wp2
              go_roundw
              case rel => exact ⟨k + 1, L ++ [⟨(k : Int), z, (x3 - 1)⟩], by omega, by go_num, by show _ ≤ _; rw [List.length_append, List.length_singleton]; have := HL.out; omega, a1, a2.more (by omega), a3⟩
              case measure => simp [intOf]; omega
          · have e1 : decide (0 < y) = false := decide_eq_false hy
            obtain ⟨p0, p1, p2, -⟩ := id s4.2.1.reads
            clear hy
            by_cases he : (x3 - 1) = (x2 - 1)
            · have e9 : ((x3 - 1) == (x2 - 1)) = true := by rw [beq_iff_eq]; exact he
              obtain ⟨t0, t1, t2, tf⟩ := id s4.2.1.reads
              have tf2 := tf 2
              have s9 := USt.set2 s4 hRl (7 + (k : Int))
              clear tf he
              obtain ⟨hrow, -⟩ := id s9
              obtain ⟨y0, y1, y2, -⟩ := id s9.2.1.reads
              have hsz := Nat.le_trans s9.2.2.2.1 (Nat.le_of_lt s9.2.1.lt)
              go_wp2_with (at_builtin; go_must (refine wpList_append_own _ rfl _ _ 40 rfl w.heap.size 97 i0 (.agg #[.int .i64 0, .int .i64 0, .int .i64 0]) 3 24 Tryd.underlying40 hi hz0 hz1 hz2 rfl (by decide) _ L.length (upsV L) rfl (World.ownsRow.alloc hrow _) ⟨_, 0, none⟩ 1 1 [.int .i64 (k : Int), .int .i64 (x2 - 1), .int .i64 (7 + (k : Int))] rfl rfl (new_three_at _ _ _ _ _ _ (by first | rfl | simp)) (upV_cells ⟨(k : Int), (x2 - 1), (7 + (k : Int))⟩) (by have := HL4.out; unfold maxLen; omega) (by have := HL4.out; omega) (by rw [World.size_alloc]; exact Nat.le_succ_of_le hsz) ?_); intro v' w8 hown hg _)
              obtain ⟨a1, a2, a3⟩ := ups_app (o := ⟨(k : Int), (x2 - 1), (7 + (k : Int))⟩) s9.1 s9.2.2.2.2.1 s9.2.2.2.2.2 hRl hown hg
              clear hown hg
              go_wp2
              go_roundw
              case rel => exact ⟨k + 1, L ++ [⟨(k : Int), (x2 - 1), (7 + (k : Int))⟩], by omega, by go_num, by show _ ≤ _; rw [List.length_append, List.length_singleton]; have := HL.out; omega, a1, a2.more (by omega), a3⟩
              case measure => simp [intOf]; omega
            · have e9 : ((x3 - 1) == (x2 - 1)) = false := by rw [beq_eq_false_iff_ne]; exact he
              clear he
              obtain ⟨hrow, -⟩ := id s4
              obtain ⟨y0, y1, y2, -⟩ := id s4.2.1.reads
              have hsz := Nat.le_trans s4.2.2.2.1 (Nat.le_of_lt s4.2.1.lt)
              go_wp2_with (at_builtin; go_must (refine wpList_append_own _ rfl _ _ 40 rfl w.heap.size 97 i0 (.agg #[.int .i64 0, .int .i64 0, .int .i64 0]) 3 24 Tryd.underlying40 hi hz0 hz1 hz2 rfl (by decide) _ L.length (upsV L) rfl (World.ownsRow.alloc hrow _) ⟨_, 0, none⟩ 1 1 [.int .i64 (k : Int), .int .i64 (x2 - 1), .int .i64 (x3 - 1)] rfl rfl (new_three_at _ _ _ _ _ _ (by first | rfl | simp)) (upV_cells ⟨(k : Int), (x2 - 1), (x3 - 1)⟩) (by have := HL4.out; unfold maxLen; omega) (by have := HL4.out; omega) (by rw [World.size_alloc]; exact Nat.le_succ_of_le hsz) ?_); intro v' w8 hown hg _)
              obtain ⟨a1, a2, a3⟩ := ups_app (o := ⟨(k : Int), (x2 - 1), (x3 - 1)⟩) s4.1 s4.2.2.2.2.1 s4.2.2.2.2.2 hRl hown hg
              clear hown hg
              go_wp2
              go_roundw
              case rel => exact ⟨k + 1, L ++ [⟨(k : Int), (x2 - 1), (x3 - 1)⟩], by omega, by go_num, by show _ ≤ _; rw [List.length_append, List.length_singleton]; have := HL.out; omega, a1, a2.more (by omega), a3⟩
              case measure => simp [intOf]; omega
        · have e1 : decide ((k : Int) < (zs.length : Int)) = false := decide_eq_false (by omega)
          have e2 : decide (k < zs.length) = false := decide_eq_false hkz
          obtain ⟨W3, hW3⟩ : ∃ W, w3.alloc (.cells #[.int .i64 (k : Int), .int .i64 (x2 - 1), .int .i64 (x3 - 1)] 97) = W := ⟨_, rfl⟩
          rw [hW3] at s1
          obtain ⟨p0, p1, p2, -⟩ := id s1.2.1.reads
          by_cases he : (x3 - 1) = (x2 - 1)
          · have e9 : ((x3 - 1) == (x2 - 1)) = true := by rw [beq_iff_eq]; exact he
            obtain ⟨t0, t1, t2, tf⟩ := id s1.2.1.reads
            have tf2 := tf 2
            have s9 := USt.set2 s1 hRl (7 + (k : Int))
            clear tf he
            obtain ⟨hrow, -⟩ := id s9
            obtain ⟨y0, y1, y2, -⟩ := id s9.2.1.reads
            have hsz := Nat.le_trans s9.2.2.2.1 (Nat.le_of_lt s9.2.1.lt)
            go_wp2_with (at_builtin; go_must (refine wpList_append_own _ rfl _ _ 40 rfl w.heap.size 97 i0 (.agg #[.int .i64 0, .int .i64 0, .int .i64 0]) 3 24 Tryd.underlying40 hi hz0 hz1 hz2 rfl (by decide) _ L.length (upsV L) rfl (World.ownsRow.alloc hrow _) ⟨_, 0, none⟩ 1 1 [.int .i64 (k : Int), .int .i64 (x2 - 1), .int .i64 (7 + (k : Int))] rfl rfl (new_three_at _ _ _ _ _ _ (by first | rfl | simp)) (upV_cells ⟨(k : Int), (x2 - 1), (7 + (k : Int))⟩) (by have := HL4.out; unfold maxLen; omega) (by have := HL4.out; omega) (by rw [World.size_alloc]; exact Nat.le_succ_of_le hsz) ?_); intro v' w8 hown hg _)
            obtain ⟨a1, a2, a3⟩ := ups_app (o := ⟨(k : Int), (x2 - 1), (7 + (k : Int))⟩) s9.1 s9.2.2.2.2.1 s9.2.2.2.2.2 hRl hown hg
            clear hown hg
            go_wp2
            go_roundw
            case rel => exact ⟨k + 1, L ++ [⟨(k : Int), (x2 - 1), (7 + (k : Int))⟩], by omega, by go_num, by show _ ≤ _; rw [List.length_append, List.length_singleton]; have := HL.out; omega, a1, a2.more (by omega), a3⟩
            case measure => simp [intOf]; omega
          · have e9 : ((x3 - 1) == (x2 - 1)) = false := by rw [beq_eq_false_iff_ne]; exact he
            clear he
            obtain ⟨hrow, -⟩ := id s1
            obtain ⟨y0, y1, y2, -⟩ := id s1.2.1.reads
            have hsz := Nat.le_trans s1.2.2.2.1 (Nat.le_of_lt s1.2.1.lt)
            go_wp2_with (at_builtin; go_must (refine wpList_append_own _ rfl _ _ 40 rfl w.heap.size 97 i0 (.agg #[.int .i64 0, .int .i64 0, .int .i64 0]) 3 24 Tryd.underlying40 hi hz0 hz1 hz2 rfl (by decide) _ L.length (upsV L) rfl (World.ownsRow.alloc hrow _) ⟨_, 0, none⟩ 1 1 [.int .i64 (k : Int), .int .i64 (x2 - 1), .int .i64 (x3 - 1)] rfl rfl (new_three_at _ _ _ _ _ _ (by first | rfl | simp)) (upV_cells ⟨(k : Int), (x2 - 1), (x3 - 1)⟩) (by have := HL4.out; unfold maxLen; omega) (by have := HL4.out; omega) (by rw [World.size_alloc]; exact Nat.le_succ_of_le hsz) ?_); intro v' w8 hown hg _)
            obtain ⟨a1, a2, a3⟩ := ups_app (o := ⟨(k : Int), (x2 - 1), (x3 - 1)⟩) s1.1 s1.2.2.2.2.1 s1.2.2.2.2.2 hRl hown hg
            clear hown hg
            go_wp2
            go_roundw
            case rel => exact ⟨k + 1, L ++ [⟨(k : Int), (x2 - 1), (x3 - 1)⟩], by omega, by go_num, by show _ ≤ _; rw [List.length_append, List.length_singleton]; have := HL.out; omega, a1, a2.more (by omega), a3⟩
            case measure => simp [intOf]; omega
      · have e0 : (x == 0) = false := by rw [beq_eq_false_iff_ne]; exact hx
        go_wp2_with fail
        go_roundw
        case rel => exact ⟨k + 1, L, by omega, by go_num, by have := HL.out; show _ ≤ _; omega, o1, R1.more (by omega), T2⟩
        case measure => simp [intOf]; omega
    · have hk4 : k = 4 := by omega
      subst hk4
      obtain ⟨A2, c2, rfl, -, -⟩ := ho.form
      by_cases h0 : L.length = 0
      · have e0 : ((L.length : Int) == 0) = true := by rw [beq_iff_eq]; omega
        have HZ0 := hid h0
        clear h0 hlt
        go_wp2_with fail
        refine (pick_any R _ 4 wr Rk (by omega) (by omega) (by omega)).mono ?_
        rintro e w9 ⟨j0, rfl, x0, x1, R9, T8⟩
        obtain ⟨j, rfl⟩ := Int.eq_ofNat_of_zero_le x0
        have o9 := ho.but T8 hRl
        have T9 := Tk.trans T8
        clear ho Rk Tk T8
        by_cases hjz : j < zs.length
        · have rz := row_but hz hA T9 (Nat.le_refl _)
          obtain ⟨ad, rfl, had, hc⟩ := rz.int_ hjz
          have q1 : (j : Int) < (zs.length : Int) := by omega
          obtain ⟨z, hzz⟩ : ∃ z, zs[j] = z := ⟨_, rfl⟩
          rw [hzz] at hc
          clear hzz rz
          have nA := (Below.refl w9.heap.size w9).alloc (Nat.le_refl _) (.cells #[.int .i64 (j : Int), .int .i64 z, .int .i64 9] 97)
          have hsz9 := T9.size
          go_wp2_with (at_builtin; go_must (refine wpList_append_own _ rfl _ _ 40 rfl w.heap.size 97 i0 (.agg #[.int .i64 0, .int .i64 0, .int .i64 0]) 3 24 Tryd.underlying40 hi hz0 hz1 hz2 rfl (by decide) _ L.length (upsV L) rfl (World.ownsRow.alloc o9 _) ⟨_, 0, none⟩ 1 1 [.int .i64 (j : Int), .int .i64 z, .int .i64 9] rfl rfl (new_three_at _ _ _ _ _ _ (by first | rfl | simp)) (upV_cells ⟨(j : Int), z, 9⟩) (by have := HL4.out; unfold maxLen; omega) (by have := HL4.out; omega) (by rw [World.size_alloc]; exact Nat.le_succ_of_le hsz9) ?_); intro v8 w8 hown hg _)
          obtain ⟨S1, S5, S6⟩ := ups_app (o := ⟨(j : Int), z, 9⟩) o9 R9 T9 hRl hown hg
          have HLn : Hid (1 ≤ (L ++ [(⟨(j : Int), z, 9⟩ : Up)]).length ∧ (L ++ [(⟨(j : Int), z, 9⟩ : Up)]).length ≤ 4) := by show _ ∧ _; rw [List.length_append, List.length_singleton]; have := HZ0.out; omega
          clear hown hg nA o9 R9 T9
          obtain ⟨L9, hL9⟩ : ∃ L9, L ++ [(⟨(j : Int), z, 9⟩ : Up)] = L9 := ⟨_, rfl⟩
          rw [hL9] at S1 HLn
          clear hL9
          go_wp2_with fail
          refine (pick_any R _ 30 _ S5 (by omega) (by omega) (by omega)).mono ?_
          rintro e w5 ⟨d, rfl, d0, d1, R5, T5⟩
          have o5 := S1.but T5 hRl
          have T6 := S6.trans T5
          clear S1 S5 S6 T5
          have key : d = 0 ∨ d = 1 ∨ d = 2 ∨ (d ≠ 0 ∧ d ≠ 1 ∧ d ≠ 2) := by omega
          rcases key with rfl | rfl | rfl | ⟨dn0, dn1, dn2⟩
          · obtain ⟨g, cc, hvv, hg1, hg2⟩ := o5.at (by have := HLn.out; omega)
            rw [hvv] at o5 ⊢
            clear hvv
            have hl1 : 1 ≤ L9.length ∧ L9.length ≤ 4 := HLn.out
            go_wp2_with fail
            refine (pick_any R _ (L9.length : Int) w5 R5 (by omega) (by omega) (by omega)).mono ?_
            rintro e w6 ⟨y, rfl, y0, y1, R6, T7⟩
            obtain ⟨m, rfl⟩ := Int.eq_ofNat_of_zero_le y0
            have hm : m < L9.length := by omega
            go_wp2_with fail
            refine (pick_any R _ 6 w6 R6 (by omega) (by omega) (by omega)).mono ?_
            rintro e w7 ⟨x, rfl, x0, x1, R7, T8⟩
            have o7 := (o5.but T7 hRl).but T8 hRl
            have T9 := (T6.trans T7).trans T8
            obtain ⟨u0, z0⟩ : ∃ u0, w7.cell? ⟨g, m * 3, none⟩ = some u0 := ⟨_, (World.ownsRow.cellAt o7 (m * 3) (by omega)).trans (List.getElem?_eq_getElem (by rw [upsV_length]; omega))⟩
            have f0 := World.ownsRow.frozenAt o7 (m * 3)
            have o8 := OwnUps.stored o7 (m := m) (d := 0) hm (by omega) ⟨x - 1, L9[m].o, L9[m].n⟩ (.int .i64 (x - 1)) rfl
            rw [Nat.add_zero] at o8
            have T10 := T9.set_new hg1 (m * 3) (.int .i64 (x - 1))
            have R8 := R7.far (g := g) (by omega) (m * 3) (.int .i64 (x - 1))
            have hls : Hid ((L9.set m ⟨x - 1, L9[m].o, L9[m].n⟩).length ≤ 4) := by show _ ≤ _; rw [List.length_set]; omega
            clear o5 R5 T6 R6 T7 T8 R7 T9 o7
            go_wp2_with fail
            go_ret
            exact ⟨_, _, rfl, o8, hls.out, R8.more (by omega), T10⟩
          · obtain ⟨g, cc, hvv, hg1, hg2⟩ := o5.at (by have := HLn.out; omega)
            rw [hvv] at o5 ⊢
            clear hvv
            have hl1 : 1 ≤ L9.length ∧ L9.length ≤ 4 := HLn.out
            go_wp2_with fail
            refine (pick_any R _ (L9.length : Int) w5 R5 (by omega) (by omega) (by omega)).mono ?_
            rintro e w6 ⟨y, rfl, y0, y1, R6, T7⟩
            obtain ⟨m, rfl⟩ := Int.eq_ofNat_of_zero_le y0
            have hm : m < L9.length := by omega
            go_wp2_with fail
            refine (l92Value_any R _ w6 R6 (by omega)).mono ?_
            rintro e w7 ⟨x, rfl, x0, x1, R7, T8⟩
            have o7 := (o5.but T7 hRl).but T8 hRl
            have T9 := (T6.trans T7).trans T8
            obtain ⟨u0, z0⟩ : ∃ u0, w7.cell? ⟨g, m * 3 + 2, none⟩ = some u0 := ⟨_, (World.ownsRow.cellAt o7 (m * 3 + 2) (by omega)).trans (List.getElem?_eq_getElem (by rw [upsV_length]; omega))⟩
            have f0 := World.ownsRow.frozenAt o7 (m * 3 + 2)
            have o8 := OwnUps.stored o7 (m := m) (d := 2) hm (by omega) ⟨L9[m].r, L9[m].o, x⟩ (.int .i64 x) rfl
            have T10 := T9.set_new hg1 (m * 3 + 2) (.int .i64 x)
            have R8 := R7.far (g := g) (by omega) (m * 3 + 2) (.int .i64 x)
            have hls : Hid ((L9.set m ⟨L9[m].r, L9[m].o, x⟩).length ≤ 4) := by show _ ≤ _; rw [List.length_set]; omega
            clear o5 R5 T6 R6 T7 T8 R7 T9 o7
            go_wp2_with fail
            go_ret
            exact ⟨_, _, rfl, o8, hls.out, R8.more (by omega), T10⟩
          · obtain ⟨g, cc, hvv, hg1, hg2⟩ := o5.at (by have := HLn.out; omega)
            rw [hvv] at o5 ⊢
            clear hvv
            have o8 := o5.cut0 rfl
            have q1 : (0 : Int) ≤ (cc : Int) := by omega
            clear o5
            go_wp2_with fail
            go_ret
            exact ⟨_, [], rfl, o8, Nat.zero_le _, R5.more (by omega), T6⟩
          · have e0 : (d == 0) = false := by rw [beq_eq_false_iff_ne]; exact dn0
            have e1 : (d == 1) = false := by rw [beq_eq_false_iff_ne]; exact dn1
            have e2 : (d == 2) = false := by rw [beq_eq_false_iff_ne]; exact dn2
            clear dn0 dn1 dn2
            go_wp2_with fail
            go_ret
            exact ⟨_, _, rfl, o5, HLn.out.2, R5.more (by omega), T6⟩
        · have e1 : decide ((j : Int) < (zs.length : Int)) = false := decide_eq_false (by omega)
          have e2 : decide (j < zs.length) = false := decide_eq_false hjz
          clear hjz
          have nA := (Below.refl w9.heap.size w9).alloc (Nat.le_refl _) (.cells #[.int .i64 (j : Int), .int .i64 (-1), .int .i64 9] 97)
          have hsz9 := T9.size
          go_wp2_with (at_builtin; go_must (refine wpList_append_own _ rfl _ _ 40 rfl w.heap.size 97 i0 (.agg #[.int .i64 0, .int .i64 0, .int .i64 0]) 3 24 Tryd.underlying40 hi hz0 hz1 hz2 rfl (by decide) _ L.length (upsV L) rfl (World.ownsRow.alloc o9 _) ⟨_, 0, none⟩ 1 1 [.int .i64 (j : Int), .int .i64 (-1), .int .i64 9] rfl rfl (new_three_at _ _ _ _ _ _ (by first | rfl | simp)) (upV_cells ⟨(j : Int), (-1), 9⟩) (by have := HL4.out; unfold maxLen; omega) (by have := HL4.out; omega) (by rw [World.size_alloc]; exact Nat.le_succ_of_le hsz9) ?_); intro v8 w8 hown hg _)
          obtain ⟨S1, S5, S6⟩ := ups_app (o := ⟨(j : Int), (-1), 9⟩) o9 R9 T9 hRl hown hg
          have HLn : Hid (1 ≤ (L ++ [(⟨(j : Int), (-1), 9⟩ : Up)]).length ∧ (L ++ [(⟨(j : Int), (-1), 9⟩ : Up)]).length ≤ 4) := by show _ ∧ _; rw [List.length_append, List.length_singleton]; have := HZ0.out; omega
          clear hown hg nA o9 R9 T9
          obtain ⟨L9, hL9⟩ : ∃ L9, L ++ [(⟨(j : Int), (-1), 9⟩ : Up)] = L9 := ⟨_, rfl⟩
          rw [hL9] at S1 HLn
          clear hL9
          go_wp2_with fail
          refine (pick_any R _ 30 _ S5 (by omega) (by omega) (by omega)).mono ?_
          rintro e w5 ⟨d, rfl, d0, d1, R5, T5⟩
          have o5 := S1.but T5 hRl
          have T6 := S6.trans T5
          clear S1 S5 S6 T5
          have key : d = 0 ∨ d = 1 ∨ d = 2 ∨ (d ≠ 0 ∧ d ≠ 1 ∧ d ≠ 2) := by omega
          rcases key with rfl | rfl | rfl | ⟨dn0, dn1, dn2⟩
          · obtain ⟨g, cc, hvv, hg1, hg2⟩ := o5.at (by have := HLn.out; omega)
            rw [hvv] at o5 ⊢
            clear hvv
            have hl1 : 1 ≤ L9.length ∧ L9.length ≤ 4 := HLn.out
            go_wp2_with fail
            refine (pick_any R _ (L9.length : Int) w5 R5 (by omega) (by omega) (by omega)).mono ?_
            rintro e w6 ⟨y, rfl, y0, y1, R6, T7⟩
            obtain ⟨m, rfl⟩ := Int.eq_ofNat_of_zero_le y0
            have hm : m < L9.length := by omega
            go_wp2_with fail
            refine (pick_any R _ 6 w6 R6 (by omega) (by omega) (by omega)).mono ?_
            rintro e w7 ⟨x, rfl, x0, x1, R7, T8⟩
            have o7 := (o5.but T7 hRl).but T8 hRl
            have T9 := (T6.trans T7).trans T8
            obtain ⟨u0, z0⟩ : ∃ u0, w7.cell? ⟨g, m * 3, none⟩ = some u0 := ⟨_, (World.ownsRow.cellAt o7 (m * 3) (by omega)).trans (List.getElem?_eq_getElem (by rw [upsV_length]; omega))⟩
            have f0 := World.ownsRow.frozenAt o7 (m * 3)
            have o8 := OwnUps.stored o7 (m := m) (d := 0) hm (by omega) ⟨x - 1, L9[m].o, L9[m].n⟩ (.int .i64 (x - 1)) rfl
            rw [Nat.add_zero] at o8
            have T10 := T9.set_new hg1 (m * 3) (.int .i64 (x - 1))
            have R8 := R7.far (g := g) (by omega) (m * 3) (.int .i64 (x - 1))
            have hls : Hid ((L9.set m ⟨x - 1, L9[m].o, L9[m].n⟩).length ≤ 4) := by show _ ≤ _; rw [List.length_set]; omega
            clear o5 R5 T6 R6 T7 T8 R7 T9 o7
            go_wp2_with fail
            go_ret
            exact ⟨_, _, rfl, o8, hls.out, R8.more (by omega), T10⟩
          · obtain ⟨g, cc, hvv, hg1, hg2⟩ := o5.at (by have := HLn.out; omega)
            rw [hvv] at o5 ⊢
            clear hvv
            have hl1 : 1 ≤ L9.length ∧ L9.length ≤ 4 := HLn.out
            go_wp2_with fail
            refine (pick_any R _ (L9.length : Int) w5 R5 (by omega) (by omega) (by omega)).mono ?_
            rintro e w6 ⟨y, rfl, y0, y1, R6, T7⟩
            obtain ⟨m, rfl⟩ := Int.eq_ofNat_of_zero_le y0
            have hm : m < L9.length := by omega
            go_wp2_with fail
            refine (l92Value_any R _ w6 R6 (by omega)).mono ?_
            rintro e w7 ⟨x, rfl, x0, x1, R7, T8⟩
            have o7 := (o5.but T7 hRl).but T8 hRl
            have T9 := (T6.trans T7).trans T8
            obtain ⟨u0, z0⟩ : ∃ u0, w7.cell? ⟨g, m * 3 + 2, none⟩ = some u0 := ⟨_, (World.ownsRow.cellAt o7 (m * 3 + 2) (by omega)).trans (List.getElem?_eq_getElem (by rw [upsV_length]; omega))⟩
            have f0 := World.ownsRow.frozenAt o7 (m * 3 + 2)
            have o8 := OwnUps.stored o7 (m := m) (d := 2) hm (by omega) ⟨L9[m].r, L9[m].o, x⟩ (.int .i64 x) rfl
            have T10 := T9.set_new hg1 (m * 3 + 2) (.int .i64 x)
            have R8 := R7.far (g := g) (by omega) (m * 3 + 2) (.int .i64 x)
            have hls : Hid ((L9.set m ⟨L9[m].r, L9[m].o, x⟩).length ≤ 4) := by show _ ≤ _; rw [List.length_set]; omega
            clear o5 R5 T6 R6 T7 T8 R7 T9 o7
            go_wp2_with fail
            go_ret
            exact ⟨_, _, rfl, o8, hls.out, R8.more (by omega), T10⟩
          · obtain ⟨g, cc, hvv, hg1, hg2⟩ := o5.at (by have := HLn.out; omega)
            rw [hvv] at o5 ⊢
            clear hvv
            have o8 := o5.cut0 rfl
            have q1 : (0 : Int) ≤ (cc : Int) := by omega
            clear o5
            go_wp2_with fail
            go_ret
            exact ⟨_, [], rfl, o8, Nat.zero_le _, R5.more (by omega), T6⟩
          · have e0 : (d == 0) = false := by rw [beq_eq_false_iff_ne]; exact dn0
            have e1 : (d == 1) = false := by rw [beq_eq_false_iff_ne]; exact dn1
            have e2 : (d == 2) = false := by rw [beq_eq_false_iff_ne]; exact dn2
            clear dn0 dn1 dn2
            go_wp2_with fail
            go_ret
            exact ⟨_, _, rfl, o5, HLn.out.2, R5.more (by omega), T6⟩
      · have e0 : ((L.length : Int) == 0) = false := by rw [beq_eq_false_iff_ne]; omega
        have HLn : Hid (1 ≤ L.length ∧ L.length ≤ 4) := by show _ ∧ _; have := HL.out; omega
        have S1 := ho
        have S5 := Rk
        have S6 := Tk
        clear h0 hlt ho Rk Tk
        go_wp2_with fail
        refine (pick_any R _ 30 _ S5 (by omega) (by omega) (by omega)).mono ?_
        rintro e w5 ⟨d, rfl, d0, d1, R5, T5⟩
        have o5 := S1.but T5 hRl
        have T6 := S6.trans T5
        clear S1 S5 S6 T5
        have key : d = 0 ∨ d = 1 ∨ d = 2 ∨ (d ≠ 0 ∧ d ≠ 1 ∧ d ≠ 2) := by omega
        rcases key with rfl | rfl | rfl | ⟨dn0, dn1, dn2⟩
        · obtain ⟨g, cc, hvv, hg1, hg2⟩ := o5.at (by have := HLn.out; omega)
          rw [hvv] at o5 ⊢
          clear hvv
          have hl1 : 1 ≤ L.length ∧ L.length ≤ 4 := HLn.out
          go_wp2_with fail
          refine (pick_any R _ (L.length : Int) w5 R5 (by omega) (by omega) (by omega)).mono ?_
          rintro e w6 ⟨y, rfl, y0, y1, R6, T7⟩
          obtain ⟨m, rfl⟩ := Int.eq_ofNat_of_zero_le y0
          have hm : m < L.length := by omega
          go_wp2_with fail
          refine (pick_any R _ 6 w6 R6 (by omega) (by omega) (by omega)).mono ?_
          rintro e w7 ⟨x, rfl, x0, x1, R7, T8⟩
          have o7 := (o5.but T7 hRl).but T8 hRl
          have T9 := (T6.trans T7).trans T8
          obtain ⟨u0, z0⟩ : ∃ u0, w7.cell? ⟨g, m * 3, none⟩ = some u0 := ⟨_, (World.ownsRow.cellAt o7 (m * 3) (by omega)).trans (List.getElem?_eq_getElem (by rw [upsV_length]; omega))⟩
          have f0 := World.ownsRow.frozenAt o7 (m * 3)
          have o8 := OwnUps.stored o7 (m := m) (d := 0) hm (by omega) ⟨x - 1, L[m].o, L[m].n⟩ (.int .i64 (x - 1)) rfl
          rw [Nat.add_zero] at o8
          have T10 := T9.set_new hg1 (m * 3) (.int .i64 (x - 1))
          have R8 := R7.far (g := g) (by omega) (m * 3) (.int .i64 (x - 1))
          have hls : Hid ((L.set m ⟨x - 1, L[m].o, L[m].n⟩).length ≤ 4) := by show _ ≤ _; rw [List.length_set]; omega
          clear o5 R5 T6 R6 T7 T8 R7 T9 o7
          go_wp2_with fail
          go_ret
          exact ⟨_, _, rfl, o8, hls.out, R8.more (by omega), T10⟩
        · obtain ⟨g, cc, hvv, hg1, hg2⟩ := o5.at (by have := HLn.out; omega)
          rw [hvv] at o5 ⊢
          clear hvv
          have hl1 : 1 ≤ L.length ∧ L.length ≤ 4 := HLn.out
          go_wp2_with fail
          refine (pick_any R _ (L.length : Int) w5 R5 (by omega) (by omega) (by omega)).mono ?_
          rintro e w6 ⟨y, rfl, y0, y1, R6, T7⟩
          obtain ⟨m, rfl⟩ := Int.eq_ofNat_of_zero_le y0
          have hm : m < L.length := by omega
          go_wp2_with fail
          refine (l92Value_any R _ w6 R6 (by omega)).mono ?_
          rintro e w7 ⟨x, rfl, x0, x1, R7, T8⟩
          have o7 := (o5.but T7 hRl).but T8 hRl
          have T9 := (T6.trans T7).trans T8
          obtain ⟨u0, z0⟩ : ∃ u0, w7.cell? ⟨g, m * 3 + 2, none⟩ = some u0 := ⟨_, (World.ownsRow.cellAt o7 (m * 3 + 2) (by omega)).trans (List.getElem?_eq_getElem (by rw [upsV_length]; omega))⟩
          have f0 := World.ownsRow.frozenAt o7 (m * 3 + 2)
          have o8 := OwnUps.stored o7 (m := m) (d := 2) hm (by omega) ⟨L[m].r, L[m].o, x⟩ (.int .i64 x) rfl
          have T10 := T9.set_new hg1 (m * 3 + 2) (.int .i64 x)
          have R8 := R7.far (g := g) (by omega) (m * 3 + 2) (.int .i64 x)
          have hls : Hid ((L.set m ⟨L[m].r, L[m].o, x⟩).length ≤ 4) := by show _ ≤ _; rw [List.length_set]; omega
          clear o5 R5 T6 R6 T7 T8 R7 T9 o7
          go_wp2_with fail
          go_ret
          exact ⟨_, _, rfl, o8, hls.out, R8.more (by omega), T10⟩
        · obtain ⟨g, cc, hvv, hg1, hg2⟩ := o5.at (by have := HLn.out; omega)
          rw [hvv] at o5 ⊢
          clear hvv
          have o8 := o5.cut0 rfl
          have q1 : (0 : Int) ≤ (cc : Int) := by omega
          clear o5
          go_wp2_with fail
          go_ret
          exact ⟨_, [], rfl, o8, Nat.zero_le _, R5.more (by omega), T6⟩
        · have e0 : (d == 0) = false := by rw [beq_eq_false_iff_ne]; exact dn0
          have e1 : (d == 1) = false := by rw [beq_eq_false_iff_ne]; exact dn1
          have e2 : (d == 2) = false := by rw [beq_eq_false_iff_ne]; exact dn2
          clear dn0 dn1 dn2
          go_wp2_with fail
          go_ret
          exact ⟨_, _, rfl, o5, HLn.out.2, R5.more (by omega), T6⟩
end Go.Proofs.YthmnaljncapmeabDoor
namespace Go.Proofs.YthmnaljncapmeabDoor
open Go.RowKit Wo Pu Rf

/-- Drawn refs. -/
def RefsMade (w : World) (e : Ending) (w' : World) : Prop := ∃ A c zs, e = .returned (.slice A zs.length c) ∧ Row w' w'.heap.size A (ints zs) ∧ zs.length ≤ 4 ∧ zs.length ≤ c ∧ Below w.heap.size w w'
/-- Drawn updates. -/
def UpsMade (w : World) (e : Ending) (w' : World) : Prop := ∃ A c us, e = .returned (.slice A us.length c) ∧ Row w' w'.heap.size A (upsV us) ∧ us.length ≤ 4 ∧ us.length ≤ c ∧ Below w.heap.size w w'
/-- Drawn refs and updates. -/
def BothMade (w : World) (e : Ending) (w' : World) : Prop := ∃ A c zs A2 c2 us, e = .returned (.tuple #[.slice A zs.length c, .slice A2 us.length c2]) ∧ Row w' w'.heap.size A (ints zs) ∧ zs.length ≤ 4 ∧ Row w' w'.heap.size A2 (upsV us) ∧ us.length ≤ 4 ∧ Below w.heap.size w w'
/-- Two drawn lists of refs. -/
def TwoRefs (w : World) (e : Ending) (w' : World) : Prop := ∃ A c zs A2 c2 ys, e = .returned (.tuple #[.slice A zs.length c, .slice A2 ys.length c2]) ∧ Row w' w'.heap.size A (ints zs) ∧ zs.length ≤ 4 ∧ Row w' w'.heap.size A2 (ints ys) ∧ ys.length ≤ 4 ∧ Below w.heap.size w w'
/-- Two drawn lists of updates. -/
def TwoUps (w : World) (e : Ending) (w' : World) : Prop := ∃ A c us A2 c2 vs, e = .returned (.tuple #[.slice A us.length c, .slice A2 vs.length c2]) ∧ Row w' w'.heap.size A (upsV us) ∧ us.length ≤ 4 ∧ Row w' w'.heap.size A2 (upsV vs) ∧ vs.length ≤ 4 ∧ Below w.heap.size w w'
theorem OwnI.ne {w : World} {B R n c : Nat} {A : Option Addr} {zs : List Int} (h : OwnI w B (.slice A n c) zs) (hR : R < B) : ∀ ad, A = some ad → ad.block ≠ R := fun ad e => by
  subst e
  have := (World.ownsRow.lt h ad.block rfl).1
  omega
theorem OwnUps.row {w : World} {B c : Nat} {A : Option Addr} {n : Nat} {us : List Up} (h : OwnUps w B (.slice A n c) us) : Row w w.heap.size A (upsV us) := by
  obtain ⟨A', c', e, hr, _⟩ := h.form
  injection e with e1
  subst e1
  exact hr
theorem row_wide {w : World} {B B' : Nat} {A : Option Addr} {vs : List Value} (h : Row w B A vs) (hB : B ≤ B') : Row w B' A vs := by
  rcases h with rfl | ⟨ad, e, hb, hc⟩
  · exact .inl rfl
  · exact .inr ⟨ad, e, Nat.lt_of_lt_of_le hb hB, hc⟩
theorem OwnI.wide {w w' : World} {B c n : Nat} {A : Option Addr} {zs : List Int} (h : OwnI w B (.slice A n c) zs) (hb : Below w.heap.size w w') : Row w' w'.heap.size A (ints zs) := (h.below hb (Nat.le_refl _)).row
end Go.Proofs.YthmnaljncapmeabDoor
namespace Go.Proofs.YthmnaljncapmeabDoor
open Go.RowKit Wo Pu Rf

set_option maxHeartbeats 2000000 in
theorem sameUpdates_ret (A A2 : Option Addr) (c c2 : Nat) (os : List Up) (w : World) (B C : Nat) (h : Row w B A (upsV os)) (h2 : Row w C A2 (upsV os)) (hn : os.length ≤ 1048600) :
    Calls Tryd.prog 86 #[.slice A os.length c, .slice A2 os.length c2] w (Ret (.bool true) w) := by
  go_enter Tryd.func86, Tryd.ntmps86
  go_wp2
  go_loopw [5] (fun i wr => ∃ k : Nat, k ≤ os.length ∧ i = .int .i64 k ∧ Dr w wr) (fun i _ => os.length - (intOf i).toNat)
  case atStart => exact ⟨0, Nat.zero_le _, rfl, .refl _⟩
  case round =>
    obtain ⟨k, hk, rfl, HW⟩ := hrel
    by_cases hlt : k < os.length
    · obtain ⟨o, ad, ho, rfl, ha1, g0, g1, g2⟩ := (HW.row h).up_ hlt
      obtain ⟨o2, ad2, ho2, rfl, ha2, g20, g21, g22⟩ := (HW.row h2).up_ hlt
      obtain rfl : o = o2 := by rw [← ho, ← ho2]
      have k0 : 0 ≤ (k : Int) := by omega
      have k1 : (k : Int) < (os.length : Int) := by omega
      clear ho ho2
      go_wp2
      go_quiet (fail)
      go_wp2
      go_roundw
      case rel => exact ⟨k + 1, by omega, by go_num, HW.drewN _⟩
      case measure => simp [intOf]; omega
    · have hk' : k = os.length := by omega
      subst hk'
      go_wp2
      go_ret
      exact .mk_ (HW.below _)
end Go.Proofs.YthmnaljncapmeabDoor
namespace Go.Proofs.YthmnaljncapmeabDoor
open Go.RowKit Wo Pu Rf

/-- Block g is an array of the values vs. -/
def Arr4 (w : World) (g : Nat) (t : TypeId) (vs : List Value) : Prop := w.heap[g]? = some (.cells vs.toArray t (0, 0))
section
variable {w w' : World} {g : Nat} {t : TypeId} {vs : List Value}
theorem Arr4.new_ (w : World) (t : TypeId) (vs : List Value) : Arr4 (w.alloc (.cells vs.toArray t)) w.heap.size t vs := heap_alloc_new w _
theorem Arr4.lt (h : Arr4 w g t vs) : g < w.heap.size := by
  rcases Nat.lt_or_ge g w.heap.size with h1 | h1
  · exact h1
  · unfold Arr4 at h; rw [Array.getElem?_eq_none h1] at h; cases h
theorem Arr4.read (h : Arr4 w g t vs) {i : Nat} (hi : i < vs.length) : w.cell? ⟨g, i, none⟩ = some vs[i] := by
  unfold Arr4 at h
  simp [World.cell?, h, hi]
theorem Arr4.frozen (h : Arr4 w g t vs) (o : Nat) : w.frozen? ⟨g, o, none⟩ = false := by
  unfold Arr4 at h
  simp [World.frozen?, h]
theorem Arr4.below {C : Nat} (h : Arr4 w g t vs) (hb : Below C w w') (hC : g < C) : Arr4 w' g t vs := (hb.block g hC).trans h
theorem Arr4.far (h : Arr4 w g t vs) {p : Addr} (hp : g ≠ p.block) (u : Value) : Arr4 (w.setCell p u) g t vs := (Below.heap_setCell w p u g hp).trans h
theorem Arr4.set (h : Arr4 w g t vs) (i : Nat) (u : Value) : Arr4 (w.setCell ⟨g, i, none⟩ u) g t (vs.set i u) := by
  unfold Arr4 at h ⊢
  simp [World.setCell, Array.getElem?_modify, h]
theorem Arr4.row (h : Arr4 w g t vs) : Row w w.heap.size (some ⟨g, 0, none⟩) vs := by
  refine .inr ⟨_, rfl, h.lt, fun j v hj => ?_⟩
  have e : (⟨g, 0, none⟩ : Addr).add j = ⟨g, j, none⟩ := by unfold Addr.add; split <;> simp_all
  rw [e]
  unfold Arr4 at h
  simp [World.cell?, h, hj]
end
/-- The first k are zs's, the others 0. -/
def pad (zs : List Int) (k : Nat) : List Int := zs.take k ++ List.replicate (4 - k) 0
theorem pad_zero (zs : List Int) : pad zs 0 = [0, 0, 0, 0] := by simp [pad, List.replicate]
theorem pad_all {zs : List Int} (h : zs.length = 4) : pad zs 4 = zs := by simp [pad, List.take_of_length_le, h]
theorem pad_length {zs : List Int} {k : Nat} (h : zs.length = 4) (hk : k ≤ 4) : (pad zs k).length = 4 := by simp [pad]; omega
theorem pad_set {zs : List Int} {k : Nat} (h : zs.length = 4) (hk : k < 4) : (pad zs k).set k (zs[k]'(by omega)) = pad zs (k + 1) := by
  apply List.ext_getElem?
  intro i
  unfold pad
  rw [List.getElem?_set, List.length_append, List.length_take, List.length_replicate]
  have hk' : k < zs.length := by omega
  by_cases e : k = i
  · subst e
    rw [if_pos rfl, if_pos (by omega), List.getElem?_append_left (by simp; omega), List.getElem?_take, if_pos (by omega), List.getElem?_eq_getElem hk']
  · rw [if_neg e]
    by_cases hi : i < k
    · rw [List.getElem?_append_left (by simp; omega), List.getElem?_append_left (by simp; omega), List.getElem?_take, List.getElem?_take, if_pos hi, if_pos (by omega)]
    · rw [List.getElem?_append_right (by simp; omega), List.getElem?_append_right (by simp; omega), List.length_take, List.length_take, List.getElem?_replicate, List.getElem?_replicate]
      by_cases h4 : i < 4
      · rw [if_pos (by omega), if_pos (by omega)]
      · rw [if_neg (by omega), if_neg (by omega)]
/-- Which refs the first k of us name. -/
def named (us : List Up) (k : Nat) (i : Nat) : Bool := (us.take k).any (fun u => u.r.toNat == i)
def nameds (us : List Up) (k : Nat) : List Value := [.bool (named us k 0), .bool (named us k 1), .bool (named us k 2), .bool (named us k 3)]
theorem named_zero (us : List Up) (i : Nat) : named us 0 i = false := by simp [named]
theorem nameds_zero (us : List Up) : nameds us 0 = [.bool false, .bool false, .bool false, .bool false] := by simp [nameds, named_zero]
theorem named_next {us : List Up} {k : Nat} (hk : k < us.length) (i : Nat) : named us (k + 1) i = (named us k i || us[k].r.toNat == i) := by
  unfold named
  rw [List.take_succ_eq_append_getElem hk, List.any_append]
  simp
theorem nameds_next {us : List Up} {k : Nat} (hk : k < us.length) {m : Nat} (hm : us[k].r = (m : Int)) (h4 : m < 4) : (nameds us k).set m (.bool true) = nameds us (k + 1) := by
  unfold nameds
  simp only [named_next hk, hm, Int.toNat_natCast]
  match m, h4 with
  | 0, _ => simp
  | 1, _ => simp
  | 2, _ => simp
  | 3, _ => simp
theorem nameds_get (us : List Up) (k : Nat) {m : Nat} (h4 : m < 4) : (nameds us k)[m]'(by simpa [nameds] using h4) = .bool (named us k m) := by
  unfold nameds
  match m, h4 with
  | 0, _ => rfl
  | 1, _ => rfl
  | 2, _ => rfl
  | 3, _ => rfl
theorem named_iff (us : List Up) (i : Nat) : named us us.length i = true ↔ ∃ u ∈ us, u.r.toNat = i := by
  unfold named
  rw [List.take_length, List.any_eq_true]
  simp
/-- None of the first k of b names a ref of a. -/
def Apart (a b : List Up) (k : Nat) : Prop := ∀ i (h : i < b.length), i < k → named a a.length b[i].r.toNat = false
theorem Apart.zero (a b : List Up) : Apart a b 0 := fun _ _ h => absurd h (Nat.not_lt_zero _)
theorem Apart.next {a b : List Up} {k : Nat} (h : Apart a b k) (hk : k < b.length) (e : named a a.length b[k].r.toNat = false) : Apart a b (k + 1) := fun i hi hl => by
  by_cases e2 : i = k
  · subst e2; exact e
  · exact h i hi (by omega)
theorem Apart.none {a b : List Up} (h : Apart a b b.length) : ¬ Cross a b := fun ⟨_, _, u, hu, v, hv, e⟩ => by
  obtain ⟨i, hi, rfl⟩ := List.getElem_of_mem hv
  have h1 := h i hi hi
  have h2 := (named_iff a b[i].r.toNat).2 ⟨u, hu, by rw [e]⟩
  rw [h1] at h2
  cases h2
theorem cross_named {a b : List Up} (ha : UV a) (hb : UV b) {k : Nat} (hk : k < b.length) (e : named a a.length b[k].r.toNat = true) : Cross a b := by
  obtain ⟨u, hu, h⟩ := (named_iff a _).1 e
  have h1 := (ha.2.mem u hu).2.1
  have h2 := (hb.2.mem _ (List.getElem_mem hk)).2.1
  exact ⟨ha, hb, u, hu, _, List.getElem_mem hk, by omega⟩
/-- The ref of the last of the first k; -1 if there is none. -/
def lastR (us : List Up) (k : Nat) : Int := if h : 0 < k ∧ k - 1 < us.length then (us[k - 1]'h.2).r else -1
theorem lastR_zero (us : List Up) : lastR us 0 = -1 := by unfold lastR; rw [dif_neg (by omega)]
theorem lastR_next {us : List Up} {k : Nat} (hk : k < us.length) : lastR us (k + 1) = us[k].r := by
  unfold lastR
  rw [dif_pos (by omega)]
  rfl
theorem okU_iff {us : List Up} {k : Nat} (hk : k < us.length) : OkU us k hk ↔ Ok us[k] ∧ lastR us k < us[k].r := by
  unfold OkU lastR
  refine and_congr_right fun h => ?_
  by_cases e : k = 0
  · subst e
    rw [dif_neg (by omega)]
    exact ⟨fun _ => by have := h.1.1; omega, fun _ => .inl rfl⟩
  · rw [dif_pos ⟨by omega, by omega⟩]
    exact ⟨fun h2 => by rcases h2 with h2 | ⟨_, h2⟩; exact absurd h2 e; exact h2, fun h2 => .inr ⟨by omega, h2⟩⟩
end Go.Proofs.YthmnaljncapmeabDoor
namespace Go.Proofs.YthmnaljncapmeabDoor
open Go.RowKit Wo Pu Rf

theorem refIdValid_is (b : Bool) (n : Int) (w : World) (hb : b = true ↔ Val n) : Calls Tryd.prog 82 #[.int .i64 n] w (Same (.bool b) w) := by
  have HB := hid hb
  clear hb
  by_cases h0 : n = -1
  · have F := hid (HB.out.2 ⟨by omega, by omega⟩)
    have e0 : (n == -1) = true := by rw [beq_iff_eq]; exact h0
    clear h0
    go_enter Tryd.func82, Tryd.ntmps82
    go_wp2
    go_ret
    rw [F.out]
    exact ⟨rfl, rfl⟩
  · have e0 : (n == -1) = false := by rw [beq_eq_false_iff_ne]; exact h0
    by_cases h1 : 0 ≤ n
    · have e1 : decide (0 ≤ n) = true := decide_eq_true h1
      by_cases h2 : n < 991
      · have F := hid (HB.out.2 ⟨by omega, by omega⟩)
        have e2 : decide (n < 991) = true := decide_eq_true h2
        clear h0 h1 h2
        go_enter Tryd.func82, Tryd.ntmps82
        go_wp2
        go_ret
        rw [F.out]
        exact ⟨rfl, rfl⟩
      · have F : Hid (b = false) := by
          show b = false
          rw [← Bool.not_eq_true]
          exact fun e => by have := (HB.out.1 e).2; omega
        have e2 : decide (n < 991) = false := decide_eq_false h2
        clear h0 h1 h2
        go_enter Tryd.func82, Tryd.ntmps82
        go_wp2
        go_ret
        rw [F.out]
        exact ⟨rfl, rfl⟩
    · have F : Hid (b = false) := by
        show b = false
        rw [← Bool.not_eq_true]
        exact fun e => by have := (HB.out.1 e).1; omega
      have e1 : decide (0 ≤ n) = false := decide_eq_false h1
      clear h0 h1
      go_enter Tryd.func82, Tryd.ntmps82
      go_wp2
      go_ret
      rw [F.out]
      exact ⟨rfl, rfl⟩

/-! ### Arrays of refs. -/
theorem info_refs : (Tryd.prog.info? 71).map (·.size) = some 4 := by kernel_rfl
theorem ints_ones (zs : List Int) : (ints zs).toArray.all (·.oneCell') = true := by
  rw [Array.all_eq_true]
  intro i hi
  simp [ints, Value.oneCell']
theorem results_cell_slot {fn : Func} {p s : Tmp} {ty : TypeId} (h : fn.results = #[.cell p ty, .tmp s]) (tmps : Array Value) (w : World) (g : Nat) (t : TypeId) (cs : Array Value) (fr : Nat × Nat) (n : Nat) (el : TypeId) (v : Value)
    (hp : tmps.getD p undef = .pointer (some ⟨g, 0, none⟩)) (hs : tmps.getD s undef = v) (hg : w.heap[g]? = some (.cells cs t fr))
    (hu : Tryd.prog.underlying ty = some (.array n el)) (hi : (Tryd.prog.info? ty).map (·.size) = some cs.size) :
    (results fn tmps).run Tryd.prog w = .ok (.tuple #[.agg cs, v]) w := by
  have hp' : tmps[p]?.getD undef = .pointer (some ⟨g, 0, none⟩) := by simpa using hp
  have hs' : tmps[s]?.getD undef = v := by simpa using hs
  simp [results, h, hp', hs', asAddr, run_loadVar_row w g t ty cs fr _ hg hu rfl hi]

/-- What readRefs answers: the refs as an array, and whether they are valid. -/
def ReadR (b : Bool) (zs : List Int) (w : World) (e : Ending) (w' : World) : Prop := e = .returned (.tuple #[.agg (ints (if b then zs else [0, 0, 0, 0])).toArray, .bool b]) ∧ Below w.heap.size w w'
set_option maxRecDepth 100000 in
set_option maxHeartbeats 4000000 in
theorem readRefs_is (b : Bool) (A : Option Addr) (c : Nat) (zs : List Int) (w : World) (B : Nat) (hr : Row w B A (ints zs)) (hB : B ≤ w.heap.size) (hb : b = true ↔ RV zs) :
    Calls Tryd.prog 56 #[.slice A zs.length c] w (ReadR b zs w) := by
  have HB := hid hb
  clear hb
  have al := (Below.refl w.heap.size w).alloc (Nat.le_refl _) (.cells #[.int .i64 0, .int .i64 0, .int .i64 0, .int .i64 0] 71)
  by_cases h4 : zs.length = 4
  · have H4 := hid h4
    have e0 : ((zs.length : Int) != 4) = false := by rw [bne_eq_false_iff_eq]; omega
    clear h4
    go_enter Tryd.func56, Tryd.ntmps56
    go_wp2_with fail
    have a1 := Arr4.new_ (w.alloc (.cells #[.int .i64 0, .int .i64 0, .int .i64 0, .int .i64 0] 71)) 71 (ints [0, 0, 0, 0])
    have a0 := (Arr4.new_ w 71 (ints [0, 0, 0, 0])).below ((Below.refl _ _).alloc (Nat.le_refl _) (.cells #[.int .i64 0, .int .i64 0, .int .i64 0, .int .i64 0] 71)) (by simp)
    have al2 := al.alloc al.size (.cells #[.int .i64 0, .int .i64 0, .int .i64 0, .int .i64 0] 71)
    rw [World.size_alloc] at a1
    go_loopw [13] (fun i wr => ∃ k : Nat, k ≤ 4 ∧ i = .int .i64 k ∧ Hid (ValTo zs k) ∧ Arr4 wr (w.heap.size + 1) 71 (ints (pad zs k)) ∧ Arr4 wr w.heap.size 71 (ints [0, 0, 0, 0]) ∧ Below w.heap.size w wr) (fun i _ => 4 - (intOf i).toNat)
    case atStart => exact ⟨0, Nat.zero_le _, rfl, .zero zs, by rw [pad_zero]; exact a1, a0, al2⟩
    case round =>
      obtain ⟨k, hk, rfl, H, ha, h0, hbr⟩ := hrel
      clear a1 a0 al2 al
      by_cases hlt : k < 4
      · have hltz : k < zs.length := by rw [H4.out]; exact hlt
        obtain ⟨ad, rfl, hbl, hc⟩ := ((hr.more hB).below hbr (Nat.le_refl _)).int_ hltz
        have q0 : (0 : Int) ≤ (k : Int) := by omega
        have q1 : (k : Int) < 4 := by omega
        have q2 : (k : Int) < (zs.length : Int) := by omega
        by_cases hv : Val zs[k]
        · have CV : Hid (∀ x, Calls Tryd.prog 82 #[.int .i64 zs[k]] x (Same (.bool true) x)) := fun x => refIdValid_is true _ x (by simp [hv])
          have HN := hid (H.out.next hltz hv)
          have hl4 := pad_length H4.out hk
          have y0 := ha.read (i := k) (by rw [ints_length]; omega)
          have f0 := ha.frozen k
          have ha2 := ha.set k (.int .i64 zs[k])
          rw [ints_set, pad_set H4.out hlt] at ha2
          have h02 := h0.far (p := ⟨w.heap.size + 1, k, none⟩) (by show w.heap.size ≠ w.heap.size + 1; omega) (.int .i64 zs[k])
          have hb2 := hbr.setCell (p := ⟨w.heap.size + 1, k, none⟩) (Nat.le_succ _) (.int .i64 zs[k])
          clear H hv ha h0
          go_wp2_with (go_at_call 82; refine (CV.out _).mono ?_; rintro e w' ⟨rfl, rfl⟩)
          go_roundw
          case rel => exact ⟨k + 1, by omega, by go_num, HN, ha2, h02, hb2⟩
          case measure => simp [intOf]; omega
        · have CV : Hid (∀ x, Calls Tryd.prog 82 #[.int .i64 zs[k]] x (Same (.bool false) x)) := fun x => refIdValid_is false _ x (by simp [hv])
          have F : Hid (b = false) := by
            show b = false
            rw [← Bool.not_eq_true]
            exact fun e => hv ((HB.out.1 e).2 _ (List.getElem_mem hltz))
          clear H hv ha
          have h0' : wr.heap[w.heap.size]? = some (.cells (ints [0, 0, 0, 0]).toArray 71 (0, 0)) := h0
          go_wp2_with (first
            | (go_at_call 82; refine (CV.out _).mono ?_; rintro e w' ⟨rfl, rfl⟩)
            | (refine wpList_store_rowTo rfl 71 _ _ rfl rfl w.heap.size (ints [0, 0, 0, 0]).toArray rfl rfl 71 _ h0' info_refs rfl (ints_ones _) ?_))
          have h2 : (wr.setRow w.heap.size (ints [0, 0, 0, 0]).toArray).heap[w.heap.size]? = some (.cells (ints [0, 0, 0, 0]).toArray 71 (0, 0)) := setRow_heap wr _ _ _ _ _ h0'
          have hb2 := below_setRow hbr (Nat.le_refl _) (ints [0, 0, 0, 0]).toArray
          rw [F.out]
          refine bodyPost_ret (v := .tuple #[.agg (ints [0, 0, 0, 0]).toArray, .bool false]) (results_cell_slot (p := 2) (s := 3) (by kernel_rfl) _ _ w.heap.size 71 _ (0, 0) _ _ _ rfl rfl h2 Tryd.underlying71 info_refs) rfl ⟨rfl, hb2⟩
      · have hk' : k = 4 := by omega
        have F := hid (HB.out.2 ⟨H4.out, by have := H.out; rw [hk', ← H4.out] at this; exact this.all⟩)
        rw [hk', pad_all H4.out] at ha
        have e1 : decide ((k : Int) < (zs.length : Int)) = false := decide_eq_false (by rw [H4.out]; omega)
        have e2 : decide (k < zs.length) = false := decide_eq_false (by rw [H4.out]; omega)
        clear H hk' hlt hk
        have ha' : wr.heap[w.heap.size + 1]? = some (.cells (ints zs).toArray 71 (0, 0)) := ha
        have h0' : wr.heap[w.heap.size]? = some (.cells (ints [0, 0, 0, 0]).toArray 71 (0, 0)) := h0
        have hsz : (ints zs).toArray.size = 4 := by rw [List.size_toArray, ints_length, H4.out]
        have hsz' : (Tryd.prog.info? 71).map (·.size) = some (ints zs).toArray.size := by rw [hsz]; exact info_refs
        have HSZ := hid hsz
        have HSZ' := hid hsz'
        clear hsz hsz'
        go_wp2_with (first
          | (refine wpList_load_row rfl 71 _ rfl (w.heap.size + 1) rfl 71 (ints zs).toArray (0, 0) _ ha' Tryd.underlying71 rfl HSZ'.out ?_)
          | (refine wpList_store_rowTo rfl 71 _ _ rfl rfl w.heap.size (ints zs).toArray rfl rfl 71 (ints [0, 0, 0, 0]).toArray h0' HSZ'.out HSZ.out.symm (ints_ones _) ?_))
        have h2 : (wr.setRow w.heap.size (ints zs).toArray).heap[w.heap.size]? = some (.cells (ints zs).toArray 71 (0, 0)) := setRow_heap wr _ _ _ _ _ h0'
        have hb2 := below_setRow hbr (Nat.le_refl _) (ints zs).toArray
        rw [F.out]
        refine bodyPost_ret (v := .tuple #[.agg (ints zs).toArray, .bool true]) (results_cell_slot (p := 2) (s := 3) (by kernel_rfl) _ _ w.heap.size 71 _ (0, 0) _ _ _ rfl rfl h2 Tryd.underlying71 HSZ'.out) rfl ⟨rfl, hb2⟩
  · have F : Hid (b = false) := by
      show b = false
      rw [← Bool.not_eq_true]
      exact fun e => h4 (HB.out.1 e).1
    have e0 : ((zs.length : Int) != 4) = true := by rw [bne_iff_ne]; omega
    clear h4
    go_enter Tryd.func56, Tryd.ntmps56
    go_wp2_with fail
    rw [F.out]
    refine bodyPost_ret (v := .tuple #[.agg (ints [0, 0, 0, 0]).toArray, .bool false]) (results_cell_slot (p := 2) (s := 3) (by kernel_rfl) _ _ w.heap.size 71 _ (0, 0) _ _ _ rfl rfl (heap_alloc_new _ _) Tryd.underlying71 info_refs) rfl ⟨rfl, al⟩

/-! ### Updates. -/
set_option maxHeartbeats 2000000 in
theorem valid_is (b : Bool) (u : Up) (w : World) (hb : b = true ↔ Ok u) : Calls Tryd.prog 83 #[upA u] w (Ret (.bool b) w) := by
  obtain ⟨bo, hbo⟩ := bool_of (Val u.o)
  obtain ⟨bn, hbn⟩ := bool_of (Val u.n)
  obtain ⟨b0, hb0⟩ := bool_of (0 ≤ u.r)
  obtain ⟨b1, hb1⟩ := bool_of (u.r < 4)
  obtain ⟨bd, hbd⟩ := bool_of (u.o ≠ u.n)
  have F : Hid (b = (b0 && b1 && bo && bn && bd)) := by
    show b = _
    rw [Bool.eq_iff_iff, hb]
    simp only [Bool.and_eq_true, hbo, hbn, hb0, hb1, hbd]
    unfold Ok
    constructor
    · rintro ⟨⟨h1, h2⟩, h3, h4, h5⟩; exact ⟨⟨⟨⟨h1, by omega⟩, h3⟩, h4⟩, h5⟩
    · rintro ⟨⟨⟨⟨h1, h2⟩, h3⟩, h4⟩, h5⟩; exact ⟨⟨h1, by omega⟩, h3, h4, h5⟩
  have CO : Hid (∀ x, Calls Tryd.prog 82 #[.int .i64 u.o] x (Same (.bool bo) x)) := fun x => refIdValid_is bo _ x hbo
  have CN : Hid (∀ x, Calls Tryd.prog 82 #[.int .i64 u.n] x (Same (.bool bn) x)) := fun x => refIdValid_is bn _ x hbn
  have e0 : decide (0 ≤ u.r) = b0 := by rw [Bool.eq_iff_iff, decide_eq_true_iff, hb0]
  have e1 : decide (u.r < 4) = b1 := by rw [Bool.eq_iff_iff, decide_eq_true_iff, hb1]
  have e2 : (u.o != u.n) = bd := by rw [Bool.eq_iff_iff, bne_iff_ne, hbd]
  have al := (Below.refl w.heap.size w).alloc (Nat.le_refl _) (.cells #[.int .i64 u.r, .int .i64 u.o, .int .i64 u.n] 97)
  clear hb hbo hbn hb0 hb1 hbd
  unfold upA
  cases b0 with
  | false =>
    go_enter Tryd.func83, Tryd.ntmps83
    go_wp2_with fail
    go_ret
    rw [F.out]
    exact .mk_ al
  | true =>
    cases b1 with
    | false =>
      go_enter Tryd.func83, Tryd.ntmps83
      go_wp2_with fail
      go_ret
      rw [F.out]
      exact .mk_ al
    | true =>
      cases bo with
      | false =>
        go_enter Tryd.func83, Tryd.ntmps83
        go_wp2_with fail
        refine (CO.out _).mono ?_
        rintro e w' ⟨rfl, rfl⟩
        go_wp2_with fail
        go_ret
        rw [F.out]
        exact .mk_ al
      | true =>
        cases bn with
        | false =>
          go_enter Tryd.func83, Tryd.ntmps83
          go_wp2_with fail
          refine (CO.out _).mono ?_
          rintro e w' ⟨rfl, rfl⟩
          go_wp2_with fail
          refine (CN.out _).mono ?_
          rintro e w' ⟨rfl, rfl⟩
          go_wp2_with fail
          go_ret
          rw [F.out]
          exact .mk_ al
        | true =>
          go_enter Tryd.func83, Tryd.ntmps83
          go_wp2_with fail
          refine (CO.out _).mono ?_
          rintro e w' ⟨rfl, rfl⟩
          go_wp2_with fail
          refine (CN.out _).mono ?_
          rintro e w' ⟨rfl, rfl⟩
          go_wp2_with fail
          go_ret
          rw [F.out]
          exact .mk_ al
end Go.Proofs.YthmnaljncapmeabDoor
namespace Go.Proofs.YthmnaljncapmeabDoor
open Go.RowKit Wo Pu Rf

/-- What updated answers. -/
def Updt (b : Bool) (zs : List Int) (us : List Up) (w : World) (e : Ending) (w' : World) : Prop := e = .returned (.tuple #[.agg (ints (if b then setR zs us else zs)).toArray, .bool b]) ∧ Below w.heap.size w w'
theorem Arr4.setRow {w : World} {g : Nat} {t : TypeId} {vs : List Value} (h : Arr4 w g t vs) (cs : List Value) : Arr4 (w.setRow g cs.toArray) g t cs := setRow_heap w g _ _ t _ h
theorem Arr4.farRow {w : World} {g g' : Nat} {t : TypeId} {vs : List Value} (h : Arr4 w g t vs) (hg : g ≠ g') (cs : Array Value) : Arr4 (w.setRow g' cs) g t vs := (setRow_other w g' g cs hg).trans h
theorem Arr4.alloc {w : World} {g : Nat} {t : TypeId} {vs : List Value} (h : Arr4 w g t vs) (o : Obj) : Arr4 (w.alloc o) g t vs := (heap_alloc_old w o h.lt).trans h
theorem info_refsJ : (Tryd.prog.info? 71).map (·.size) = some 4 := by kernel_rfl
set_option maxRecDepth 100000 in
set_option maxHeartbeats 4000000 in
theorem updated_is (b : Bool) (A : Option Addr) (c : Nat) (zs : List Int) (us : List Up) (w : World) (h4 : zs.length = 4) (hu : Row w w.heap.size A (upsV us)) (hr : Refs4 us) (hm : us.length ≤ 1048600) (hb : b = true ↔ Fits zs us) :
    Calls Tryd.prog 58 #[.agg (ints zs).toArray, .slice A us.length c] w (Updt b zs us w) := by
  have HB := hid hb
  have H4 := hid h4
  clear hb h4
  have hsz : (ints zs).toArray.size = 4 := by rw [List.size_toArray, ints_length, H4.out]
  have hsz' : (Tryd.prog.info? 71).map (·.size) = some (ints zs).toArray.size := by rw [hsz]; exact info_refsJ
  have HSZ := hid hsz
  have HSZ' := hid hsz'
  clear hsz hsz'
  go_enter Tryd.func58, Tryd.ntmps58
  have y0 := Arr4.new_ w 71 (ints zs)
  have b0 := (Below.refl w.heap.size w).alloc (Nat.le_refl _) (.cells (ints zs).toArray 71)
  obtain ⟨w1, hw1⟩ : ∃ w1, w.alloc (.cells (ints zs).toArray 71) = w1 := ⟨_, rfl⟩
  have z1 : w1.heap.size = w.heap.size + 1 := by rw [← hw1]; simp
  rw [hw1] at y0 b0
  have y1 := Arr4.new_ w1 71 (ints [0, 0, 0, 0])
  have y01 := y0.alloc (.cells (ints [0, 0, 0, 0]).toArray 71)
  have b1 := b0.alloc b0.size (.cells (ints [0, 0, 0, 0]).toArray 71)
  obtain ⟨w2, hw2⟩ : ∃ w2, w1.alloc (.cells (ints [0, 0, 0, 0]).toArray 71) = w2 := ⟨_, rfl⟩
  have z2 : w2.heap.size = w.heap.size + 1 + 1 := by rw [← hw2]; simp [z1]
  rw [hw2] at y1 y01 b1
  rw [z1] at y1
  have y2 := Arr4.new_ w2 71 (ints [0, 0, 0, 0])
  have y02 := y01.alloc (.cells (ints [0, 0, 0, 0]).toArray 71)
  have y12 := y1.alloc (.cells (ints [0, 0, 0, 0]).toArray 71)
  have b2 := b1.alloc b1.size (.cells (ints [0, 0, 0, 0]).toArray 71)
  obtain ⟨w3, hw3⟩ : ∃ w3, w2.alloc (.cells (ints [0, 0, 0, 0]).toArray 71) = w3 := ⟨_, rfl⟩
  have z3 : w3.heap.size = w.heap.size + 3 := by rw [← hw3]; simp [z2]
  rw [hw3] at y2 y02 y12 b2
  rw [z2] at y2
  have q2 := y2.setRow (ints zs)
  have q1 := y12.farRow (g' := w.heap.size + 1 + 1) (by omega) (ints zs).toArray
  have q0 := y02.farRow (g' := w.heap.size + 1 + 1) (by omega) (ints zs).toArray
  have b3 := below_setRow (g := w.heap.size + 1 + 1) b2 (by omega) (ints zs).toArray
  have hl : w2.heap[w.heap.size]? = some (.cells (ints zs).toArray 71 (0, 0)) := y01
  have hs : w3.heap[w.heap.size + 1 + 1]? = some (.cells (ints [0, 0, 0, 0]).toArray 71 (0, 0)) := y2
  subst hw1 hw2 hw3
  clear y0 y1 y01 y2 y02 y12 b0 b1 b2 z1 z2 z3
  go_wp2_with (first
    | (refine wpList_load_row rfl 71 _ rfl w.heap.size rfl 71 (ints zs).toArray (0, 0) _ hl Tryd.underlying71 rfl HSZ'.out ?_)
    | (refine wpList_store_rowTo rfl 71 _ _ rfl rfl (w.heap.size + 1 + 1) (ints zs).toArray rfl rfl 71 (ints [0, 0, 0, 0]).toArray hs HSZ'.out HSZ.out.symm (ints_ones _) ?_))
  clear hl hs
  go_loopw [12] (fun i wr => ∃ k : Nat, k ≤ us.length ∧ i = .int .i64 k ∧ Hid (FitTo zs us k) ∧ Arr4 wr (w.heap.size + 1 + 1) 71 (ints (setR zs (us.take k))) ∧ Arr4 wr (w.heap.size + 1) 71 (ints [0, 0, 0, 0]) ∧ Arr4 wr w.heap.size 71 (ints zs) ∧ Below w.heap.size w wr) (fun i _ => us.length - (intOf i).toNat)
  case atStart => exact ⟨0, Nat.zero_le _, rfl, .zero _ _, by rw [List.take_zero, setR_nil]; exact q2, q1, q0, b3⟩
  case round =>
    obtain ⟨k, hk, rfl, H, a2, a1, a0, hbr⟩ := hrel
    clear q2 q1 q0 b3
    have hz := hbr.size
    by_cases hlt : k < us.length
    · obtain ⟨o, ad, ho, rfl, ha1, g0, g1, g2⟩ := ((hu.below hbr (Nat.le_refl _)).more hbr.size).up_ hlt
      obtain ⟨r0, r1⟩ := hr _ (List.getElem_mem hlt)
      rw [ho] at r0 r1
      obtain ⟨m, hm0⟩ := Int.eq_ofNat_of_zero_le r0
      have hm4 : m < 4 := by omega
      have hmz : m < zs.length := by rw [H4.out]; exact hm4
      have hfit : fit1 zs us[k] ↔ zs[m] = o.o := by
        unfold fit1
        rw [ho, hm0, Int.toNat_natCast, List.getElem?_eq_getElem hmz]
        exact ⟨fun h => by injection h, fun h => by rw [h]⟩
      have HS : Hid (setR zs (us.take (k + 1)) = (setR zs (us.take k)).set m o.n) := by
        have := setR_take (zs := zs) hlt
        rwa [ho, hm0, Int.toNat_natCast] at this
      rw [hm0] at g0
      have hbW := hbr.alloc hz (.cells #[.int .i64 (m : Int), .int .i64 o.o, .int .i64 o.n] 97)
      have u1 := Blk.new_ wr 97 (.int .i64 (m : Int)) (.int .i64 o.o) (.int .i64 o.n)
      have c2 := a2.alloc (.cells #[.int .i64 (m : Int), .int .i64 o.o, .int .i64 o.n] 97)
      have c1 := a1.alloc (.cells #[.int .i64 (m : Int), .int .i64 o.o, .int .i64 o.n] 97)
      have c0 := a0.alloc (.cells #[.int .i64 (m : Int), .int .i64 o.o, .int .i64 o.n] 97)
      have k0 : (0 : Int) ≤ (k : Int) := by omega
      have k1 : (k : Int) < (us.length : Int) := by omega
      have k2 : (0 : Int) ≤ (m : Int) := by omega
      have k3 : (m : Int) < 4 := by omega
      clear ho hm0 r0 r1 a2 a1 a0
      go_wp2_with fail
      generalize wr.alloc (.cells #[.int .i64 (m : Int), .int .i64 o.o, .int .i64 o.n] 97) = W at *
      obtain ⟨z0, z1, z2, -⟩ := id u1.reads
      have hl4 : (ints (setR zs (us.take k))).length = 4 := by rw [ints_length, setR_length, H4.out]
      have y0 := c0.read (i := m) (by rw [ints_length]; exact hmz)
      rw [ints_get zs m hmz] at y0
      obtain ⟨yv, y2⟩ : ∃ v, W.cell? ⟨w.heap.size + 1 + 1, m, none⟩ = some v := ⟨_, c2.read (i := m) (by rw [hl4]; exact hm4)⟩
      have f2 := c2.frozen m
      have d2 := c2.set m (.int .i64 o.n)
      have d1 := c1.far (p := ⟨w.heap.size + 1 + 1, m, none⟩) (by show w.heap.size + 1 ≠ w.heap.size + 1 + 1; omega) (.int .i64 o.n)
      have d0 := c0.far (p := ⟨w.heap.size + 1 + 1, m, none⟩) (by show w.heap.size ≠ w.heap.size + 1 + 1; omega) (.int .i64 o.n)
      rw [ints_set, ← HS.out] at d2
      have e2 := hbW.setCell (p := ⟨w.heap.size + 1 + 1, m, none⟩) (by show w.heap.size ≤ w.heap.size + 1 + 1; omega) (.int .i64 o.n)
      obtain ⟨x, hx⟩ : ∃ x, zs[m] = x := ⟨_, rfl⟩
      rw [hx] at y0 hfit
      clear hx hl4 HS
      by_cases heq : x = o.o
      · have e0 : (x != o.o) = false := by rw [bne_eq_false_iff_eq]; exact heq
        have HN := hid (H.out.next hlt (hfit.2 heq))
        clear H hfit heq
        go_quiet (fail)
        go_wp2
        go_roundw
        case rel => exact ⟨k + 1, by omega, by go_num, HN, d2, d1, d0, (Wo.Below.drewN hbW _).setCell (p := ⟨w.heap.size + 1 + 1, m, none⟩) (by show w.heap.size ≤ w.heap.size + 1 + 1; omega) (.int .i64 o.n)⟩
        case measure => simp [intOf]; omega
      · have e0 : (x != o.o) = true := by rw [bne_iff_ne]; exact heq
        have F : Hid (b = false) := by
          show b = false
          rw [← Bool.not_eq_true]
          exact fun e => heq (hfit.1 (HB.out.1 e _ (List.getElem_mem hlt)))
        clear H hfit heq
        go_quiet (fail)
        have hl : (W.drewN nq).heap[w.heap.size]? = some (.cells (ints zs).toArray 71 (0, 0)) := c0
        have hs : (W.drewN nq).heap[w.heap.size + 1]? = some (.cells (ints [0, 0, 0, 0]).toArray 71 (0, 0)) := c1
        have hb9 := Wo.Below.drewN hbW nq
        go_wp2_with (first
          | (refine wpList_load_row rfl 71 _ rfl w.heap.size rfl 71 (ints zs).toArray (0, 0) _ hl Tryd.underlying71 rfl HSZ'.out ?_)
          | (refine wpList_store_rowTo rfl 71 _ _ rfl rfl (w.heap.size + 1) (ints zs).toArray rfl rfl 71 (ints [0, 0, 0, 0]).toArray hs HSZ'.out HSZ.out.symm (ints_ones _) ?_))
        have h2 : ((W.drewN nq).setRow (w.heap.size + 1) (ints zs).toArray).heap[w.heap.size + 1]? = some (.cells (ints zs).toArray 71 (0, 0)) := setRow_heap _ _ _ _ _ _ hs
        have hb2 := below_setRow hb9 (Nat.le_succ _) (ints zs).toArray
        rw [F.out]
        refine bodyPost_ret (v := .tuple #[.agg (ints zs).toArray, .bool false]) (results_cell_slot (p := 4) (s := 5) (by kernel_rfl) _ _ (w.heap.size + 1) 71 _ (0, 0) _ _ _ rfl rfl h2 Tryd.underlying71 HSZ'.out) rfl ⟨rfl, hb2⟩
    · have hk' : k = us.length := by omega
      subst hk'
      have F := hid (HB.out.2 H.out.all)
      rw [List.take_length] at a2
      clear H
      obtain ⟨ys, hys⟩ : ∃ ys, setR zs us = ys := ⟨_, rfl⟩
      have hyl : (ints ys).toArray.size = 4 := by rw [List.size_toArray, ints_length, ← hys, setR_length, H4.out]
      have hyl' : (Tryd.prog.info? 71).map (·.size) = some (ints ys).toArray.size := by rw [hyl]; exact info_refsJ
      have HYL := hid hyl
      have HYL' := hid hyl'
      have HY := hid hys
      rw [hys] at a2
      clear hyl hyl' hys
      have hl : wr.heap[w.heap.size + 1 + 1]? = some (.cells (ints ys).toArray 71 (0, 0)) := a2
      have hs : wr.heap[w.heap.size + 1]? = some (.cells (ints [0, 0, 0, 0]).toArray 71 (0, 0)) := a1
      go_wp2_with (first
        | (refine wpList_load_row rfl 71 _ rfl (w.heap.size + 1 + 1) rfl 71 (ints ys).toArray (0, 0) _ hl Tryd.underlying71 rfl HYL'.out ?_)
        | (refine wpList_store_rowTo rfl 71 _ _ rfl rfl (w.heap.size + 1) (ints ys).toArray rfl rfl 71 (ints [0, 0, 0, 0]).toArray hs HYL'.out HYL.out.symm (ints_ones _) ?_))
      have h2 : (wr.setRow (w.heap.size + 1) (ints ys).toArray).heap[w.heap.size + 1]? = some (.cells (ints ys).toArray 71 (0, 0)) := setRow_heap _ _ _ _ _ _ hs
      have hb2 := below_setRow hbr (Nat.le_succ _) (ints ys).toArray
      rw [F.out]
      refine bodyPost_ret (v := .tuple #[.agg (ints ys).toArray, .bool true]) (results_cell_slot (p := 4) (s := 5) (by kernel_rfl) _ _ (w.heap.size + 1) 71 _ (0, 0) _ _ _ rfl rfl h2 Tryd.underlying71 HYL'.out) rfl ⟨by rw [if_pos rfl, HY.out], hb2⟩

end Go.Proofs.YthmnaljncapmeabDoor
namespace Go.Proofs.YthmnaljncapmeabDoor
open Go.RowKit Wo Pu Rf

theorem row_here {w : World} {B : Nat} {A : Option Addr} {vs : List Value} (h : Row w B A vs) : Row w w.heap.size A vs := by
  rcases h with h | ⟨ad, e, hb, hc⟩
  · exact .inl h
  · cases vs with
    | nil => exact .inl rfl
    | cons v vs =>
      refine .inr ⟨ad, e, ?_, hc⟩
      have := hc 0 v rfl
      rw [add_zero] at this
      exact block_lt_of_cell this
/-- An array of refs, and whether the refs are valid: if they are, they are these. -/
def ArrOf (b : Bool) (zs : List Int) (w : World) (e : Ending) (w' : World) : Prop := ∃ ys : List Int, e = .returned (.tuple #[.agg (ints ys).toArray, .bool b]) ∧ ys.length = 4 ∧ Hid (b = true → ys = zs) ∧ Below w.heap.size w w'
theorem readRefs_arr (b : Bool) (A : Option Addr) (c : Nat) (zs : List Int) (w : World) (B : Nat) (hr : Row w B A (ints zs)) (hb : b = true ↔ RV zs) :
    Calls Tryd.prog 56 #[.slice A zs.length c] w (ArrOf b zs w) :=
  (readRefs_is b A c zs w _ (row_here hr) (Nat.le_refl _) hb).mono fun _ _ h => ⟨_, h.1, by
    cases b with
    | false => rfl
    | true => exact (hb.1 rfl).1, fun e => by rw [e]; rfl, h.2⟩
theorem arr_size {ys : List Int} (h : ys.length = 4) : (ints ys).toArray.size = 4 := by rw [List.size_toArray, ints_length, h]
theorem arr_info {ys : List Int} (h : ys.length = 4) : (Tryd.prog.info? 71).map (·.size) = some (ints ys).toArray.size := by rw [arr_size h]; exact info_refs
/-- A new block of refs that have been stored into it. -/
theorem arr_new (w : World) (ys : List Int) : Arr4 ((w.alloc (.cells (ints [0, 0, 0, 0]).toArray 71)).setRow w.heap.size (ints ys).toArray) w.heap.size 71 (ints ys) := (Arr4.new_ w 71 (ints [0, 0, 0, 0])).setRow (ints ys)
theorem arr_below {w0 w : World} {B : Nat} (hb : Below B w0 w) (hB : B ≤ w.heap.size) (ys : List Int) : Below B w0 ((w.alloc (.cells (ints [0, 0, 0, 0]).toArray 71)).setRow w.heap.size (ints ys).toArray) := below_setRow (hb.alloc hB _) hB _
theorem arr_old (w : World) : (w.alloc (.cells (ints [0, 0, 0, 0]).toArray 71)).heap[w.heap.size]? = some (.cells (ints [0, 0, 0, 0]).toArray 71 (0, 0)) := heap_alloc_new w _
theorem arr_sz (w : World) (ys : List Int) : ((w.alloc (.cells (ints [0, 0, 0, 0]).toArray 71)).setRow w.heap.size (ints ys).toArray).heap.size = w.heap.size + 1 := by rw [size_setRow, World.size_alloc]
set_option maxRecDepth 100000 in
set_option maxHeartbeats 8000000 in
theorem implUpdatesValid_is (b : Bool) (A : Option Addr) (c : Nat) (us : List Up) (w : World) (hr : Row w w.heap.size A (upsV us)) (hm : us.length ≤ 1048600) (hb : b = true ↔ UV us) :
    Calls Tryd.prog 57 #[.slice A us.length c] w (Ret (.bool b) w) := by
  have HB := hid hb
  clear hb
  go_enter Tryd.func57, Tryd.ntmps57
  go_wp2_with fail
  go_loopw [3, 8] (fun l i wr => ∃ (k : Nat) (x : Int), k ≤ us.length ∧ i = .int .i64 k ∧ l = .int .i64 x ∧ Hid (lastR us k = x) ∧ Hid (UpTo us k) ∧ Below w.heap.size w wr) (fun _ i _ => us.length - (intOf i).toNat)
  case atStart => exact ⟨0, -1, Nat.zero_le _, rfl, rfl, lastR_zero us, .zero us, Below.refl _ _⟩
  case round =>
    obtain ⟨k, x, hk, rfl, rfl, L, H, hbr⟩ := hrel
    have hz := hbr.size
    by_cases hlt : k < us.length
    · obtain ⟨o, ad, ho, rfl, ha1, g0, g1, g2⟩ := ((hr.below hbr (Nat.le_refl _)).more hz).up_ hlt
      have k0 : (0 : Int) ≤ (k : Int) := by omega
      have k1 : (k : Int) < (us.length : Int) := by omega
      obtain ⟨bv, hbv⟩ := bool_of (Ok o)
      have CV : Hid (∀ y, Calls Tryd.prog 83 #[.agg #[.int .i64 o.r, .int .i64 o.o, .int .i64 o.n]] y (Ret (.bool bv) y)) := fun y => valid_is bv o y hbv
      have hok := okU_iff hlt
      rw [ho, L.out] at hok
      have LN : Hid (lastR us (k + 1) = o.r) := by
        show _ = _
        rw [lastR_next hlt, ho]
      have HO := hid hok
      have HV := hid hbv
      have hbW := hbr.alloc hz (.cells #[.int .i64 o.r, .int .i64 o.o, .int .i64 o.n] 97)
      have u1 := Blk.new_ wr 97 (.int .i64 o.r) (.int .i64 o.o) (.int .i64 o.n)
      clear hok hbv ho L
      go_wp2_with fail
      refine (CV.out _).mono ?_
      rintro e w1 ⟨rfl, hb1⟩
      have b1 := hbW.trans (hb1.mono hbW.size)
      have v1 := u1.below hb1 u1.lt
      obtain ⟨z0, -, -, -⟩ := id v1.reads
      clear hb1 hbW u1 CV
      cases bv with
      | false =>
        have F := hid (uv_no HB.out hlt (fun h => by have := HV.out.2 (HO.out.1 h).1; cases this))
        clear H HO HV LN
        go_wp2_with fail
        go_ret
        rw [F.out]
        exact .mk_ b1
      | true =>
        by_cases hx : x < o.r
        · have e0 : decide (o.r ≤ x) = false := decide_eq_false (by omega)
          have HN := hid (H.out.next hlt (HO.out.2 ⟨HV.out.1 rfl, hx⟩))
          clear H HO HV hx
          go_wp2
          go_roundw
          case rel => exact ⟨k + 1, o.r, by omega, by go_num, rfl, LN, HN, b1⟩
          case measure => simp [intOf]; omega
        · have e0 : decide (o.r ≤ x) = true := decide_eq_true (by omega)
          have F := hid (uv_no HB.out hlt (fun h => hx (HO.out.1 h).2))
          clear H HO HV LN hx
          go_wp2
          go_ret
          rw [F.out]
          exact .mk_ b1
    · have hk' : k = us.length := by omega
      subst hk'
      by_cases h0 : us.length = 0
      · have F := hid (uv_none HB.out h0)
        have e0 : decide (0 < (us.length : Int)) = false := decide_eq_false (by omega)
        have e1 : decide (0 < us.length) = false := decide_eq_false (by omega)
        clear h0 H
        go_wp2
        go_ret
        rw [F.out]
        exact .mk_ hbr
      · have F := hid (uv_yes HB.out H.out h0)
        have e0 : decide (0 < (us.length : Int)) = true := decide_eq_true (by omega)
        have e1 : decide (0 < us.length) = true := decide_eq_true (by omega)
        clear h0 H
        go_wp2
        go_ret
        rw [F.out]
        exact .mk_ hbr

set_option maxHeartbeats 2000000 in
theorem copyNumbers_of (A : Option Addr) (c n : Nat) (zs : List Int) (w : World) (hr : Row w w.heap.size A (ints zs)) (hn : zs.length = n) (hm : n ≤ 10) :
    Calls Tryd.prog 54 #[.slice A n c] w (IntsOf zs w) := by
  obtain ⟨i0, hi, hz0, hz1, hz2⟩ := info_of info_int
  have al := (Below.refl w.heap.size w).alloc (Nat.le_refl _) (.cells #[] 3)
  have HN := hid hn
  clear hn
  go_enter Tryd.func54, Tryd.ntmps54
  go_wp2_with (at_builtin; go_must (refine wpList_append_row _ rfl _ _ 28 rfl w.heap.size 3 i0 (.int .i64 0) 1 8 Tryd.underlying28 hi hz0 hz1 hz2 rfl (by decide) _ 0 [] rfl (nil_own (Nat.le_refl _) _ _) w.heap.size A n c (ints zs) rfl (hr.below al (Nat.le_refl _)) (by rw [ints_length, HN.out]; omega) (by intro u hu; obtain ⟨x, _, rfl⟩ := List.mem_map.1 hu; rfl) (by unfold maxLen; omega) (by omega) (by simp) ?_); intro v4 w4 hown hg)
  have b4 : Below w.heap.size w w4 := al.grown hg (by simp) (fun j hj => by injection hj with hj; exact Nat.le_of_eq hj)
  have ho0 : OwnI w4 w.heap.size v4 zs := by
    unfold OwnI
    rw [Nat.zero_add, List.nil_append] at hown
    rw [HN.out]
    exact hown
  obtain ⟨A5, c5, rfl, -, -⟩ := ho0.form
  go_wp2
  go_ret
  exact ⟨A5, c5, rfl, ho0, b4⟩
/-! ### RefsApply. -/
set_option maxRecDepth 100000 in
set_option maxHeartbeats 8000000 in
theorem implRefsApply_is (y : RWay) (A A2 : Option Addr) (c c2 : Nat) (zs : List Int) (us : List Up) (w : World) (hz : Row w w.heap.size A (ints zs)) (hu : Row w w.heap.size A2 (upsV us)) (_ : zs.length ≤ 1048600) (hm : us.length ≤ 1048600) (hy : IsRWay zs us y) :
    Calls Tryd.prog 27 #[.slice A zs.length c, .slice A2 us.length c2] w (Applied zs us y w) := by
  obtain ⟨vz, hvz⟩ := bool_of (RV zs)
  obtain ⟨vu, hvu⟩ := bool_of (UV us)
  have CR := hid (readRefs_arr vz A c zs w _ hz hvz)
  have CU : Hid (∀ x, Row x x.heap.size A2 (upsV us) → Calls Tryd.prog 57 #[.slice A2 us.length c2] x (Ret (.bool vu) x)) := fun x h => implUpdatesValid_is vu A2 c2 us x h hm hvu
  cases vz with
  | false =>
    obtain rfl : y = .bad := by
      cases y with
      | bad => rfl
      | no => exact absurd (hvz.2 hy.1) (by simp)
      | yes => exact absurd (hvz.2 hy.1) (by simp)
    clear hvz hvu hy
    go_enter Tryd.func27, Tryd.ntmps27
    go_wp2_with fail
    refine CR.out.mono ?_
    rintro e w1 ⟨ys, rfl, h4, -, hb1⟩
    have H4 := hid h4
    have hs := arr_old w1
    have hb2 := arr_below hb1 hb1.size ys
    clear h4
    go_wp2_with (refine wpList_store_rowTo rfl 71 _ _ rfl rfl w1.heap.size (ints ys).toArray rfl rfl 71 (ints [0, 0, 0, 0]).toArray hs (arr_info H4.out) (arr_size H4.out).symm (ints_ones _) ?_)
    go_ret2
    have on := OwnI.nil_new hb2.size
    rw [arr_sz] at on
    exact ⟨_, _, rfl, on, hb2.alloc hb2.size _⟩
  | true =>
    have rv := hvz.1 rfl
    cases vu with
    | false =>
      obtain rfl : y = .bad := by
        cases y with
        | bad => rfl
        | no => exact absurd (hvu.2 hy.2.1) (by simp)
        | yes => exact absurd (hvu.2 hy.2.1) (by simp)
      clear hvz hvu hy rv
      go_enter Tryd.func27, Tryd.ntmps27
      go_wp2_with fail
      refine CR.out.mono ?_
      rintro e w1 ⟨ys, rfl, h4, -, hb1⟩
      have H4 := hid h4
      have hs := arr_old w1
      have hb2 := arr_below hb1 hb1.size ys
      have ru := (hu.below hb2 (Nat.le_refl _)).more hb2.size
      clear h4 hu hz
      go_wp2_with (refine wpList_store_rowTo rfl 71 _ _ rfl rfl w1.heap.size (ints ys).toArray rfl rfl 71 (ints [0, 0, 0, 0]).toArray hs (arr_info H4.out) (arr_size H4.out).symm (ints_ones _) ?_)
      refine (CU.out _ ru).mono ?_
      rintro e w2 ⟨rfl, hb3⟩
      have b3 := hb2.trans (hb3.mono hb2.size)
      clear hb1 hb2 hb3 hs ru
      go_wp2_with fail
      go_ret2
      exact ⟨_, _, rfl, OwnI.nil_new b3.size, b3.alloc b3.size _⟩
    | true =>
      have uv := hvu.1 rfl
      have h4 := rv.1
      obtain ⟨f, hf⟩ := bool_of (Fits zs us)
      have hyf : applied zs us y = (if f then setR zs us else zs) ∧ y.ok = f := by
        cases f with
        | false =>
          cases y with
          | bad => exact absurd ⟨rv, uv⟩ hy
          | no => exact ⟨rfl, rfl⟩
          | yes => exact absurd (hf.2 hy.2.2) (by simp)
        | true =>
          cases y with
          | bad => exact absurd ⟨rv, uv⟩ hy
          | no => exact absurd (hf.1 rfl) hy.2.2
          | yes => exact ⟨rfl, rfl⟩
      have CF : Hid (∀ x, Row x x.heap.size A2 (upsV us) → Calls Tryd.prog 58 #[.agg (ints zs).toArray, .slice A2 us.length c2] x (Updt f zs us x)) := fun x h1 => updated_is f A2 c2 zs us x h4 h1 (refs4_of uv) hm hf
      have H4 := hid h4
      have HL : Hid ((if f then setR zs us else zs).length = 4) := by
        show _ = _
        cases f with
        | false => exact h4
        | true => exact (setR_length us zs).trans h4
      have HY := hid hyf
      unfold Applied
      rw [HY.out.1, HY.out.2]
      clear hvz hvu hy rv uv h4 hf hyf HY
      obtain ⟨xs, hxs⟩ : ∃ xs, (if f then setR zs us else zs) = xs := ⟨_, rfl⟩
      unfold Updt at CF
      rw [hxs] at HL CF ⊢
      clear hxs
      go_enter Tryd.func27, Tryd.ntmps27
      go_wp2_with fail
      refine CR.out.mono ?_
      rintro e w1 ⟨ys, rfl, -, HYS, hb1⟩
      obtain rfl : ys = zs := HYS.out rfl
      have hs := arr_old w1
      have hb2 := arr_below hb1 hb1.size ys
      have a2 := arr_new w1 ys
      have ru := (hu.below hb2 (Nat.le_refl _)).more hb2.size
      clear HYS CR hz
      go_wp2_with (refine wpList_store_rowTo rfl 71 _ _ rfl rfl w1.heap.size (ints ys).toArray rfl rfl 71 (ints [0, 0, 0, 0]).toArray hs (arr_info H4.out) (arr_size H4.out).symm (ints_ones _) ?_)
      refine (CU.out _ ru).mono ?_
      rintro e w2 ⟨rfl, hb3⟩
      have b3 := hb2.trans (hb3.mono hb2.size)
      have a3 := a2.below hb3 a2.lt
      have ru3 := (hu.below b3 (Nat.le_refl _)).more b3.size
      have hl : w2.heap[w1.heap.size]? = some (.cells (ints ys).toArray 71 (0, 0)) := a3
      clear hb1 hb2 hb3 hs ru a2 CU
      go_wp2_with (refine wpList_load_row rfl 71 _ rfl w1.heap.size rfl 71 (ints ys).toArray (0, 0) _ hl Tryd.underlying71 rfl (arr_info H4.out) ?_)
      refine (CF.out _ ru3).mono ?_
      rintro e w3 ⟨rfl, hb4⟩
      have b4 := b3.trans (hb4.mono b3.size)
      have hs := arr_old w3
      have b5 := arr_below b4 b4.size xs
      have a5 := arr_new w3 xs
      have r5 := a5.row
      clear hb4 b3 a3 ru3 hl CF hu
      go_wp2_with (refine wpList_store_rowTo rfl 71 _ _ rfl rfl w3.heap.size (ints xs).toArray rfl rfl 71 (ints [0, 0, 0, 0]).toArray hs (arr_info HL.out) (arr_size HL.out).symm (ints_ones _) ?_)
      refine (copyNumbers_of _ _ 4 xs _ r5 HL.out (by omega)).mono ?_
      rintro e w4 ⟨A5, c5, rfl, ho, hb6⟩
      have b6 := b5.trans (hb6.mono b5.size)
      have ho6 := ho.base b5.size
      go_wp2_with fail
      go_ret2
      exact ⟨A5, c5, rfl, ho6, b6⟩

end Go.Proofs.YthmnaljncapmeabDoor
namespace Go.Proofs.YthmnaljncapmeabDoor
open Go.RowKit Wo Pu Rf Lk

theorem l12Txn_is (b : Bool) (t : Int) (w : World) (hb : b = true ↔ TV t) : Calls Tryd.prog 63 #[.int .i64 t] w (Same (.bool b) w) := by
  have CB : Hid (∀ x, Calls Tryd.prog 85 #[.int .i64 t, .int .i64 0, .int .i64 11] x (Same (.bool b) x)) := fun x => l6In_is b t 0 11 x hb
  clear hb
  go_enter Tryd.func63, Tryd.ntmps63
  go_wp2_with fail
  refine (CB.out _).mono ?_
  rintro e w1 ⟨rfl, rfl⟩
  go_wp2
  go_ret
  exact ⟨rfl, rfl⟩
/-- The first k are transactions or none. -/
def OwnTo (zs : List Int) (k : Nat) : Prop := ∀ z ∈ zs.take k, Lk.Own z
theorem OwnTo.zero (zs : List Int) : OwnTo zs 0 := fun z h => by simp at h
theorem OwnTo.next {zs : List Int} {k : Nat} (h : OwnTo zs k) (hk : k < zs.length) (hv : Lk.Own zs[k]) : OwnTo zs (k + 1) := fun z hz => by
  rw [List.take_succ_eq_append_getElem hk] at hz
  rcases List.mem_append.1 hz with hz | hz
  · exact h z hz
  · rw [List.mem_singleton.1 hz]; exact hv
theorem OwnTo.all {zs : List Int} (h : OwnTo zs zs.length) : ∀ z ∈ zs, Lk.Own z := by unfold OwnTo at h; rwa [List.take_length] at h
end Go.Proofs.YthmnaljncapmeabDoor
namespace Go.Proofs.YthmnaljncapmeabDoor
open Go.RowKit Wo Pu Rf Lk

/-- Behind it: numbers of the call's own, and whether. -/
def Took (qs : List Int) (ok : Bool) (w : World) (e : Ending) (w' : World) : Prop := ∃ A c, e = .returned (.tuple #[.slice A qs.length c, .bool ok]) ∧ OwnI w' w.heap.size (.slice A qs.length c) qs ∧ Below w.heap.size w w'
/-- What l12Take answers. -/
def takes (zs : List Int) (t : Int) (us : List Up) (ok : Bool) : List Int := if ok then setR zs (lk t us) else zs
theorem lk_get {t : Int} {us : List Up} {k : Nat} (h : k < us.length) (h2 : k < (lk t us).length) : (lk t us)[k] = lk1 t us[k] := by
  have e : (lk t us)[k]? = some (lk1 t us[k]) := by
    unfold lk
    rw [List.getElem?_map, List.getElem?_eq_getElem h]
    rfl
  rw [List.getElem?_eq_getElem h2] at e
  injection e
set_option maxRecDepth 100000 in
set_option maxHeartbeats 8000000 in
theorem l12Take_any (ok : Bool) (A A2 : Option Addr) (c c2 : Nat) (zs : List Int) (t : Int) (us : List Up) (w : World) (hz : Row w w.heap.size A (ints zs)) (h4 : zs.length = 4) (hu : Row w w.heap.size A2 (upsV us)) (hr : Refs4 us) (hm : us.length ≤ 1048600) (hok : ok = true ↔ Fits zs (lk t us)) :
    Calls Tryd.prog 97 #[.slice A zs.length c, .int .i64 t, .slice A2 us.length c2] w (Took (takes zs t us ok) ok w) := by
  obtain ⟨i0, hi, hz0, hz1, hz2⟩ := info_of info_int
  have H4 := hid h4
  have HO := hid hok
  have al := (Below.refl w.heap.size w).alloc (Nat.le_refl _) (.cells #[] 3)
  have hzl : Hid (zs.length ≤ 10) := by show _ ≤ _; omega
  clear h4 hok
  go_enter Tryd.func97, Tryd.ntmps97
  go_wp2_with (at_builtin; go_must (refine wpList_append_row _ rfl _ _ 28 rfl w.heap.size 3 i0 (.int .i64 0) 1 8 Tryd.underlying28 hi hz0 hz1 hz2 rfl (by decide) _ 0 [] rfl (nil_own (Nat.le_refl _) _ _) w.heap.size A zs.length c (ints zs) rfl (hz.below al (Nat.le_refl _)) (by rw [ints_length]; omega) (by intro u hu; obtain ⟨x, _, rfl⟩ := List.mem_map.1 hu; rfl) (by have := hzl.out; unfold maxLen; omega) (by have := hzl.out; omega) (by simp) ?_); intro v4 w4 hown hg)
  have b4 : Below w.heap.size w w4 := al.grown hg (by simp) (fun j hj => by injection hj with hj; exact Nat.le_of_eq hj)
  have ho0 : OwnI w4 w.heap.size v4 zs := by
    unfold OwnI
    rw [Nat.zero_add, List.nil_append] at hown
    exact hown
  obtain ⟨g, c4, rfl, hg1, hg2⟩ := ho0.at (by rw [H4.out]; omega)
  clear hown hg al
  go_wp2_with fail
  go_loopw [9] (fun i wr => ∃ k : Nat, k ≤ us.length ∧ i = .int .i64 k ∧ OwnI wr w.heap.size (.slice (some ⟨g, 0, none⟩) zs.length c4) (setR zs (lk t (us.take k))) ∧ Hid (FitTo zs (lk t us) k) ∧ Below w.heap.size w wr) (fun i _ => us.length - (intOf i).toNat)
  case atStart => exact ⟨0, Nat.zero_le _, rfl, (by rw [List.take_zero]; exact ho0), FitTo.zero zs _, b4⟩
  case round =>
    obtain ⟨k, hk, rfl, ho, HF, hb⟩ := hrel
    clear ho0 b4
    by_cases hlt : k < us.length
    · obtain ⟨o, ad, ho1, rfl, ha1, g0, -, -⟩ := (hu.below hb (Nat.le_refl _)).up_ hlt
      obtain ⟨q0, q1⟩ := hr _ (List.getElem_mem hlt)
      rw [ho1] at q0 q1
      obtain ⟨m, hm0⟩ := Int.eq_ofNat_of_zero_le q0
      rw [hm0] at g0
      have hmz0 : m < zs.length := by rw [H4.out]; omega
      obtain ⟨adz, ez, hbz, cz⟩ := (hz.below hb (Nat.le_refl _)).int_ hmz0
      have hkl : k < (lk t us).length := by rw [lk_length]; exact hlt
      have hge : (lk t us)[k] = lk1 t o := by rw [← ho1]; exact lk_get hlt hkl
      have hfit : fit1 zs (lk t us)[k] ↔ zs[m] = -1 := by
        rw [hge]
        unfold fit1
        rw [show (lk1 t o).r = o.r from rfl, hm0, Int.toNat_natCast, List.getElem?_eq_getElem hmz0]
        exact ⟨fun h => by injection h, fun h => by rw [h]; rfl⟩
      have k0 : (0 : Int) ≤ (k : Int) := by omega
      have k1 : (k : Int) < (us.length : Int) := by omega
      have k2 : (0 : Int) ≤ (m : Int) := by omega
      have k3 : (m : Int) < (zs.length : Int) := by omega
      subst ez
      by_cases heq : zs[m] = -1
      · have e0 : (zs[m] != -1) = false := by rw [bne_eq_false_iff_eq]; exact heq
        have HN := hid (HF.out.next hkl (hfit.2 heq))
        have hsl := setR_length (lk t (us.take k)) zs
        have ho' : OwnI wr w.heap.size (.slice (some ⟨g, 0, none⟩) (setR zs (lk t (us.take k))).length c4) (setR zs (lk t (us.take k))) := by rw [hsl]; exact ho
        have hmz : m < (setR zs (lk t (us.take k))).length := by rw [hsl]; exact hmz0
        have y0 := ho'.cell hmz
        have f0 := World.ownsRow.frozenAt ho' m
        have ho2 := ho'.set m t
        have hb2 := hb.setCell (p := ⟨g, m, none⟩) hg1 (.int .i64 t)
        have hst : setR zs (lk t (us.take (k + 1))) = (setR zs (lk t (us.take k))).set m t := by
          rw [List.take_succ_eq_append_getElem hlt, ho1]
          unfold lk
          rw [List.map_append]
          show setR zs (_ ++ [lk1 t o]) = _
          rw [setR_snoc]
          show (setR zs _).set o.r.toNat t = _
          rw [hm0, Int.toNat_natCast]
        have hl2 : ((setR zs (lk t (us.take k))).set m t).length = zs.length := by rw [List.length_set, hsl]
        rw [← hst] at ho2 hl2
        rw [hl2] at ho2
        clear ho ho' hb hst hl2 hsl q0 q1 hm0 ho1 HF heq hfit hge
        go_wp2
        go_roundw
        case rel => exact ⟨k + 1, by omega, by go_num, ho2, HN, hb2⟩
        case measure => simp [intOf]; omega
      · have e0 : (zs[m] != -1) = true := by rw [bne_iff_ne]; exact heq
        have F : Hid (ok = false) := by
          show ok = false
          rw [← Bool.not_eq_true]
          exact fun e => heq (hfit.1 (HO.out.1 e _ (List.getElem_mem hkl)))
        have hzw := hb.size
        have rz3 := (hz.below hb (Nat.le_refl _)).more hzw
        have al := (Below.refl wr.heap.size wr).alloc (Nat.le_refl _) (.cells #[] 3)
        have b3a := hb.alloc hzw (.cells #[] 3)
        clear ho HF heq hfit hge q0 q1 hm0 ho1 hb
        go_wp2_with (at_builtin; go_must (refine wpList_append_row _ rfl _ _ 28 rfl w.heap.size 3 i0 (.int .i64 0) 1 8 Tryd.underlying28 hi hz0 hz1 hz2 rfl (by decide) _ 0 [] rfl (nil_own hzw _ _) wr.heap.size (some adz) zs.length c (ints zs) rfl (rz3.below al (Nat.le_refl _)) (by rw [ints_length]; omega) (by intro u hu; obtain ⟨x, _, rfl⟩ := List.mem_map.1 hu; rfl) (by have := hzl.out; unfold maxLen; omega) (by have := hzl.out; omega) (by simp; omega) ?_); intro v5 w5 hown hg)
        have b5 : Below w.heap.size w w5 := b3a.grown hg (by simp; omega) (fun j hj => by injection hj with hj; have e : wr.heap.size = j := hj; omega)
        have ho5 : OwnI w5 w.heap.size v5 zs := by
          unfold OwnI
          rw [Nat.zero_add, List.nil_append] at hown
          exact hown
        obtain ⟨A5, c5, rfl, -, -⟩ := ho5.form
        go_wp2_with fail
        go_ret2
        rw [F.out]
        exact ⟨A5, c5, rfl, ho5, b5⟩
    · have hk' : k = us.length := by omega
      subst hk'
      rw [List.take_length] at ho
      have F : Hid (ok = true) := by
        refine HO.out.2 (FitTo.all ?_)
        rw [lk_length]
        exact HF.out
      have HE := hid (setR_length (lk t us) zs)
      clear HF
      go_wp2
      go_ret2
      rw [F.out]
      refine ⟨some ⟨g, 0, none⟩, c4, ?_, ?_, hb⟩
      · show _ = Ending.returned (.tuple #[.slice _ (setR zs (lk t us)).length _, _])
        rw [HE.out]; rfl
      · show OwnI _ _ (.slice _ (setR zs (lk t us)).length _) (setR zs (lk t us))
        rw [HE.out]; exact ho
end Go.Proofs.YthmnaljncapmeabDoor
namespace Go.Proofs.YthmnaljncapmeabDoor
open Go.RowKit Wo Pu Rf Lk

theorem free_next {zs : List Int} {t : Int} {k : Nat} (h : k < zs.length) : freeL t (zs.take (k + 1)) = freeL t (zs.take k) ++ [free1 t zs[k]] := by
  unfold freeL
  rw [List.take_succ_eq_append_getElem h, List.map_append]
  rfl
set_option maxRecDepth 100000 in
set_option maxHeartbeats 4000000 in
theorem l12Free_any (A : Option Addr) (c : Nat) (zs : List Int) (t : Int) (w : World) (hz : Row w w.heap.size A (ints zs)) (hm : zs.length ≤ 1048600) :
    Calls Tryd.prog 100 #[.slice A zs.length c, .int .i64 t] w (IntsOf (freeL t zs) w) := by
  obtain ⟨i0, hi, hz0, hz1, hz2⟩ := info_of info_int
  have al := (Below.refl w.heap.size w).alloc (Nat.le_refl _) (.cells #[] 3)
  have on0 := OwnI.nil_new (w := w) (Nat.le_refl _)
  go_enter Tryd.func100, Tryd.ntmps100
  go_wp2_with fail
  go_loopw [5, 6] (fun q i wr => ∃ (k : Nat) (ys : List Int), k ≤ zs.length ∧ i = .int .i64 k ∧ Hid (ys.length = k) ∧ OwnI wr w.heap.size q ys ∧ Hid (freeL t (zs.take k) = ys) ∧ Below w.heap.size w wr) (fun _ i _ => zs.length - (intOf i).toNat)
  case atStart => exact ⟨0, [], Nat.zero_le _, rfl, rfl, on0, rfl, al⟩
  case round =>
    obtain ⟨k, ys, hk, rfl, HL, ho, H, hbr⟩ := hrel
    clear on0 al
    have hzw := hbr.size
    by_cases hlt : k < zs.length
    · obtain ⟨ad, rfl, hbl, hc⟩ := (hz.below hbr (Nat.le_refl _)).int_ hlt
      have q0 : (0 : Int) ≤ (k : Int) := by omega
      have q1 : (k : Int) < (zs.length : Int) := by omega
      have hnx := free_next (t := t) hlt
      rw [H.out] at hnx
      have HL1 : Hid (ys.length ≤ 1048600) := by show _ ≤ _; rw [HL.out]; omega
      have HL2 : Hid (∀ x : Int, (ys ++ [x]).length = k + 1) := fun x => by rw [List.length_append, HL.out]; rfl
      clear H
      by_cases hv : zs[k] = t
      · have e0 : (zs[k] == t) = true := by rw [beq_iff_eq]; exact hv
        have HN : Hid (freeL t (zs.take (k + 1)) = ys ++ [-1]) := by
          show _ = _
          rw [hnx]
          unfold free1
          rw [if_pos hv]
        clear hnx hv
        have oB : (wr.alloc (.cells #[.int .i64 (-1)] 3)).ownsRow w.heap.size 3 1 _ ys.length (ints ys) := World.ownsRow.alloc ho _
        have lt1 := World.ownsRow.lt oB
        go_wp2_with (at_builtin; go_must (refine wpList_append_own _ rfl _ _ 28 rfl w.heap.size 3 i0 (.int .i64 0) 1 8 Tryd.underlying28 hi hz0 hz1 hz2 rfl (by decide) _ ys.length (ints ys) rfl oB ⟨wr.heap.size, 0, none⟩ 1 1 [.int .i64 (-1)] rfl rfl (cell_one_new _ _ _) (one_int _) (by have := HL1.out; unfold maxLen; omega) (by have := HL1.out; omega) (by simp; omega) ?_); intro u9 w9 hown hg _)
        have o9 := OwnI.app hown
        have b9 : Below w.heap.size w w9 := hbr.trans (((Below.refl w.heap.size wr).alloc hzw _).grown hg (by simp; omega) (fun j hj => (lt1 j hj).1))
        clear hown hg oB lt1 ho hbr
        go_wp2
        go_roundw
        case rel => exact ⟨k + 1, ys ++ [(-1)], by omega, by go_num, HL2.out _, o9, HN, b9⟩
        case measure => simp [intOf]; omega
      · have e0 : (zs[k] == t) = false := by rw [beq_eq_false_iff_ne]; exact hv
        have HN : Hid (freeL t (zs.take (k + 1)) = ys ++ [zs[k]]) := by
          show _ = _
          rw [hnx]
          unfold free1
          rw [if_neg hv]
        obtain ⟨x, hx⟩ : ∃ x, zs[k] = x := ⟨_, rfl⟩
        rw [hx] at HN hc e0
        clear hnx hv hx
        have oB : (wr.alloc (.cells #[.int .i64 x] 3)).ownsRow w.heap.size 3 1 _ ys.length (ints ys) := World.ownsRow.alloc ho _
        have lt1 := World.ownsRow.lt oB
        go_wp2_with (at_builtin; go_must (refine wpList_append_own _ rfl _ _ 28 rfl w.heap.size 3 i0 (.int .i64 0) 1 8 Tryd.underlying28 hi hz0 hz1 hz2 rfl (by decide) _ ys.length (ints ys) rfl oB ⟨wr.heap.size, 0, none⟩ 1 1 [.int .i64 x] rfl rfl (cell_one_new _ _ _) (one_int _) (by have := HL1.out; unfold maxLen; omega) (by have := HL1.out; omega) (by simp; omega) ?_); intro u9 w9 hown hg _)
        have o9 := OwnI.app hown
        have b9 : Below w.heap.size w w9 := hbr.trans (((Below.refl w.heap.size wr).alloc hzw _).grown hg (by simp; omega) (fun j hj => (lt1 j hj).1))
        clear hown hg oB lt1 ho hbr
        go_wp2
        go_roundw
        case rel => exact ⟨k + 1, ys ++ [x], by omega, by go_num, HL2.out _, o9, HN, b9⟩
        case measure => simp [intOf]; omega
    · have hk' : k = zs.length := by omega
      subst hk'
      have HD : Hid (freeL t zs = ys) := by
        have := H.out
        rwa [List.take_length] at this
      clear H
      go_wp2
      go_ret
      rw [HD.out]
      exact .mk_ ho hbr
end Go.Proofs.YthmnaljncapmeabDoor
namespace Go.Proofs.YthmnaljncapmeabDoor
open Go.RowKit Wo Pu Rf Lk

end Go.Proofs.YthmnaljncapmeabDoor
namespace Go.Proofs.YthmnaljncapmeabDoor
open Go.RowKit Wo Pu Rf

/-- A drawn transaction. -/
def TxnDrawn (R : Nat) (q : Int) (w : World) (e : Ending) (w' : World) : Prop := ∃ x : Int, e = .returned (.int .i64 x) ∧ -1 ≤ x ∧ x ≤ 12 ∧ Rd w' R (q + 2) ∧ But R w w'
set_option maxHeartbeats 4000000 in
theorem l92Txn_any (R : Nat) (q : Int) (w : World) (hR : Rd w R q) (hq : q ≤ 900000000) :
    Calls Tryd.prog 59 #[.pointer (some ⟨R, 0, none⟩)] w (TxnDrawn R q w) := by
  go_enter Tryd.func59, Tryd.ntmps59
  go_wp2_with fail
  refine (pick_any R q 24 w hR (by omega) (by omega) (by omega)).mono ?_
  rintro e w1 ⟨n1, rfl, a0, a1, hR1, hT1⟩
  by_cases h0 : n1 = 0
  · have e0 : (n1 == 0) = true := by rw [h0]; rfl
    clear h0
    go_wp2_with fail
    have hbA := (Below.refl w1.heap.size w1).alloc (Nat.le_refl _) (.cells #[.int .i64 (-1), .int .i64 11, .int .i64 12] 3)
    have hz := hR1.lt
    refine (pick_any R (q + 1) 3 _ (hR1.below hbA hz) (by omega) (by omega) (by omega)).mono ?_
    rintro e w2 ⟨n2, rfl, b0, b1, hR2, hT2⟩
    have bx : Box3 w2 w1.heap.size (.int .i64 (-1)) (.int .i64 11) (.int .i64 12) := hT2.box (Box3.new_ w1 _ _ _ _) (by omega)
    have hTT := (hT1.trans (.of_below hbA)).trans hT2
    obtain ⟨_, p0, p1, p2⟩ := bx
    have key : n2 = 0 ∨ n2 = 1 ∨ n2 = 2 := by omega
    rcases key with rfl | rfl | rfl
    · go_wp2
      go_ret
      exact ⟨_, rfl, by omega, by omega, hR2.more (by omega), hTT⟩
    · go_wp2
      go_ret
      exact ⟨_, rfl, by omega, by omega, hR2.more (by omega), hTT⟩
    · go_wp2
      go_ret
      exact ⟨_, rfl, by omega, by omega, hR2.more (by omega), hTT⟩
  · have e0 : (n1 == 0) = false := by rw [beq_eq_false_iff_ne]; omega
    go_wp2_with fail
    refine (pick_any R (q + 1) 5 _ hR1 (by omega) (by omega) (by omega)).mono ?_
    rintro e w2 ⟨n2, rfl, b0, b1, hR2, hT2⟩
    go_wp2
    go_ret
    exact ⟨_, rfl, by omega, by omega, hR2.more (by omega), hT1.trans hT2⟩
/-- Drawn locks. -/
def LocksDrawn (R : Nat) (q : Int) (w : World) (e : Ending) (w' : World) : Prop := ∃ v zs, e = .returned v ∧ OwnI w' w.heap.size v zs ∧ zs.length ≤ 4 ∧ Rd w' R (q + 12) ∧ But R w w'
end Go.Proofs.YthmnaljncapmeabDoor
namespace Go.Proofs.YthmnaljncapmeabDoor
open Go.RowKit Wo Pu Rf

/-- Drawn locks and a transaction. -/
def LockTxn (w : World) (e : Ending) (w' : World) : Prop := ∃ A c zs t, e = .returned (.tuple #[.slice A zs.length c, .int .i64 t]) ∧ Row w' w'.heap.size A (ints zs) ∧ zs.length ≤ 4 ∧ -1 ≤ t ∧ t ≤ 12 ∧ Below w.heap.size w w'
/-- Drawn locks, a transaction and updates. -/
def LockUps (w : World) (e : Ending) (w' : World) : Prop := ∃ A c zs t A2 c2 us, e = .returned (.tuple #[.slice A zs.length c, .int .i64 t, .slice A2 us.length c2]) ∧ Row w' w'.heap.size A (ints zs) ∧ zs.length ≤ 4 ∧ -1 ≤ t ∧ t ≤ 12 ∧ Row w' w'.heap.size A2 (upsV us) ∧ us.length ≤ 4 ∧ Below w.heap.size w w'
theorem row_four (w : World) (t : TypeId) : Row (w.alloc (.cells #[.int .i64 (-1), .int .i64 (-1), .int .i64 (-1), .int .i64 (-1)] t)) (w.alloc (.cells #[.int .i64 (-1), .int .i64 (-1), .int .i64 (-1), .int .i64 (-1)] t)).heap.size (some ⟨w.heap.size, 0, none⟩) (ints [-1, -1, -1, -1]) := by
  refine .inr ⟨_, rfl, by simp, fun j u hu => ?_⟩
  rw [add_lit]
  have e := heap_alloc_new w (.cells #[.int .i64 (-1), .int .i64 (-1), .int .i64 (-1), .int .i64 (-1)] t)
  simp only [World.cell?, e]
  match j with
  | 0 => simp [ints] at hu; subst hu; simp
  | 1 => simp [ints] at hu; subst hu; simp
  | 2 => simp [ints] at hu; subst hu; simp
  | 3 => simp [ints] at hu; subst hu; simp
  | j + 4 => simp [ints] at hu
end Go.Proofs.YthmnaljncapmeabDoor
namespace Go.Proofs.YthmnaljncapmeabDoor
open Go.RowKit Wo Pu Rf Lk

theorem txnValid_is (b : Bool) (n : Int) (w : World) (hb : b = true ↔ TV n) : Calls Tryd.prog 55 #[.int .i64 n] w (Same (.bool b) w) := by
  have HB := hid hb
  clear hb
  by_cases h1 : 0 ≤ n
  · have e1 : decide (0 ≤ n) = true := decide_eq_true h1
    by_cases h2 : n < 12
    · have F := hid (HB.out.2 ⟨by omega, by omega⟩)
      have e2 : decide (n < 12) = true := decide_eq_true h2
      clear h1 h2
      go_enter Tryd.func55, Tryd.ntmps55
      go_wp2
      go_ret
      rw [F.out]
      exact ⟨rfl, rfl⟩
    · have F : Hid (b = false) := by
        show b = false
        rw [← Bool.not_eq_true]
        exact fun e => by have := (HB.out.1 e).2; omega
      have e2 : decide (n < 12) = false := decide_eq_false h2
      clear h1 h2
      go_enter Tryd.func55, Tryd.ntmps55
      go_wp2
      go_ret
      rw [F.out]
      exact ⟨rfl, rfl⟩
  · have F : Hid (b = false) := by
      show b = false
      rw [← Bool.not_eq_true]
      exact fun e => by have := (HB.out.1 e).1; omega
    have e1 : decide (0 ≤ n) = false := decide_eq_false h1
    clear h1
    go_enter Tryd.func55, Tryd.ntmps55
    go_wp2
    go_ret
    rw [F.out]
    exact ⟨rfl, rfl⟩
set_option maxHeartbeats 4000000 in
theorem implLocksValid_same (b : Bool) (A : Option Addr) (c : Nat) (zs : List Int) (w : World) (B : Nat) (hr : Row w B A (ints zs)) (hm : zs.length ≤ 1048600) (hb : b = true ↔ LV zs) :
    Calls Tryd.prog 106 #[.slice A zs.length c] w (Same (.bool b) w) := by
  have HB := hid hb
  clear hb
  by_cases h4 : zs.length = 4
  · have H4 := hid h4
    have e0 : ((zs.length : Int) != 4) = false := by rw [bne_eq_false_iff_eq]; omega
    clear h4
    go_enter Tryd.func106, Tryd.ntmps106
    go_wp2_with fail
    go_loop [10] (fun i => ∃ k : Nat, k ≤ zs.length ∧ i = .int .i64 k ∧ Hid (OwnTo zs k)) (fun i => zs.length - (intOf i).toNat)
    case atStart => exact ⟨0, Nat.zero_le _, rfl, .zero zs⟩
    case round =>
      obtain ⟨k, hk, rfl, H⟩ := hrel
      by_cases hlt : k < zs.length
      · obtain ⟨ad, rfl, hbl, hc⟩ := hr.int_ hlt
        have q0 : (0 : Int) ≤ (k : Int) := by omega
        have q1 : (k : Int) < (zs.length : Int) := by omega
        by_cases hv : zs[k] = -1
        · have e1 : (zs[k] != -1) = false := by rw [bne_eq_false_iff_eq]; exact hv
          have HN := hid (H.out.next hlt (by rw [hv]; unfold Lk.Own; omega))
          clear H hv
          go_wp2_with fail
          go_round
          case rel => exact ⟨k + 1, by omega, by go_num, HN⟩
          case measure => simp [intOf]; omega
        · have e1 : (zs[k] != -1) = true := by rw [bne_iff_ne]; exact hv
          obtain ⟨v, hv2⟩ := bool_of (TV zs[k])
          have CV : Hid (∀ x, Calls Tryd.prog 55 #[.int .i64 zs[k]] x (Same (.bool v) x)) := fun x => txnValid_is v _ x hv2
          cases v with
          | true =>
            have HN := hid (H.out.next hlt (by have := hv2.1 rfl; unfold TV at this; unfold Lk.Own; omega))
            clear H hv hv2
            go_wp2_with (go_at_call 55; refine (CV.out _).mono ?_; rintro e w' ⟨rfl, rfl⟩)
            go_round
            case rel => exact ⟨k + 1, by omega, by go_num, HN⟩
            case measure => simp [intOf]; omega
          | false =>
            have F : Hid (b = false) := by
              show b = false
              rw [← Bool.not_eq_true]
              intro e
              have h1 := (HB.out.1 e).2 _ (List.getElem_mem hlt)
              unfold Lk.Own at h1
              have h2 := hv2.2 ⟨by omega, by omega⟩
              cases h2
            clear H hv hv2
            go_wp2_with (go_at_call 55; refine (CV.out _).mono ?_; rintro e w' ⟨rfl, rfl⟩)
            go_ret
            rw [F.out]
            exact ⟨rfl, rfl⟩
      · have hk' : k = zs.length := by omega
        subst hk'
        have F := hid (HB.out.2 ⟨H4.out, H.out.all⟩)
        clear H
        go_wp2
        go_ret
        rw [F.out]
        exact ⟨rfl, rfl⟩
  · have F : Hid (b = false) := by
      show b = false
      rw [← Bool.not_eq_true]
      exact fun e => h4 (HB.out.1 e).1
    have e0 : ((zs.length : Int) != 4) = true := by rw [bne_iff_ne]; omega
    clear h4
    go_enter Tryd.func106, Tryd.ntmps106
    go_wp2
    go_ret
    rw [F.out]
    exact ⟨rfl, rfl⟩
theorem implLocksValid_is (b : Bool) (A : Option Addr) (c : Nat) (zs : List Int) (w : World) (B : Nat) (hr : Row w B A (ints zs)) (hm : zs.length ≤ 1048600) (hb : b = true ↔ LV zs) :
    Calls Tryd.prog 106 #[.slice A zs.length c] w (Ret (.bool b) w) :=
  (implLocksValid_same b A c zs w B hr hm hb).mono fun _ _ ⟨he, hw⟩ => by subst hw; exact ⟨he, Below.refl _ _⟩

/-! ### Whose. -/
theorem of_next' {zs : List Int} {t : Int} {k : Nat} (h : k < zs.length) : ofL 0 t (zs.take (k + 1)) = ofL 0 t (zs.take k) ++ (if zs[k] = t then [(k : Int)] else []) := by
  rw [List.take_succ_eq_append_getElem h, ofL_snoc, List.length_take, Nat.min_eq_left (Nat.le_of_lt h), Int.zero_add]
set_option maxRecDepth 100000 in
set_option maxHeartbeats 4000000 in
theorem lockedRefs_is (A : Option Addr) (c : Nat) (zs : List Int) (t : Int) (w : World) (hz : Row w w.heap.size A (ints zs)) (h4 : zs.length = 4) :
    Calls Tryd.prog 109 #[.slice A zs.length c, .int .i64 t] w (IntsOf (ofL 0 t zs) w) := by
  obtain ⟨i0, hi, hz0, hz1, hz2⟩ := info_of info_int
  have al := (Below.refl w.heap.size w).alloc (Nat.le_refl _) (.cells #[] 3)
  have on0 := OwnI.nil_new (w := w) (Nat.le_refl _)
  have H4 := hid h4
  have hm : zs.length ≤ 1048600 := by omega
  clear h4
  go_enter Tryd.func109, Tryd.ntmps109
  go_wp2_with fail
  go_loopw [5, 11] (fun q i wr => ∃ (k : Nat) (ys : List Int), k ≤ zs.length ∧ i = .int .i64 k ∧ Hid (ys.length ≤ k) ∧ OwnI wr w.heap.size q ys ∧ Hid (ofL 0 t (zs.take k) = ys) ∧ Below w.heap.size w wr) (fun _ i _ => zs.length - (intOf i).toNat)
  case atStart => exact ⟨0, [], Nat.zero_le _, rfl, Nat.le_refl _, on0, rfl, al⟩
  case round =>
    obtain ⟨k, ys, hk, rfl, HL, ho, H, hbr⟩ := hrel
    clear on0 al
    have hzw := hbr.size
    have rz := (hz.below hbr (Nat.le_refl _)).more hzw
    have HL1 : Hid (ys.length ≤ 10) := by show _ ≤ _; have := HL.out; have := H4.out; omega
    by_cases hlt : k < zs.length
    · obtain ⟨ad, rfl, hbl, hc⟩ := rz.int_ hlt
      have q0 : (0 : Int) ≤ (k : Int) := by omega
      have q1 : (k : Int) < (zs.length : Int) := by omega
      have hnx := of_next' (t := t) hlt
      rw [H.out] at hnx
      clear H
      by_cases hv : zs[k] = t
      · have e0 : (zs[k] == t) = true := by rw [beq_iff_eq]; exact hv
        rw [if_pos hv] at hnx
        have HN := hid hnx
        have HL2 : Hid ((ys ++ [(k : Int)]).length ≤ k + 1) := by show _ ≤ _; rw [List.length_append]; have := HL.out; simp; omega
        clear hnx hv HL
        have oB : (wr.alloc (.cells #[.int .i64 (k : Int)] 3)).ownsRow w.heap.size 3 1 _ ys.length (ints ys) := World.ownsRow.alloc ho _
        have lt1 := World.ownsRow.lt oB
        go_wp2_with (at_builtin; go_must (refine wpList_append_own _ rfl _ _ 28 rfl w.heap.size 3 i0 (.int .i64 0) 1 8 Tryd.underlying28 hi hz0 hz1 hz2 rfl (by decide) _ ys.length (ints ys) rfl oB ⟨wr.heap.size, 0, none⟩ 1 1 [.int .i64 (k : Int)] rfl rfl (cell_one_new _ _ _) (one_int _) (by have := HL1.out; unfold maxLen; omega) (by have := HL1.out; omega) (by simp; omega) ?_); intro u9 w9 hown hg _)
        have o9 := OwnI.app hown
        have b9 : Below w.heap.size w w9 := hbr.trans (((Below.refl w.heap.size wr).alloc hzw _).grown hg (by simp; omega) (fun j hj => (lt1 j hj).1))
        clear hown hg oB lt1 ho hbr
        go_wp2
        go_roundw
        case rel => exact ⟨k + 1, ys ++ [(k : Int)], by omega, by go_num, HL2, o9, HN, b9⟩
        case measure => simp [intOf]; omega
      · have e0 : (zs[k] == t) = false := by rw [beq_eq_false_iff_ne]; exact hv
        rw [if_neg hv, List.append_nil] at hnx
        have HN := hid hnx
        have HL2 : Hid (ys.length ≤ k + 1) := by show _ ≤ _; have := HL.out; omega
        clear hnx hv HL
        go_wp2_with fail
        go_roundw
        case rel => exact ⟨k + 1, ys, by omega, by go_num, HL2, ho, HN, hbr⟩
        case measure => simp [intOf]; omega
    · have hk' : k = zs.length := by omega
      subst hk'
      have HD : Hid (ofL 0 t zs = ys) := by
        have := H.out
        rwa [List.take_length] at this
      clear H
      go_wp2
      go_ret
      rw [HD.out]
      exact .mk_ ho hbr
/-! ### Freed. -/
/-- -1 at each of hs. -/
def setM (zs : List Int) (hs : List Int) : List Int := hs.foldl (fun z r => z.set r.toNat (-1)) zs
theorem setM_length (hs : List Int) : ∀ zs, (setM zs hs).length = zs.length := by
  induction hs with
  | nil => intro zs; rfl
  | cons h hs ih => intro zs; exact (ih (zs.set h.toNat (-1))).trans (List.length_set ..)
theorem setM_snoc (zs hs : List Int) (r : Int) : setM zs (hs ++ [r]) = (setM zs hs).set r.toNat (-1) := by unfold setM; rw [List.foldl_append]; rfl
theorem setM_get (hs : List Int) : ∀ (zs : List Int) (i : Nat), (setM zs hs)[i]? = if ∃ r ∈ hs, r.toNat = i then zs[i]?.map (fun _ => -1) else zs[i]? := by
  induction hs with
  | nil => intro zs i; simp [setM]
  | cons h hs ih =>
    intro zs i
    show (setM (zs.set h.toNat (-1)) hs)[i]? = _
    rw [ih, List.getElem?_set]
    by_cases e : h.toNat = i
    · subst e
      rw [if_pos rfl, if_pos (c := ∃ r ∈ h :: hs, r.toNat = h.toNat) ⟨h, List.mem_cons_self .., rfl⟩]
      by_cases hl : h.toNat < zs.length
      · simp [hl]
      · simp [hl]
    · rw [if_neg e]
      by_cases hx : ∃ r ∈ hs, r.toNat = i
      · obtain ⟨r, hr, er⟩ := hx
        rw [if_pos ⟨r, hr, er⟩, if_pos ⟨r, List.mem_cons_of_mem _ hr, er⟩]
      · rw [if_neg hx, if_neg]
        rintro ⟨r, hr, er⟩
        rcases List.mem_cons.1 hr with rfl | hr
        · exact e er
        · exact hx ⟨r, hr, er⟩
theorem setM_free (zs : List Int) (t : Int) : setM zs (ofL 0 t zs) = freeL t zs := by
  apply List.ext_getElem?
  intro i
  rw [setM_get]
  unfold freeL
  rw [List.getElem?_map]
  by_cases hi : i < zs.length
  · rw [List.getElem?_eq_getElem hi]
    simp only [Option.map_some]
    by_cases e : zs[i] = t
    · rw [if_pos ⟨(i : Int), (ofL_at hi).2 e, by simp⟩]
      unfold free1
      rw [if_pos e]
    · rw [if_neg]
      · unfold free1
        rw [if_neg e]
      · rintro ⟨r, hr, er⟩
        obtain ⟨j, hj, hj2⟩ := (ofL_mem t r zs 0).1 hr
        obtain rfl : j = i := by omega
        rw [List.getElem?_eq_getElem hi] at hj2
        injection hj2 with hj2
        exact e hj2
  · rw [List.getElem?_eq_none (by omega)]
    simp
theorem ofL_range {t : Int} {zs : List Int} {r : Int} (h : r ∈ ofL 0 t zs) : ∃ m : Nat, r = m ∧ m < zs.length := by
  obtain ⟨j, hj, hj2⟩ := (ofL_mem t r zs 0).1 h
  refine ⟨j, by omega, ?_⟩
  rcases Nat.lt_or_ge j zs.length with h1 | h1
  · exact h1
  · rw [List.getElem?_eq_none h1] at hj2; cases hj2
set_option maxRecDepth 100000 in
set_option maxHeartbeats 8000000 in
theorem implLocksFree_is (v b : Bool) (qs : List Int) (A : Option Addr) (c : Nat) (zs : List Int) (t : Int) (w : World) (hz : Row w w.heap.size A (ints zs)) (hm : zs.length ≤ 1048600) (hv : v = true ↔ LV zs ∧ TV t) (hb : b = true ↔ v = true ∧ t ∈ zs) (hq : freed v zs t = qs) :
    Calls Tryd.prog 105 #[.slice A zs.length c, .int .i64 t] w (Took qs b w) := by
  obtain ⟨vz, hvz⟩ := bool_of (LV zs)
  obtain ⟨vt, hvt⟩ := bool_of (TV t)
  have CZ : Hid (∀ x, Row x x.heap.size A (ints zs) → Calls Tryd.prog 106 #[.slice A zs.length c] x (Same (.bool vz) x)) := fun x h => implLocksValid_same vz A c zs x _ h hm hvz
  have CT : Hid (∀ x, Calls Tryd.prog 55 #[.int .i64 t] x (Same (.bool vt) x)) := fun x => txnValid_is vt t x hvt
  have hvv : v = (vz && vt) := by rw [Bool.eq_iff_iff, hv, Bool.and_eq_true, hvz, hvt]
  have no : (vz && vt) = false → b = false ∧ qs = [] := fun e => by
    rw [e] at hvv
    subst hvv
    refine ⟨?_, by rw [← hq]; rfl⟩
    rw [← Bool.not_eq_true]
    exact fun e2 => by have := (hb.1 e2).1; cases this
  cases vz with
  | false =>
    obtain ⟨rfl, rfl⟩ := no rfl
    clear hvz hvt hv hb hq hvv no
    go_enter Tryd.func105, Tryd.ntmps105
    go_wp2_with fail
    refine (CZ.out _ hz).mono ?_
    rintro e w1 ⟨rfl, rfl⟩
    go_wp2_with fail
    go_ret2
    exact ⟨_, _, rfl, OwnI.nil_new (Nat.le_refl _), (Below.refl _ _).alloc (Nat.le_refl _) _⟩
  | true =>
    cases vt with
    | false =>
      obtain ⟨rfl, rfl⟩ := no rfl
      clear hvz hvt hv hb hq hvv no
      go_enter Tryd.func105, Tryd.ntmps105
      go_wp2_with fail
      refine (CZ.out _ hz).mono ?_
      rintro e w1 ⟨rfl, rfl⟩
      go_wp2_with fail
      refine (CT.out _).mono ?_
      rintro e w1 ⟨rfl, rfl⟩
      go_wp2_with fail
      go_ret2
      exact ⟨_, _, rfl, OwnI.nil_new (Nat.le_refl _), (Below.refl _ _).alloc (Nat.le_refl _) _⟩
    | true =>
      obtain rfl : v = true := hvv
      have h4 := (hvz.1 rfl).1
      obtain ⟨hs, hhs⟩ : ∃ hs, ofL 0 t zs = hs := ⟨_, rfl⟩
      have HM : Hid (setM zs hs = qs) := by
        show _ = _
        rw [← hhs, setM_free, ← hq]
        rfl
      have HQL : Hid (qs.length = zs.length) := by show _ = _; rw [← HM.out]; exact setM_length _ _
      have HHL : Hid (hs.length ≤ 4) := by show _ ≤ _; rw [← hhs, ← h4]; exact ofL_le t zs 0
      have HR : Hid (∀ r ∈ hs, ∃ m : Nat, r = m ∧ m < zs.length) := fun r h => ofL_range (by rw [hhs]; exact h)
      have HBB : Hid (b = true ↔ 0 < hs.length) := by
        show _ ↔ _
        rw [hb]
        have := ofL_none t zs
        rw [hhs] at this
        constructor
        · rintro ⟨-, e⟩
          rcases Nat.eq_zero_or_pos hs.length with h0 | h0
          · exact absurd e (this.1 h0)
          · exact h0
        · intro e
          refine ⟨rfl, ?_⟩
          rcases Classical.em (t ∈ zs) with h0 | h0
          · exact h0
          · have := this.2 h0; omega
      have CL : Hid (∀ x, Row x x.heap.size A (ints zs) → Calls Tryd.prog 109 #[.slice A zs.length c, .int .i64 t] x (IntsOf hs x)) := fun x h => by
        rw [← hhs]
        exact lockedRefs_is A c zs t x h h4
      have CN : Hid (∀ x, Row x x.heap.size A (ints zs) → Calls Tryd.prog 54 #[.slice A zs.length c] x (IntsOf zs x)) := fun x h => copyNumbers_of A c zs.length zs x h rfl (by omega)
      have H4 := hid h4
      have hhl : hs.length ≤ 1048600 := by have := HHL.out; omega
      clear hvz hvt hv hb hq no hhs h4
      go_enter Tryd.func105, Tryd.ntmps105
      go_wp2_with fail
      refine (CZ.out _ hz).mono ?_
      rintro e w1 ⟨rfl, rfl⟩
      go_wp2_with fail
      refine (CT.out _).mono ?_
      rintro e w1 ⟨rfl, rfl⟩
      go_wp2_with fail
      refine (CN.out _ hz).mono ?_
      rintro e w2 ⟨A2, c2, rfl, o2, b2⟩
      obtain ⟨g, c4, hgc, hg1, hg2⟩ := o2.at (by rw [H4.out]; omega)
      injection hgc with e1 e2 e3
      subst e1
      subst e3
      clear e2
      have r2 := (hz.below b2 (Nat.le_refl _)).more b2.size
      clear CZ CT CN
      go_wp2_with fail
      refine (CL.out _ r2).mono ?_
      rintro e w3 ⟨A3, c3, rfl, o3, b3⟩
      have b33 := b2.trans (b3.mono b2.size)
      have o23 := o2.below b3 (Nat.le_refl _)
      have z2 := b2.size
      clear CL r2 b3 o2
      go_wp2_with fail
      go_loopw [26] (fun i wr => ∃ k : Nat, k ≤ hs.length ∧ i = .int .i64 k ∧ OwnI wr w.heap.size (.slice (some ⟨g, 0, none⟩) zs.length c2) (setM zs (hs.take k)) ∧ OwnI wr w2.heap.size (.slice A3 hs.length c3) hs ∧ Below w.heap.size w wr) (fun i _ => hs.length - (intOf i).toNat)
      case atStart => exact ⟨0, Nat.zero_le _, rfl, (by rw [List.take_zero]; exact o23), o3, b33⟩
      case round =>
        obtain ⟨k, hk, rfl, ho, hh, hbr⟩ := hrel
        clear o23 o3 b33
        by_cases hlt : k < hs.length
        · obtain ⟨ad, rfl, hbl, hc⟩ := hh.row.int_ hlt
          have q0 : (0 : Int) ≤ (k : Int) := by omega
          have q1 : (k : Int) < (hs.length : Int) := by omega
          obtain ⟨m, hm0, hmz⟩ := HR.out _ (List.getElem_mem hlt)
          rw [hm0] at hc
          have k2 : (0 : Int) ≤ (m : Int) := by omega
          have k3 : (m : Int) < (zs.length : Int) := by omega
          have hsl := setM_length (hs.take k) zs
          have ho' : OwnI wr w.heap.size (.slice (some ⟨g, 0, none⟩) (setM zs (hs.take k)).length c2) (setM zs (hs.take k)) := by rw [hsl]; exact ho
          have hmz' : m < (setM zs (hs.take k)).length := by rw [hsl]; exact hmz
          have y0 := ho'.cell hmz'
          have f0 := World.ownsRow.frozenAt ho' m
          have ho2 := ho'.set m (-1)
          have hb2 := hbr.setCell (p := ⟨g, m, none⟩) hg1 (.int .i64 (-1))
          have hh2 := hh.but (but_set wr g m (.int .i64 (-1))) hg2
          have hst : setM zs (hs.take (k + 1)) = (setM zs (hs.take k)).set m (-1) := by
            rw [List.take_succ_eq_append_getElem hlt, setM_snoc, hm0, Int.toNat_natCast]
          have hl2 : ((setM zs (hs.take k)).set m (-1)).length = zs.length := by rw [List.length_set, hsl]
          rw [← hst] at ho2 hl2
          rw [hl2] at ho2
          clear ho ho' hbr hst hl2 hsl hm0 hh
          go_wp2
          go_roundw
          case rel => exact ⟨k + 1, by omega, by go_num, ho2, hh2, hb2⟩
          case measure => simp [intOf]; omega
        · have hk' : k = hs.length := by omega
          subst hk'
          rw [List.take_length, HM.out] at ho
          by_cases h0 : 0 < hs.length
          · have F := hid (HBB.out.2 h0)
            have e0 : decide (0 < (hs.length : Int)) = true := decide_eq_true (by omega)
            have e1 : decide (0 < hs.length) = true := decide_eq_true h0
            go_wp2
            go_ret2
            rw [F.out]
            exact ⟨_, _, by rw [HQL.out]; rfl, by rw [HQL.out]; exact ho, hbr⟩
          · have F : Hid (b = false) := by
              show b = false
              rw [← Bool.not_eq_true]
              exact fun e => h0 (HBB.out.1 e)
            have e0 : decide (0 < (hs.length : Int)) = false := decide_eq_false (by omega)
            have e1 : decide (0 < hs.length) = false := decide_eq_false h0
            clear h0
            go_wp2
            go_ret2
            rw [F.out]
            exact ⟨_, _, by rw [HQL.out]; rfl, by rw [HQL.out]; exact ho, hbr⟩
end Go.Proofs.YthmnaljncapmeabDoor
namespace Go.Proofs.YthmnaljncapmeabDoor
open Go.RowKit Wo Pu Rf Lk

/-- The two error values lie as they were laid: a0 that of a locked ref, a1 that of invalid arguments. -/
structure Errs (a0 a1 : Addr) (w : World) : Prop where
  locked : w.cell? ⟨0, 0, none⟩ = some (.iface 156 (.pointer (some a0)))
  invalid : w.cell? ⟨1, 0, none⟩ = some (.iface 156 (.pointer (some a1)))
  ne : a0 ≠ a1
  row0 : ∃ c t, w.heap[a0.block]? = some (.cells c t (0, 0))
  row1 : ∃ c t, w.heap[a1.block]? = some (.cells c t (0, 0))
theorem lt_of_heap {w : World} {k : Nat} {o : Obj} (h : w.heap[k]? = some o) : k < w.heap.size := by
  rcases Nat.lt_or_ge k w.heap.size with h1 | h1
  · exact h1
  · rw [Array.getElem?_eq_none h1] at h; cases h
theorem Errs.below {a0 a1 : Addr} {w w' : World} (h : Errs a0 a1 w) (hb : Below w.heap.size w w') : Errs a0 a1 w' := by
  obtain ⟨h1, h2, h3, ⟨c0, t0, h4⟩, ⟨c1, t1, h5⟩⟩ := h
  refine ⟨?_, ?_, h3, ⟨c0, t0, (hb.block _ (lt_of_heap h4)).trans h4⟩, ⟨c1, t1, (hb.block _ (lt_of_heap h5)).trans h5⟩⟩
  · exact (hb.cell (block_lt_of_cell h1)).trans h1
  · exact (hb.cell (block_lt_of_cell h2)).trans h2

/-- What takeLocks answers. -/
def TakeAns (a0 a1 : Addr) (zs : List Int) (t : Int) (us : List Up) (y : RWay) (w : World) (e : Ending) (w' : World) : Prop :=
  Below w.heap.size w w' ∧ match y with
  | .bad => e = .returned (.tuple #[.slice none 0 0, .iface 156 (.pointer (some a1))])
  | .no => e = .returned (.tuple #[.slice none 0 0, .iface 156 (.pointer (some a0))])
  | .yes => ∃ A c, e = .returned (.tuple #[.slice A zs.length c, .nilIface]) ∧ OwnI w' w.heap.size (.slice A zs.length c) (setR zs (lk t us))
set_option maxRecDepth 100000 in
set_option maxHeartbeats 8000000 in
theorem takeLocks_is (y : RWay) (a0 a1 : Addr) (A A2 : Option Addr) (c c2 : Nat) (zs : List Int) (t : Int) (us : List Up) (w : World) (hE : Errs a0 a1 w) (hz : Row w w.heap.size A (ints zs)) (hu : Row w w.heap.size A2 (upsV us)) (hmz : zs.length ≤ 1048600) (hm : us.length ≤ 1048600) (hy : IsLWay zs t us y) :
    Calls Tryd.prog 103 #[.slice A zs.length c, .int .i64 t, .slice A2 us.length c2] w (TakeAns a0 a1 zs t us y w) := by
  obtain ⟨vz, hvz⟩ := bool_of (LV zs)
  obtain ⟨vt, hvt⟩ := bool_of (TV t)
  obtain ⟨vu, hvu⟩ := bool_of (UV us)
  have CZ : Hid (∀ x, Row x x.heap.size A (ints zs) → Calls Tryd.prog 106 #[.slice A zs.length c] x (Same (.bool vz) x)) := fun x h => implLocksValid_same vz A c zs x _ h hmz hvz
  have CT : Hid (∀ x, Calls Tryd.prog 55 #[.int .i64 t] x (Same (.bool vt) x)) := fun x => txnValid_is vt t x hvt
  have CU : Hid (∀ x, Row x x.heap.size A2 (upsV us) → Calls Tryd.prog 57 #[.slice A2 us.length c2] x (Ret (.bool vu) x)) := fun x h => implUpdatesValid_is vu A2 c2 us x h hm hvu
  have bad : (vz && vt && vu) = false → y = .bad := fun e => by
    have nn : ¬ (LV zs ∧ TV t ∧ UV us) := by
      rintro ⟨g1, g2, g3⟩
      rw [hvz.2 g1, hvt.2 g2, hvu.2 g3] at e
      cases e
    cases y with
    | bad => rfl
    | no => exact absurd ⟨hy.1, hy.2.1, hy.2.2.1⟩ nn
    | yes => exact absurd ⟨hy.1, hy.2.1, hy.2.2.1⟩ nn
  have ye := hE.invalid
  cases vz with
  | false =>
    obtain rfl := bad rfl
    clear hvz hvt hvu hy bad hE
    go_enter Tryd.func103, Tryd.ntmps103
    go_wp2_with fail
    refine (CZ.out _ hz).mono ?_
    rintro e w1 ⟨rfl, rfl⟩
    go_wp2_with fail
    go_quiet (fail)
    go_wp2
    go_ret2
    exact ⟨Wo.Below.drewN (Below.refl _ _) _, rfl⟩
  | true =>
    cases vt with
    | false =>
      obtain rfl := bad rfl
      clear hvz hvt hvu hy bad hE
      go_enter Tryd.func103, Tryd.ntmps103
      go_wp2_with fail
      refine (CZ.out _ hz).mono ?_
      rintro e w1 ⟨rfl, rfl⟩
      go_wp2_with fail
      refine (CT.out _).mono ?_
      rintro e w1 ⟨rfl, rfl⟩
      go_wp2_with fail
      go_quiet (fail)
      go_wp2
      go_ret2
      exact ⟨Wo.Below.drewN (Below.refl _ _) _, rfl⟩
    | true =>
      cases vu with
      | false =>
        obtain rfl := bad rfl
        clear hvz hvt hvu hy bad ye
        go_enter Tryd.func103, Tryd.ntmps103
        go_wp2_with fail
        refine (CZ.out _ hz).mono ?_
        rintro e w1 ⟨rfl, rfl⟩
        go_wp2_with fail
        refine (CT.out _).mono ?_
        rintro e w1 ⟨rfl, rfl⟩
        go_wp2_with fail
        refine (CU.out _ hu).mono ?_
        rintro e w2 ⟨rfl, b2⟩
        have ye := (hE.below b2).invalid
        clear hE
        go_wp2_with fail
        go_quiet (fail)
        go_wp2
        go_ret2
        exact ⟨Wo.Below.drewN b2 _, rfl⟩
      | true =>
        have lv := hvz.1 rfl
        have tv := hvt.1 rfl
        have uv := hvu.1 rfl
        have hr := refs4_of uv
        have H4 := hid lv.1
        have HF : Hid (Fits zs (lk t us) ↔ y = .yes) := by
          show _ ↔ _
          cases y with
          | bad => exact absurd ⟨lv, tv, uv⟩ hy
          | no => exact ⟨fun e => absurd e hy.2.2.2, fun e => by cases e⟩
          | yes => exact ⟨fun _ => rfl, fun _ => hy.2.2.2⟩
        have HNB : Hid (y ≠ .bad) := by
          show _ ≠ _
          rintro rfl
          exact hy ⟨lv, tv, uv⟩
        have CN : Hid (∀ x, Row x x.heap.size A (ints zs) → Calls Tryd.prog 54 #[.slice A zs.length c] x (IntsOf zs x)) := fun x h => copyNumbers_of A c zs.length zs x h rfl (by have := H4.out; omega)
        clear hvz hvt hvu hy bad lv tv uv ye
        go_enter Tryd.func103, Tryd.ntmps103
        go_wp2_with fail
        refine (CZ.out _ hz).mono ?_
        rintro e w1 ⟨rfl, rfl⟩
        go_wp2_with fail
        refine (CT.out _).mono ?_
        rintro e w1 ⟨rfl, rfl⟩
        go_wp2_with fail
        refine (CU.out _ hu).mono ?_
        rintro e w2 ⟨rfl, b2⟩
        have HE0 := hid hE
        have r2 := (hz.below b2 (Nat.le_refl _)).more b2.size
        clear hE
        go_wp2_with fail
        refine (CN.out _ r2).mono ?_
        rintro e w4 ⟨A4, c4, rfl, o4, b4'⟩
        have b4 := b2.trans (b4'.mono b2.size)
        have o4' := o4.base (B' := w.heap.size) b2.size
        obtain ⟨g, c5, hgc, hg1, hg2⟩ := o4'.at (by rw [H4.out]; omega)
        injection hgc with e1 e2 e3
        subst e1
        subst e3
        clear e2 b2 r2 b4' o4 CZ CT CU CN
        go_wp2_with fail
        go_loopw [29] (fun i wr => ∃ k : Nat, k ≤ us.length ∧ i = .int .i64 k ∧ OwnI wr w.heap.size (.slice (some ⟨g, 0, none⟩) zs.length c4) (setR zs (lk t (us.take k))) ∧ Hid (FitTo zs (lk t us) k) ∧ Below w.heap.size w wr) (fun i _ => us.length - (intOf i).toNat)
        case atStart => exact ⟨0, Nat.zero_le _, rfl, (by rw [List.take_zero]; exact o4'), FitTo.zero zs _, b4⟩
        case round =>
          obtain ⟨k, hk, rfl, ho, HFT, hb⟩ := hrel
          clear o4' b4
          by_cases hlt : k < us.length
          · obtain ⟨o, ad, ho1, rfl, ha1, g0, g1, g2⟩ := (hu.below hb (Nat.le_refl _)).up_ hlt
            obtain ⟨q0, q1⟩ := hr _ (List.getElem_mem hlt)
            rw [ho1] at q0 q1
            obtain ⟨m, hm0⟩ := Int.eq_ofNat_of_zero_le q0
            rw [hm0] at g0
            have hmz0 : m < zs.length := by rw [H4.out]; omega
            obtain ⟨adz, ez, hbz, cz⟩ := (hz.below hb (Nat.le_refl _)).int_ hmz0
            have hkl : k < (lk t us).length := by rw [lk_length]; exact hlt
            have hge : (lk t us)[k] = lk1 t o := by rw [← ho1]; exact lk_get hlt hkl
            have hfit : fit1 zs (lk t us)[k] ↔ zs[m] = -1 := by
              rw [hge]
              unfold fit1
              rw [show (lk1 t o).r = o.r from rfl, hm0, Int.toNat_natCast, List.getElem?_eq_getElem hmz0]
              exact ⟨fun h => by injection h, fun h => by rw [h]; rfl⟩
            have k0 : (0 : Int) ≤ (k : Int) := by omega
            have k1 : (k : Int) < (us.length : Int) := by omega
            have k2 : (0 : Int) ≤ (m : Int) := by omega
            have k3 : (m : Int) < (zs.length : Int) := by omega
            subst ez
            have hzw := hb.size
            have u1 := Blk.new_ wr 97 (.int .i64 (m : Int)) (.int .i64 o.o) (.int .i64 o.n)
            have bb := (Below.refl wr.heap.size wr).alloc (Nat.le_refl _) (.cells #[.int .i64 (m : Int), .int .i64 o.o, .int .i64 o.n] 97)
            obtain ⟨W1, hW1⟩ : ∃ W1, wr.alloc (.cells #[.int .i64 (m : Int), .int .i64 o.o, .int .i64 o.n] 97) = W1 := ⟨_, rfl⟩
            rw [hW1] at u1 bb
            have hb1 := hb.trans (bb.mono hzw)
            have ho1' := ho.below bb (Nat.le_refl _)
            have cz1 : W1.cell? (adz.add m) = some (.int .i64 zs[m]) := (bb.cell (by rw [add_block]; exact Nat.lt_of_lt_of_le hbz hzw)).trans cz
            obtain ⟨z0, -, -, -⟩ := id u1.reads
            clear cz ho hb bb
            by_cases heq : zs[m] = -1
            · have e0 : (zs[m] != -1) = false := by rw [bne_eq_false_iff_eq]; exact heq
              have HN := hid (HFT.out.next hkl (hfit.2 heq))
              have hsl := setR_length (lk t (us.take k)) zs
              have ho' : OwnI W1 w.heap.size (.slice (some ⟨g, 0, none⟩) (setR zs (lk t (us.take k))).length c4) (setR zs (lk t (us.take k))) := by rw [hsl]; exact ho1'
              have hmz : m < (setR zs (lk t (us.take k))).length := by rw [hsl]; exact hmz0
              have y0 := ho'.cell hmz
              have f0 := World.ownsRow.frozenAt ho' m
              have ho2 := ho'.set m t
              have hb2 := hb1.setCell (p := ⟨g, m, none⟩) hg1 (.int .i64 t)
              have hst : setR zs (lk t (us.take (k + 1))) = (setR zs (lk t (us.take k))).set m t := by
                rw [List.take_succ_eq_append_getElem hlt, ho1]
                unfold lk
                rw [List.map_append]
                show setR zs (_ ++ [lk1 t o]) = _
                rw [setR_snoc]
                show (setR zs _).set o.r.toNat t = _
                rw [hm0, Int.toNat_natCast]
              have hl2 : ((setR zs (lk t (us.take k))).set m t).length = zs.length := by rw [List.length_set, hsl]
              rw [← hst] at ho2 hl2
              rw [hl2] at ho2
              clear ho1' ho' hb1 hst hl2 hsl q0 q1 hm0 ho1 HFT heq hfit hge
              go_wp2
              go_roundw
              case rel => exact ⟨k + 1, by omega, by go_num, ho2, HN, hb2⟩
              case measure => simp [intOf]; omega
            · have e0 : (zs[m] != -1) = true := by rw [bne_iff_ne]; exact heq
              have F : Hid (y = .no) := by
                show y = .no
                cases y with
                | bad => exact absurd rfl HNB.out
                | no => rfl
                | yes => exact absurd (hfit.1 (HF.out.2 rfl _ (List.getElem_mem hkl))) heq
              have ye := (HE0.out.below hb1).locked
              clear ho1' HFT heq hfit hge q0 q1 hm0 ho1
              go_wp2_with fail
              go_quiet (fail)
              go_wp2
              go_ret2
              rw [F.out]
              exact ⟨Wo.Below.drewN hb1 _, rfl⟩
          · have hk' : k = us.length := by omega
            subst hk'
            rw [List.take_length] at ho
            have F : Hid (y = .yes) := by
              refine HF.out.1 (FitTo.all ?_)
              rw [lk_length]
              exact HFT.out
            clear HFT
            go_wp2
            go_ret2
            rw [F.out]
            exact ⟨hb, _, _, rfl, ho⟩
set_option maxRecDepth 100000 in
set_option maxHeartbeats 8000000 in
theorem implLocksTake_is (y : RWay) (a0 a1 : Addr) (A A2 : Option Addr) (c c2 : Nat) (zs : List Int) (t : Int) (us : List Up) (w : World) (hE : Errs a0 a1 w) (hz : Row w w.heap.size A (ints zs)) (hu : Row w w.heap.size A2 (upsV us)) (hmz : zs.length ≤ 1048600) (hm : us.length ≤ 1048600) (hy : IsLWay zs t us y) :
    Calls Tryd.prog 101 #[.slice A zs.length c, .int .i64 t, .slice A2 us.length c2] w (Took (applied zs (lk t us) y) y.ok w) := by
  have CT := hid (takeLocks_is y a0 a1 A A2 c c2 zs t us w hE hz hu hmz hm hy)
  have HE := hid hE
  obtain ⟨c0, t0, r0⟩ := hE.row0
  obtain ⟨c1, t1, r1⟩ := hE.row1
  have R0 := hid r0
  have R1 := hid r1
  have HNE := hid hE.ne
  clear r0 r1 hE
  cases y with
  | bad =>
    clear hy hm hmz hu hz
    go_enter Tryd.func101, Tryd.ntmps101
    go_wp2_with fail
    refine (CT.out).mono ?_
    rintro e w1 ⟨b1, rfl⟩
    have hE1 := HE.out.below b1
    have ye := hE1.locked
    have CI : Hid (∀ x, Below w1.heap.size w1 x → Calls Tryd.prog 104 #[.iface 156 (.pointer (some a1)), .iface 156 (.pointer (some a0))] x fun e w' => e = .returned (.bool false) ∧ w' = x) := fun x hx => by
      obtain ⟨c0, t0, r0⟩ := (hE1.below hx).row0
      obtain ⟨c1, t1, r1⟩ := (hE1.below hx).row1
      exact is_other a1 a0 c1 c0 t1 t0 x hE1.ne.symm r1 r0
    have al := (b1.alloc b1.size (.cells #[] 3))
    clear hE1 CT
    go_wp2_with fail
    refine (CI.out _ (Below.refl _ _)).mono ?_
    rintro e w2 ⟨rfl, rfl⟩
    go_wp2_with fail
    go_ret2
    exact ⟨_, _, rfl, OwnI.nil_new b1.size, al⟩
  | no =>
    have h4 := hy.1.1
    have CN : Hid (∀ x, Row x x.heap.size A (ints zs) → Calls Tryd.prog 54 #[.slice A zs.length c] x (IntsOf zs x)) := fun x h => copyNumbers_of A c zs.length zs x h rfl (by omega)
    clear hy hm hmz hu h4
    go_enter Tryd.func101, Tryd.ntmps101
    go_wp2_with fail
    refine (CT.out).mono ?_
    rintro e w1 ⟨b1, rfl⟩
    have ye := (HE.out.below b1).locked
    have r2 := (hz.below b1 (Nat.le_refl _)).more b1.size
    go_wp2_with fail
    refine (is_same a0 _).mono ?_
    rintro e w2 ⟨rfl, rfl⟩
    go_wp2_with fail
    refine (CN.out _ r2).mono ?_
    rintro e w3 ⟨A3, c3, rfl, o3, b3⟩
    have b4 := b1.trans (b3.mono b1.size)
    have o4 := o3.base b1.size
    go_wp2_with fail
    go_ret2
    exact ⟨A3, c3, rfl, o4, b4⟩
  | yes =>
    have HL := hid (setR_length (lk t us) zs)
    clear hy hm hmz hu hz
    go_enter Tryd.func101, Tryd.ntmps101
    go_wp2_with fail
    refine (CT.out).mono ?_
    rintro e w1 ⟨b1, A3, c3, rfl, o3⟩
    have ye := (HE.out.below b1).locked
    go_wp2_with fail
    refine (is_nil a0 _).mono ?_
    rintro e w2 ⟨rfl, rfl⟩
    go_wp2_with fail
    go_ret2
    exact ⟨A3, c3, (by show _ = Ending.returned (.tuple #[.slice A3 (setR zs (lk t us)).length c3, .bool true]); rw [HL.out]; rfl), by show OwnI _ _ (.slice A3 (setR zs (lk t us)).length c3) _; rw [HL.out]; exact o3, b1⟩
end Go.Proofs.YthmnaljncapmeabDoor
namespace Go.Proofs.YthmnaljncapmeabDoor
theorem lk_gI : Tryd.prog.globalNamed "loop.example/atomicpush/impl.errLocksInvalid" = some 1 := by kernel_rfl
theorem lk_gR : Tryd.prog.globalNamed "loop.example/atomicpush/impl.errRefLocked" = some 0 := by kernel_rfl
theorem lk_gIT : (Tryd.prog.globals[1]?).map (·.type) = some 135 := by kernel_rfl
theorem lk_gRT : (Tryd.prog.globals[0]?).map (·.type) = some 135 := by kernel_rfl
theorem lk_cells1 : Tryd.prog.cellsOf 181 = 1 := by kernel_rfl
theorem lk_cells2 : Tryd.prog.cellsOf 9 = 1 := by kernel_rfl
theorem lk_star : "*" ++ "errors.errorString" = "*errors.errorString" := by decide
theorem lk_row (u : TypeId) (h : Tryd.prog.typeName? 3 u = some "*errors.errorString") : u = 156 :=
  typeName_ptr_named (nm := "errors.errorString") (by rw [lk_star]; kernel_rfl) (by kernel_rfl) (by decide) u (by rw [lk_star]; exact h)
def laidErrs : List (String × DataW Unit) := [("loop.example/atomicpush/impl.errLocksInvalid", Rows.laid_loop_example_atomicpush_impl_errLocksInvalid), ("loop.example/atomicpush/impl.errRefLocked", Rows.laid_loop_example_atomicpush_impl_errRefLocked)]
theorem errs_of_laid {W : World} (h : laidMetH Tryd.prog laidErrs W) : ∃ a0 a1, Errs a0 a1 W := by
  rw [MakeChecks.laidMetH_plain _ _ _ (by kernel_rfl)] at h
  obtain ⟨x0, x1, s0, s1, c0, c1, t0, t1, hv0, hv1, -, -, -, -, -, -, hne, hb0, hb1⟩ := laid_sentinels2 h lk_gI lk_gIT lk_gR lk_gRT Tryd.underlying135 lk_row Tryd.underlying156 Tryd.underlying181 rfl rfl Tryd.underlying9 lk_cells1 lk_cells2
  exact ⟨x1, x0, by simpa using World.var?_cell lk_gR hv1 0, by simpa using World.var?_cell lk_gI hv0 0, hne.symm, ⟨c1, t1, hb1⟩, ⟨c0, t0, hb0⟩⟩
end Go.Proofs.YthmnaljncapmeabDoor
namespace Go.Proofs.YthmnaljncapmeabDoor
open Go.RowKit Wo Pu Rf Lk Sh

/-- The states of all transactions. -/
def stL (rs : List Rec) : List Int := (List.range 12).map fun i => Sh.ask rs (i : Nat)
theorem stL_length (rs : List Rec) : (stL rs).length = 12 := by simp [stL]
theorem stL_get {rs : List Rec} {i : Nat} (h : i < 12) : (stL rs)[i]? = some (Sh.ask rs (i : Nat)) := by simp [stL, h]
theorem stL_nil : stL [] = [0, 0, 0, 0, 0, 0, 0, 0, 0, 0, 0, 0] := rfl
theorem stL_snoc {rs : List Rec} {r : Rec} {m : Nat} (hr : r.t = (m : Int)) : stL (rs ++ [r]) = (stL rs).set m r.k := by
  apply List.ext_getElem?
  intro i
  by_cases hi : i < 12
  · rw [stL_get hi, ask_snoc, hr, List.getElem?_set, stL_length]
    by_cases e : m = i
    · subst e
      rw [if_pos rfl, if_pos rfl, if_pos hi]
    · rw [if_neg (by omega), if_neg e, stL_get hi]
  · rw [List.getElem?_eq_none (by rw [stL_length]; omega), List.getElem?_eq_none (by rw [List.length_set, stL_length]; omega)]
/-- The cells of a ledger. -/
def ledC (zs : List Int) (L : Value) (st : List Int) (us : List Value) : List Value := ints zs ++ L :: (ints st ++ us)
theorem ints_at {zs : List Int} {i : Nat} (h : i < zs.length) : (ints zs)[i]? = some (.int .i64 zs[i]) := by simp [ints, h]
section
variable {zs st : List Int} {L : Value} {us : List Value}
theorem ledC_length (h1 : zs.length = 4) (h2 : st.length = 12) (h3 : us.length = 12) : (ledC zs L st us).length = 29 := by simp [ledC, ints, h1, h2, h3]
theorem ledC_locks (h1 : zs.length = 4) : (ledC zs L st us)[4]? = some L := by
  unfold ledC
  rw [List.getElem?_append_right (by simp [ints, h1])]
  simp [ints, h1]
theorem ledC_state (h1 : zs.length = 4) (h2 : st.length = 12) {i : Nat} (hi : i < 12) : (ledC zs L st us)[5 + i]? = some (.int .i64 (st[i]'(by omega))) := by
  unfold ledC
  rw [List.getElem?_append_right (by simp [ints, h1]; omega)]
  have e : 5 + i - (ints zs).length = i + 1 := by simp [ints, h1]; omega
  rw [e, List.getElem?_cons_succ, List.getElem?_append_left (by simp [ints, h2]; omega), ints_at (by omega)]
theorem ledC_ups (h1 : zs.length = 4) (h2 : st.length = 12) (i : Nat) : (ledC zs L st us)[17 + i]? = us[i]? := by
  unfold ledC
  rw [List.getElem?_append_right (by simp [ints, h1]; omega)]
  have e : 17 + i - (ints zs).length = (12 + i) + 1 := by simp [ints, h1]; omega
  rw [e, List.getElem?_cons_succ, List.getElem?_append_right (by simp [ints, h2])]
  congr 1
  simp [ints, h2]
theorem ledC_ref (h1 : zs.length = 4) {i : Nat} (hi : i < 4) : (ledC zs L st us)[i]? = some (.int .i64 (zs[i]'(by omega))) := by
  unfold ledC
  rw [List.getElem?_append_left (by simp [ints, h1]; omega), ints_at (by omega)]
theorem ledC_range {j : Nat} {v : Value} (h : (ints zs)[j]? = some v) : (ledC zs L st us)[j]? = some v := by
  unfold ledC
  rw [List.getElem?_append_left (by rcases Nat.lt_or_ge j (ints zs).length with e | e; exact e; rw [List.getElem?_eq_none e] at h; cases h)]
  exact h
theorem ints_set' (zs : List Int) (i : Nat) (z : Int) : (ints zs).set i (.int .i64 z) = ints (zs.set i z) := by simp [ints, List.map_set]
theorem ledC_set_ref (h1 : zs.length = 4) {i : Nat} (hi : i < 4) (z : Int) : (ledC zs L st us).set i (.int .i64 z) = ledC (zs.set i z) L st us := by
  unfold ledC
  rw [List.set_append_left _ _ (by simp [ints, h1]; omega), ints_set']
theorem ledC_set_locks (h1 : zs.length = 4) (L' : Value) : (ledC zs L st us).set 4 L' = ledC zs L' st us := by
  unfold ledC
  rw [List.set_append_right _ _ (by simp [ints, h1])]
  simp [ints, h1]
theorem ledC_set_state (h1 : zs.length = 4) (h2 : st.length = 12) {i : Nat} (hi : i < 12) (z : Int) : (ledC zs L st us).set (5 + i) (.int .i64 z) = ledC zs L (st.set i z) us := by
  unfold ledC
  rw [List.set_append_right _ _ (by simp [ints, h1]; omega)]
  have e : 5 + i - (ints zs).length = i + 1 := by simp [ints, h1]; omega
  rw [e, List.set_cons_succ, List.set_append_left _ _ (by simp [ints, h2]; omega), ints_set']
theorem ledC_set_ups (h1 : zs.length = 4) (h2 : st.length = 12) (i : Nat) (u : Value) : (ledC zs L st us).set (17 + i) u = ledC zs L st (us.set i u) := by
  unfold ledC
  rw [List.set_append_right _ _ (by simp [ints, h1]; omega)]
  have e : 17 + i - (ints zs).length = (12 + i) + 1 := by simp [ints, h1]; omega
  rw [e, List.set_cons_succ, List.set_append_right _ _ (by simp [ints, h2])]
  congr 2
  simp [ints, h2]
theorem ledC_ones (hL : L.oneCell' = true) (hu : ∀ u ∈ us, u.oneCell' = true) : (ledC zs L st us).toArray.all (·.oneCell') = true := by
  refine all_oneCell_toArray fun v hv => ?_
  unfold ledC at hv
  simp only [List.mem_append, List.mem_cons, ints, List.mem_map] at hv
  rcases hv with ⟨z, -, rfl⟩ | rfl | ⟨z, -, rfl⟩ | hv
  · rfl
  · exact hL
  · rfl
  · exact hu v hv
end
theorem info_led : (Tryd.prog.info? 75).map (·.size) = some 29 := by kernel_rfl
/-- The cells of a ledger that nothing has been told. -/
def led0 : List Value := ledC [0, 0, 0, 0] (.slice none 0 0) [0, 0, 0, 0, 0, 0, 0, 0, 0, 0, 0, 0] (List.replicate 12 (.slice none 0 0))
/-- The cells of some ledger. -/
def Led (cs : List Value) : Prop := cs.length = 29 ∧ cs.toArray.all (·.oneCell') = true
theorem Led.size {cs : List Value} (h : Led cs) : cs.toArray.size = 29 := by rw [List.size_toArray]; exact h.1
theorem Led.info {cs : List Value} (h : Led cs) : (Tryd.prog.info? 75).map (·.size) = some cs.toArray.size := by rw [h.size]; exact info_led
theorem Led.mk_ {zs st : List Int} {L : Value} {us : List Value} (h1 : zs.length = 4) (h2 : st.length = 12) (h3 : us.length = 12) (hL : L.oneCell' = true) (hu : ∀ u ∈ us, u.oneCell' = true) : Led (ledC zs L st us) := ⟨ledC_length h1 h2 h3, ledC_ones hL hu⟩
theorem led0_led : Led led0 := Led.mk_ rfl rfl rfl rfl (fun u hu => by rw [List.mem_replicate] at hu; rw [hu.2]; rfl)
/-- The cells cs are those of the ledger of the records rs, whose state is s; its locks are the call's own, the updates lie below. -/
def LdV (w : World) (B : Nat) (cs : List Value) (rs : List Rec) (s : St) : Prop :=
  ∃ A c us, cs = ledC s.refs (.slice A s.locks.length c) (stL rs) us ∧ us.length = 12 ∧ (∀ u ∈ us, u.oneCell' = true) ∧ OwnI w B (.slice A s.locks.length c) s.locks ∧
    ∀ t : Nat, t < 12 → Sh.ask rs (t : Int) = 1 → ∃ A' c', us[t]? = some (.slice A' (Sh.upd rs t).length c') ∧ Row w B A' (upsV (Sh.upd rs t))
theorem LdV.below {w w' : World} {B : Nat} {cs : List Value} {rs : List Rec} {s : St} (h : LdV w B cs rs s) (hB : B ≤ w.heap.size) (hb : Below w.heap.size w w') : LdV w' B cs rs s := by
  obtain ⟨A, c, us, h1, h2, h3, h4, h5⟩ := h
  refine ⟨A, c, us, h1, h2, h3, h4.below hb (Nat.le_refl _), fun t ht ha => ?_⟩
  obtain ⟨A', c', q1, q2⟩ := h5 t ht ha
  exact ⟨A', c', q1, q2.below hb hB⟩
theorem LdV.base {w : World} {B B' : Nat} {cs : List Value} {s : St} (h : LdV w B cs [] s) (hB : B' ≤ B) : LdV w B' cs [] s := by
  obtain ⟨A, c, us, h1, h2, h3, h4, h5⟩ := h
  exact ⟨A, c, us, h1, h2, h3, h4.base hB, fun t _ ha => absurd ha (by unfold Sh.ask; simp)⟩
theorem row_but_hi {w w' : World} {B R : Nat} {A : Option Addr} {xs : List Value} (h : Row w B A xs) (hb : But R w w') (hR : B ≤ R) (hB : B ≤ w.heap.size) : Row w' B A xs :=
  h.below (C := B) ⟨hb.os, hb.tape, hb.output, hb.size, fun k hk => hb.block k (by omega) (fun e => by injection e with e; omega)⟩ (Nat.le_refl _)
theorem LdV.but {w w' : World} {B R : Nat} {T : TypeId} {cur : Array Value} {cs : List Value} {rs : List Rec} {s : St} (h : LdV w B cs rs s) (hB : B ≤ w.heap.size) (hb : But R w w') (hR : B ≤ R) (hx : w.heap[R]? = some (.cells cur T (0, 0))) (hT : 3 ≠ T) : LdV w' B cs rs s := by
  obtain ⟨A, c, us, h1, h2, h3, h4, h5⟩ := h
  refine ⟨A, c, us, h1, h2, h3, row_far_type h4 hT hb (blk_type hx), fun t ht ha => ?_⟩
  obtain ⟨A', c', q1, q2⟩ := h5 t ht ha
  exact ⟨A', c', q1, row_but_hi q2 hb hR hB⟩
theorem LdV.led {w : World} {B : Nat} {cs : List Value} {rs : List Rec} {s : St} (h : LdV w B cs rs s) (h4 : s.refs.length = 4) : Led cs := by
  obtain ⟨A, c, us, rfl, h2, h3, -, -⟩ := h
  exact Led.mk_ h4 (stL_length rs) h2 rfl h3
theorem row_on {w w' : World} {A : Option Addr} {vs : List Value} (h : Row w w.heap.size A vs) (hb : Below w.heap.size w w') : Row w' w'.heap.size A vs := (h.below hb (Nat.le_refl _)).more hb.size
theorem Arr4.get_ {w : World} {g : Nat} {t : TypeId} {vs : List Value} (h : Arr4 w g t vs) {i : Nat} {v : Value} (hv : vs[i]? = some v) : w.cell? ⟨g, i, none⟩ = some v := by
  have hi : i < vs.length := by rcases Nat.lt_or_ge i vs.length with e | e; exact e; rw [List.getElem?_eq_none e] at hv; cases hv
  rw [h.read hi, ← List.getElem?_eq_getElem]
  exact hv
theorem Arr4.has_ {w : World} {g : Nat} {t : TypeId} {vs : List Value} (h : Arr4 w g t vs) {i : Nat} (hi : i < vs.length) : ∃ v, w.cell? ⟨g, i, none⟩ = some v := ⟨_, h.read hi⟩
theorem results_row_slot {fn : Func} {p s : Tmp} {ty : TypeId} (h : fn.results = #[.cell p ty, .tmp s]) (tmps : Array Value) (w : World) (g : Nat) (t : TypeId) (cs : Array Value) (fr : Nat × Nat) (fs : Array Field) (v : Value)
    (hp : tmps.getD p undef = .pointer (some ⟨g, 0, none⟩)) (hs : tmps.getD s undef = v) (hg : w.heap[g]? = some (.cells cs t fr))
    (hu : Tryd.prog.underlying ty = some (.struct fs)) (hi : (Tryd.prog.info? ty).map (·.size) = some cs.size) :
    (results fn tmps).run Tryd.prog w = .ok (.tuple #[.agg cs, v]) w := by
  have hp' : tmps[p]?.getD undef = .pointer (some ⟨g, 0, none⟩) := by simpa using hp
  have hs' : tmps[s]?.getD undef = v := by simpa using hs
  simp [results, h, hp', hs', asAddr, run_loadVar_row w g t ty cs fr (.struct fs) hg hu rfl hi]
/-- Stores into the midst of an array. -/
theorem Arr4.set4 {w : World} {g : Nat} {t : TypeId} {vs : List Value} (h : Arr4 w g t vs) (a b c d : Value) : Arr4 (w.setCells g 0 [a, b, c, d]) g t ((((vs.set 0 a).set 1 b).set 2 c).set 3 d) := by
  show Arr4 ((((w.setCell ⟨g, 0, none⟩ a).setCell ⟨g, 1, none⟩ b).setCell ⟨g, 2, none⟩ c).setCell ⟨g, 3, none⟩ d) g t _
  exact (((h.set 0 a).set 1 b).set 2 c).set 3 d
end Go.Proofs.YthmnaljncapmeabDoor
namespace Go.Proofs.YthmnaljncapmeabDoor
open Go.RowKit Wo Pu Rf Lk Sh

theorem ask_take {rs : List Rec} {k : Nat} (h : k < rs.length) (t : Int) : Sh.ask (rs.take (k + 1)) t = if rs[k].t = t then rs[k].k else Sh.ask (rs.take k) t := by
  rw [List.take_succ_eq_append_getElem h, ask_snoc]
/-- None of the first k is a vote for t. -/
def NoV (rs : List Rec) (t : Int) (k : Nat) : Prop := ∀ j (h : j < rs.length), j < k → ¬ (rs[j].t = t ∧ rs[j].k = 1)
theorem NoV.zero (rs : List Rec) (t : Int) : NoV rs t 0 := fun _ _ h => absurd h (Nat.not_lt_zero _)
theorem NoV.next {rs : List Rec} {t : Int} {k : Nat} (h : NoV rs t k) (hk : k < rs.length) (e : ¬ (rs[k].t = t ∧ rs[k].k = 1)) : NoV rs t (k + 1) := fun j hj hl => by
  by_cases e2 : j = k
  · subst e2; exact e
  · exact h j hj (by omega)
theorem NoV.upd {rs : List Rec} {t : Int} : ∀ {k : Nat}, NoV rs t k → (hk : k < rs.length) → rs[k].t = t ∧ rs[k].k = 1 → Sh.upd rs t = rs[k].us := by
  induction rs with
  | nil => intro k _ hk; simp at hk
  | cons a rs ih =>
    intro k h hk e
    cases k with
    | zero => show (if a.t = t ∧ a.k = 1 then a.us else _) = _; rw [if_pos (show a.t = t ∧ a.k = 1 from e)]; rfl
    | succ k =>
      show (if a.t = t ∧ a.k = 1 then a.us else Sh.upd rs t) = _
      rw [if_neg (show ¬ (a.t = t ∧ a.k = 1) from h 0 (by simp) (by omega))]
      exact ih (fun j hj hl => h (j + 1) (by simpa using hj) (by omega)) (by simpa using hk) e
theorem NoV.none {rs : List Rec} {t : Int} (h : NoV rs t rs.length) : Sh.upd rs t = [] := by
  induction rs with
  | nil => rfl
  | cons a rs ih =>
    show (if a.t = t ∧ a.k = 1 then a.us else Sh.upd rs t) = _
    rw [if_neg (show ¬ (a.t = t ∧ a.k = 1) from h 0 (by simp) (by simp))]
    exact ih fun j hj hl => h (j + 1) (by simpa using hj) (by simpa using hl)
set_option maxHeartbeats 2000000 in
theorem l21Ask_is (z : Int) (A : Option Addr) (c : Nat) (rs : List Rec) (t : Int) (w : World) (B : Nat) (h : Recs w B A rs) (hn : rs.length ≤ 1048600) (hz : Sh.ask rs t = z) :
    Calls Tryd.prog 64 #[.slice A rs.length c, .int .i64 t] w (Same (.int .i64 z) w) := by
  have HZ := hid hz
  clear hz
  go_enter Tryd.func64, Tryd.ntmps64
  go_wp2_with fail
  go_loop [5, 6] (fun s i => ∃ k : Nat, k ≤ rs.length ∧ i = .int .i64 k ∧ s = .int .i64 (Sh.ask (rs.take k) t)) (fun _ i => rs.length - (intOf i).toNat)
  case atStart => exact ⟨0, Nat.zero_le _, rfl, rfl⟩
  case round =>
    obtain ⟨k, hk, rfl, rfl⟩ := hrel
    obtain ⟨y, hy⟩ : ∃ y, Sh.ask (rs.take k) t = y := ⟨_, rfl⟩
    rw [hy]
    have HY := hid hy
    clear hy
    by_cases hlt : k < rs.length
    · obtain ⟨r, ad, A', c', ho, rfl, ha, g0, g1, g2, -, -⟩ := h.rec hlt
      have q0 : (0 : Int) ≤ (k : Int) := by omega
      have q1 : (k : Int) < (rs.length : Int) := by omega
      by_cases he : r.t = t
      · have e0 : (r.t == t) = true := by rw [beq_iff_eq]; exact he
        have HN : Hid (Sh.ask (rs.take (k + 1)) t = r.k) := by show _ = _; rw [ask_take hlt, ho, if_pos he]
        clear ho he HY
        go_wp2
        go_round
        case rel => exact ⟨k + 1, by omega, by go_num, by rw [HN.out]⟩
        case measure => simp [intOf]; omega
      · have e0 : (r.t == t) = false := by rw [beq_eq_false_iff_ne]; exact he
        have HN : Hid (Sh.ask (rs.take (k + 1)) t = y) := by show _ = _; rw [ask_take hlt, ho, if_neg he, HY.out]
        clear ho he HY
        go_wp2
        go_round
        case rel => exact ⟨k + 1, by omega, by go_num, by rw [HN.out]⟩
        case measure => simp [intOf]; omega
    · have hk' : k = rs.length := by omega
      subst hk'
      have F : Hid (y = z) := by
        show y = z
        rw [← HY.out, List.take_length, HZ.out]
      clear HY
      go_wp2
      go_ret
      rw [F.out]
      exact ⟨rfl, rfl⟩
/-- Behind it: updates to be read. -/
def ShownU (us : List Up) (w : World) (e : Ending) (w' : World) : Prop := ∃ A c, e = .returned (.slice A us.length c) ∧ us.length ≤ c ∧ Row w' w'.heap.size A (upsV us) ∧ Below w.heap.size w w'
set_option maxHeartbeats 2000000 in
theorem l21Updates_any (us : List Up) (A : Option Addr) (c : Nat) (rs : List Rec) (t : Int) (w : World) (h : Recs w w.heap.size A rs) (hn : rs.length ≤ 1048600) (hu : Sh.upd rs t = us) :
    Calls Tryd.prog 99 #[.slice A rs.length c, .int .i64 t] w (ShownU us w) := by
  have HU := hid hu
  clear hu
  go_enter Tryd.func99, Tryd.ntmps99
  go_wp2_with fail
  go_loop [5] (fun i => ∃ k : Nat, k ≤ rs.length ∧ i = .int .i64 k ∧ Hid (NoV rs t k)) (fun i => rs.length - (intOf i).toNat)
  case atStart => exact ⟨0, Nat.zero_le _, rfl, NoV.zero _ _⟩
  case round =>
    obtain ⟨k, hk, rfl, H⟩ := hrel
    by_cases hlt : k < rs.length
    · obtain ⟨r, ad, A', c', ho, rfl, ha, g0, g1, g2, g3, g4⟩ := h.rec hlt
      have q0 : (0 : Int) ≤ (k : Int) := by omega
      have q1 : (k : Int) < (rs.length : Int) := by omega
      by_cases he : r.t = t
      · have e0 : (r.t == t) = true := by rw [beq_iff_eq]; exact he
        by_cases hk1 : r.k = 1
        · have e1 : (r.k == 1) = true := by rw [beq_iff_eq]; exact hk1
          have F : Hid (r.us = us) := by
            show _ = _
            have := H.out.upd hlt (by rw [ho]; exact ⟨he, hk1⟩)
            rw [HU.out, ho] at this
            exact this.symm
          clear H he hk1 ho
          go_wp2
          go_ret
          rw [← F.out]
          exact ⟨A', c', rfl, g3, g4, Below.refl _ _⟩
        · have e1 : (r.k == 1) = false := by rw [beq_eq_false_iff_ne]; exact hk1
          have HN := hid (H.out.next hlt (by rw [ho]; exact fun e => hk1 e.2))
          clear H he hk1 ho
          go_wp2
          go_round
          case rel => exact ⟨k + 1, by omega, by go_num, HN⟩
          case measure => simp [intOf]; omega
      · have e0 : (r.t == t) = false := by rw [beq_eq_false_iff_ne]; exact he
        have HN := hid (H.out.next hlt (by rw [ho]; exact fun e => he e.1))
        clear H he ho
        go_wp2
        go_round
        case rel => exact ⟨k + 1, by omega, by go_num, HN⟩
        case measure => simp [intOf]; omega
    · have hk' : k = rs.length := by omega
      subst hk'
      have F : Hid (us = []) := by
        show us = []
        rw [← HU.out]
        exact H.out.none
      clear H
      have al := (Below.refl w.heap.size w).alloc (Nat.le_refl _) (.cells #[] 97)
      go_wp2
      go_ret
      rw [F.out]
      exact ⟨_, _, rfl, Nat.le_refl _, .inl rfl, al⟩
end Go.Proofs.YthmnaljncapmeabDoor
namespace Go.Proofs.YthmnaljncapmeabDoor
open Go.RowKit Wo Pu Rf Lk Sh

/-- Two lists do not lie in one block. -/
def AptI (v u : Value) : Prop := ∀ g, v.ownBlock = some g → u.ownBlock ≠ some g
theorem AptI.symm {v u : Value} (h : AptI v u) : AptI u v := fun g h1 h2 => h g h2 h1
theorem OwnI.keep_ {w w' : World} {B : Nat} {v u : Value} {zs : List Int} (h : OwnI w B v zs) (hg : w.grownBy w' u.ownBlock) (ha : AptI v u) : OwnI w' B v zs :=
  World.ownsRow.kept h hg (by
    rcases hv : v.ownBlock with _ | k
    · exact .inl rfl
    · exact .inr (fun e => ha k hv e.symm))
theorem OwnI.keptT {w w' : World} {B : Nat} {v : Value} {zs : List Int} {T : TypeId} {row : Option Nat} (h : OwnI w B v zs) (t2 : 3 ≠ T) (hg : w.grownBy w' row) (hr : ∀ g, row = some g → ∃ cur fr, w.heap[g]? = some (.cells cur T fr)) : OwnI w' B v zs := row_far_type h t2 hg hr
theorem AptI.new_ {w : World} {B g n c : Nat} {v u : Value} {zs : List Int} (h : AptI u v) (hu : OwnI w B u zs) (hat : v.ownBlock = some g ∨ w.heap.size ≤ g) : AptI u (.slice (some ⟨g, 0, none⟩) n c) := fun q h1 h2 => by
  have h2' : some g = some q := h2
  injection h2' with h2'
  subst h2'
  rcases hat with e | e
  · exact h g h1 e
  · have := (World.ownsRow.lt hu g h1).2; omega
/-- k times none. -/
def nones (k : Nat) : List Int := List.replicate k (-1)
theorem nones_succ (k : Nat) : nones (k + 1) = nones k ++ [-1] := by unfold nones; rw [List.replicate_succ']
theorem nones_length (k : Nat) : (nones k).length = k := List.length_replicate
/-- The state so far: the result at r, the state at g. -/
def BegE (w : World) (r g k j : Nat) (v u : Value) (wr : World) : Prop :=
  Blk2s wr r 30 (.slice none 0 0) (.slice none 0 0) ∧ Blk2s wr g 30 v u ∧ (w.heap.size ≤ r ∧ r ≠ g ∧ w.heap.size ≤ g) ∧ OwnI wr w.heap.size v (nones k) ∧ OwnI wr w.heap.size u (nones j) ∧ AptI v u ∧ Below w.heap.size w wr
section
variable {w wr w7 : World} {r g k j gg cap : Nat} {v u : Value}
theorem BegE.grow (h : BegE w r g k j v u wr) (hg : (wr.alloc (.cells #[.int .i64 (-1)] 3)).grownBy w7 v.ownBlock) :
    Blk2s w7 r 30 (.slice none 0 0) (.slice none 0 0) ∧ Blk2s w7 g 30 v u ∧ OwnI w7 w.heap.size u (nones j) ∧ Below w.heap.size w w7 := by
  obtain ⟨h1, h2, ⟨i1, i2, i3⟩, h4, h5, h6, h7⟩ := h
  have al := (Below.refl wr.heap.size wr).alloc (Nat.le_refl _) (.cells #[.int .i64 (-1)] 3)
  have z := h7.size
  have a1 := h1.alloc (.cells #[.int .i64 (-1)] 3)
  have a2 := h2.alloc (.cells #[.int .i64 (-1)] 3)
  have r4 : (wr.alloc (.cells #[.int .i64 (-1)] 3)).ownsRow w.heap.size 3 1 v (nones k).length (ints (nones k)) := World.ownsRow.alloc h4 _
  exact ⟨a1.grown hg (blk_ne_row a1 r4 (by decide)), a2.grown hg (blk_ne_row a2 r4 (by decide)), OwnI.keep_ (World.ownsRow.alloc h5 _) hg h6.symm, (h7.alloc z _).grown hg (by simp; omega) (fun q hq => (World.ownsRow.lt r4 q hq).1)⟩
theorem BegE.add0 (h : BegE w r g k j v u wr) (hown : w7.ownsRow w.heap.size 3 1 (.slice (some ⟨gg, 0, none⟩) (k + 1) cap) (k + 1) (ints (nones k) ++ [.int .i64 (-1)]))
    (hg : (wr.alloc (.cells #[.int .i64 (-1)] 3)).grownBy w7 v.ownBlock) (hat : v.ownBlock = some gg ∨ gg = wr.heap.size + 1) :
    (w7.cell? ⟨g, 0, none⟩ = some v ∧ w7.frozen? ⟨g, 0, none⟩ = false) ∧ BegE w r g (k + 1) j (.slice (some ⟨gg, 0, none⟩) (k + 1) cap) u (w7.setCell ⟨g, 0, none⟩ (.slice (some ⟨gg, 0, none⟩) (k + 1) cap)) := by
  obtain ⟨k1, k2, k3, k4⟩ := h.grow hg
  obtain ⟨h1, h2, ⟨i1, i2, i3⟩, h4, h5, h6, h7⟩ := h
  have o1 : OwnI w7 w.heap.size (.slice (some ⟨gg, 0, none⟩) (k + 1) cap) (nones (k + 1)) := by
    rw [nones_succ]
    refine OwnI.app ?_
    rw [nones_length]
    exact hown
  refine ⟨⟨k2.reads.1, k2.reads.2.2 0⟩, k1.far i2 _, k2.set0 _, ⟨i1, i2, i3⟩, o1.keptT (by decide) (but_set w7 g 0 _) (blk_type k2), k3.keptT (by decide) (but_set w7 g 0 _) (blk_type k2), ?_, k4.setCell (p := ⟨g, 0, none⟩) i3 _⟩
  exact (AptI.new_ h6.symm h5 (hat.imp id fun e => by omega)).symm
theorem BegE.swap (h : BegE w r g k j v u wr) : OwnI wr w.heap.size u (nones j) ∧ AptI u v := ⟨h.2.2.2.2.1, h.2.2.2.2.2.1.symm⟩
theorem BegE.add1 (h : BegE w r g k j v u wr) (hown : w7.ownsRow w.heap.size 3 1 (.slice (some ⟨gg, 0, none⟩) (j + 1) cap) (j + 1) (ints (nones j) ++ [.int .i64 (-1)]))
    (hg : (wr.alloc (.cells #[.int .i64 (-1)] 3)).grownBy w7 u.ownBlock) (hat : u.ownBlock = some gg ∨ gg = wr.heap.size + 1) :
    (w7.cell? ⟨g, 1, none⟩ = some u ∧ w7.frozen? ⟨g, 1, none⟩ = false) ∧ BegE w r g k (j + 1) v (.slice (some ⟨gg, 0, none⟩) (j + 1) cap) (w7.setCell ⟨g, 1, none⟩ (.slice (some ⟨gg, 0, none⟩) (j + 1) cap)) := by
  obtain ⟨h1, h2, ⟨i1, i2, i3⟩, h4, h5, h6, h7⟩ := h
  have z := h7.size
  have a1 := h1.alloc (.cells #[.int .i64 (-1)] 3)
  have a2 := h2.alloc (.cells #[.int .i64 (-1)] 3)
  have r4 : (wr.alloc (.cells #[.int .i64 (-1)] 3)).ownsRow w.heap.size 3 1 u (nones j).length (ints (nones j)) := World.ownsRow.alloc h5 _
  have k1 := a1.grown hg (blk_ne_row a1 r4 (by decide))
  have k2 := a2.grown hg (blk_ne_row a2 r4 (by decide))
  have k3 : OwnI w7 w.heap.size v (nones k) := OwnI.keep_ (World.ownsRow.alloc h4 _) hg h6
  have k4 : Below w.heap.size w w7 := (h7.alloc z _).grown hg (by simp; omega) (fun q hq => (World.ownsRow.lt r4 q hq).1)
  have o1 : OwnI w7 w.heap.size (.slice (some ⟨gg, 0, none⟩) (j + 1) cap) (nones (j + 1)) := by
    rw [nones_succ]
    refine OwnI.app ?_
    rw [nones_length]
    exact hown
  exact ⟨⟨k2.reads.2.1, k2.reads.2.2 1⟩, k1.far i2 _, k2.set1 _, ⟨i1, i2, i3⟩, k3.keptT (by decide) (but_set w7 g 1 _) (blk_type k2), o1.keptT (by decide) (but_set w7 g 1 _) (blk_type k2), AptI.new_ h6 h4 (hat.imp id fun e => by omega), k4.setCell (p := ⟨g, 1, none⟩) i3 _⟩
theorem BegE.size (h : BegE w r g k j v u wr) : w.heap.size ≤ wr.heap.size := h.2.2.2.2.2.2.size
theorem BegE.row0 (h : BegE w r g k j v u wr) : wr.ownsRow w.heap.size 3 1 v k (ints (nones k)) := by
  have := h.2.2.2.1
  unfold OwnI at this
  rwa [nones_length] at this
theorem BegE.row1 (h : BegE w r g k j v u wr) : wr.ownsRow w.heap.size 3 1 u j (ints (nones j)) := by
  have := h.2.2.2.2.1
  unfold OwnI at this
  rwa [nones_length] at this
end
theorem one_after (w : World) (p : Addr) (u x : Value) (t : TypeId) : ∀ j y, [x][j]? = some y → ((w.setCell p u).alloc (.cells #[x] t)).cell? ((⟨w.heap.size, 0, none⟩ : Addr).add j) = some y := by
  have h := cell_one_new (w.setCell p u) x t
  have e : (w.setCell p u).heap.size = w.heap.size := by simp [World.setCell]
  rwa [e] at h
set_option maxRecDepth 100000 in
set_option maxHeartbeats 4000000 in
theorem l21Begin_any (w : World) : Calls Tryd.prog 80 #[] w (NewSt ⟨[-1, -1, -1, -1], [-1, -1, -1, -1]⟩ w) := by
  obtain ⟨i0, hi, hz0, hz1, hz2⟩ := info_of info_int
  have x0 := (Blk2s.new_ w 30 (.slice none 0 0) (.slice none 0 0)).alloc (.cells #[.slice none 0 0, .slice none 0 0] 30)
  have x1 := Blk2s.new_ (w.alloc (.cells #[.slice none 0 0, .slice none 0 0] 30)) 30 (.slice none 0 0) (.slice none 0 0)
  have b1 := ((Below.refl w.heap.size w).alloc (Nat.le_refl _) (.cells #[.slice none 0 0, .slice none 0 0] 30)).alloc (by simp) (.cells #[.slice none 0 0, .slice none 0 0] 30)
  rw [World.size_alloc] at x1
  have E0 : BegE w w.heap.size (w.heap.size + 1) 0 0 (.slice none 0 0) (.slice none 0 0) _ := ⟨x0, x1, ⟨Nat.le_refl _, by omega, Nat.le_succ _⟩, ⟨rfl, .inl ⟨rfl, rfl⟩⟩, ⟨rfl, .inl ⟨rfl, rfl⟩⟩, fun g h => (by cases h), b1⟩
  clear x0 x1 b1
  go_enter Tryd.func80, Tryd.ntmps80
  go_wp2_with fail
  go_loopw [2] (fun i wr => ∃ (k : Nat) (v u : Value), k ≤ 4 ∧ i = .int .i64 k ∧ BegE w w.heap.size (w.heap.size + 1) k k v u wr) (fun i _ => 4 - (intOf i).toNat)
  case atStart => exact ⟨0, _, _, Nat.zero_le _, rfl, E0⟩
  case round =>
    clear E0
    obtain ⟨k, v, u, hk, rfl, E⟩ := hrel
    obtain ⟨y0, y1, -⟩ := id E.2.1.reads
    have hz := E.size
    by_cases hlt : k < 4
    · have q1 : (k : Int) < 4 := by omega
      go_wp2_with (first
        | (at_builtin; refine wpList_append_lies _ rfl _ _ 28 rfl w.heap.size 3 i0 (.int .i64 0) 1 8 Tryd.underlying28 hi hz0 hz1 hz2 rfl (by decide) _ k _ rfl (World.ownsRow.alloc E.row0 _) ⟨wr.heap.size, 0, none⟩ 1 1 [.int .i64 (-1)] rfl rfl (cell_one_new _ _ _) (one_int _) (by omega) (by unfold maxLen; omega) (by omega) (by simp; omega) (wr.heap.size + 1) (by simp) ?_; intro gg cap w7 hown hg hat hlt7; have EE := E.add0 hown hg hat; obtain ⟨⟨t0, tf⟩, E7⟩ := EE; obtain ⟨s0, s1, -⟩ := id E7.2.1.reads; have z7 := E7.size)
        | (at_builtin; go_loud (refine wpList_append_lies _ rfl _ _ 28 rfl w.heap.size 3 i0 (.int .i64 0) 1 8 Tryd.underlying28 hi hz0 hz1 hz2 rfl (by decide) _ k _ rfl (World.ownsRow.alloc E7.row1 _) ⟨w7.heap.size, 0, none⟩ 1 1 [.int .i64 (-1)] rfl rfl (one_after _ _ _ _ _) (one_int _) (by omega) (by unfold maxLen; omega) (by omega) (by simp at z7 ⊢; omega) (w7.heap.size + 1) (by simp) ?_; intro gg2 cap2 w8 hown2 hg2 hat2 hlt8; have EE2 := E7.add1 hown2 hg2 (hat2.imp id (fun e => by simpa using e)); obtain ⟨⟨t2, tf2⟩, E8⟩ := EE2)))
      go_roundw
      case rel => exact ⟨k + 1, _, _, by omega, by go_num, E8⟩
      case measure => simp [intOf]; omega
    · have hk' : k = 4 := by omega
      subst hk'
      obtain ⟨E1, E2, E3, E4, E5, E6, E7⟩ := E
      obtain ⟨A, c, e4, r4, hc⟩ := E4.form
      obtain ⟨A2, c2, e5, r5, hc2⟩ := E5.form
      rw [nones_length] at e4 hc e5 hc2
      subst e4 e5
      obtain ⟨t0, t1, tf⟩ := id E1.reads
      have tf0 := tf 0
      have tf1 := tf 1
      have o1 := (E4.keptT (by decide) (but_set wr w.heap.size 0 (.slice A 4 c)) (blk_type E1)).keptT (by decide) (but_set _ w.heap.size 1 (.slice A2 4 c2)) (blk_type (E1.set0 _))
      have o2 := (E5.keptT (by decide) (but_set wr w.heap.size 0 (.slice A 4 c)) (blk_type E1)).keptT (by decide) (but_set _ w.heap.size 1 (.slice A2 4 c2)) (blk_type (E1.set0 _))
      have b7 := (E7.setCell (p := ⟨w.heap.size, 0, none⟩) (Nat.le_refl _) (.slice A 4 c)).setCell (p := ⟨w.heap.size, 1, none⟩) (Nat.le_refl _) (.slice A2 4 c2)
      obtain ⟨p0, p1, -⟩ := ((E1.set0 (.slice A 4 c)).set1 (.slice A2 4 c2)).reads
      obtain ⟨A', c', e, r6, -⟩ := o1.form
      obtain ⟨A2', c2', e2, r7, -⟩ := o2.form
      injection e with e q1 q2
      injection e2 with e2 q3 q4
      clear q1 q2 q3 q4
      subst e e2
      have H6 := hid r6
      have H7 := hid r7
      clear o1 o2 r4 r5 r6 r7 E2 E3 E4 E5 E6 E7
      go_wp2
      refine bodyPost_ret (v := .agg #[.slice A 4 c, .slice A2 4 c2]) (by simp [results, Tryd.results80, go_sem, p0, p1]) rfl ⟨_, rfl, ⟨A, c, A2, c2, rfl, H6.out, hc, H7.out, hc2⟩, b7⟩
end Go.Proofs.YthmnaljncapmeabDoor
namespace Go.Proofs.YthmnaljncapmeabDoor
open Go.RowKit Wo Pu Rf Lk Sh

/-- Behind it: the ledger of no records. -/
def NewLed (w : World) (e : Ending) (w' : World) : Prop := ∃ cs, e = .returned (.agg cs.toArray) ∧ LdV w' w.heap.size cs [] ⟨[-1, -1, -1, -1], [-1, -1, -1, -1]⟩ ∧ Below w.heap.size w w'
theorem Arr4.grown {w w' : World} {g : Nat} {t : TypeId} {vs : List Value} {row : Option Nat} (h : Arr4 w g t vs) (hg : w.grownBy w' row) (hr : some g ≠ row) : Arr4 w' g t vs := (hg.block g h.lt hr).trans h
theorem but_setRow (w : World) (R : Nat) (cs : Array Value) : But R w (w.setRow R cs) := ⟨rfl, rfl, rfl, by simp, fun k _ hne => setRow_other w R k cs (fun e => hne (by rw [e]))⟩
/-- The first k refs without an id. -/
def noRefs (k : Nat) : List Int := List.replicate k (-1) ++ List.replicate (4 - k) 0
theorem noRefs_length {k : Nat} (h : k ≤ 4) : (noRefs k).length = 4 := by simp [noRefs]; omega
theorem noRefs_set {k : Nat} (h : k < 4) : (noRefs k).set k (-1) = noRefs (k + 1) := by
  have key : k = 0 ∨ k = 1 ∨ k = 2 ∨ k = 3 := by omega
  rcases key with rfl | rfl | rfl | rfl <;> rfl
def zst : List Int := [0, 0, 0, 0, 0, 0, 0, 0, 0, 0, 0, 0]
def zus : List Value := List.replicate 12 (.slice none 0 0)
set_option maxRecDepth 100000 in
set_option maxHeartbeats 4000000 in
theorem newLedger_is (w : World) : Calls Tryd.prog 77 #[] w (NewLed w) := by
  obtain ⟨i0, hi, hz0, hz1, hz2⟩ := info_of info_int
  have a0 := Arr4.new_ w 75 led0
  have a1 := Arr4.new_ (w.alloc (.cells led0.toArray 75)) 75 led0
  have a01 := a0.alloc (.cells led0.toArray 75)
  have b1 := ((Below.refl w.heap.size w).alloc (Nat.le_refl _) (.cells led0.toArray 75)).alloc (by simp) (.cells led0.toArray 75)
  rw [World.size_alloc] at a1
  go_enter Tryd.func77, Tryd.ntmps77
  go_wp2_with fail
  go_loopw [2, 3] (fun _ i wr => ∃ (k : Nat) (A : Option Addr) (c : Nat), k ≤ 4 ∧ i = .int .i64 k ∧ Arr4 wr (w.heap.size + 1) 75 (ledC (noRefs k) (.slice A k c) zst zus) ∧ Arr4 wr w.heap.size 75 led0 ∧ OwnI wr w.heap.size (.slice A k c) (nones k) ∧ Below w.heap.size w wr) (fun _ i _ => 4 - (intOf i).toNat)
  case atStart => exact ⟨0, none, 0, Nat.zero_le _, rfl, a1, a01, ⟨rfl, .inl ⟨rfl, rfl⟩⟩, b1⟩
  case round =>
    clear a0 a1 a01 b1
    obtain ⟨k, A, c, hk, rfl, a, a0, o, hb⟩ := hrel
    have hz := hb.size
    have hl := noRefs_length hk
    by_cases hlt : k < 4
    · have q0 : (0 : Int) ≤ (k : Int) := by omega
      have q1 : (k : Int) < 4 := by omega
      obtain ⟨u0, y0⟩ : ∃ v, wr.cell? ⟨w.heap.size + 1, k, none⟩ = some v := ⟨_, a.read (i := k) (by rw [ledC_length hl rfl rfl]; omega)⟩
      have f0 := a.frozen k
      have a5 := a.set k (.int .i64 (-1))
      rw [ledC_set_ref hl hlt, noRefs_set hlt] at a5
      have o5 := o.keptT (by decide) (but_set wr (w.heap.size + 1) k (.int .i64 (-1))) (blk_type a)
      have a05 := a0.far (p := ⟨w.heap.size + 1, k, none⟩) (by show w.heap.size ≠ w.heap.size + 1; omega) (.int .i64 (-1))
      have b5 := hb.setCell (p := ⟨w.heap.size + 1, k, none⟩) (Nat.le_succ _) (.int .i64 (-1))
      obtain ⟨W, hW⟩ : ∃ x, wr.setCell ⟨w.heap.size + 1, k, none⟩ (.int .i64 (-1)) = x := ⟨_, rfl⟩
      have zW : W.heap.size = wr.heap.size := by rw [← hW]; simp [World.setCell]
      rw [hW] at a5 o5 a05 b5
      have hl5 := noRefs_length (k := k + 1) (by omega)
      have y4 : W.cell? ⟨w.heap.size + 1, 4, none⟩ = some (.slice A k c) := by
        have := a5.read (i := 4) (by rw [ledC_length hl5 rfl rfl]; omega)
        rw [this, ← List.getElem?_eq_getElem, ledC_locks hl5]
      have a6 := a5.alloc (.cells #[.int .i64 (-1)] 3)
      have a06 := a05.alloc (.cells #[.int .i64 (-1)] 3)
      have b6 := b5.alloc b5.size (.cells #[.int .i64 (-1)] 3)
      have o6 := o5.below ((Below.refl W.heap.size W).alloc (Nat.le_refl _) (.cells #[.int .i64 (-1)] 3)) (Nat.le_refl _)
      have r6 : (W.alloc (.cells #[.int .i64 (-1)] 3)).ownsRow w.heap.size 3 1 (.slice A k c) k (ints (nones k)) := by
        unfold OwnI at o6
        rwa [nones_length] at o6
      have HZ := hid zW
      have HL5 := hid hl5
      have fit : ∀ (w7 : World) (v7 : Value), w7.ownsRow w.heap.size 3 1 v7 (k + 1) (ints (nones k) ++ [.int .i64 (-1)]) → (W.alloc (.cells #[.int .i64 (-1)] 3)).grownBy w7 (Value.slice A k c).ownBlock →
          ∃ A' c', v7 = .slice A' (k + 1) c' ∧ (∃ v, w7.cell? ⟨w.heap.size + 1, 4, none⟩ = some v) ∧ w7.frozen? ⟨w.heap.size + 1, 4, none⟩ = false ∧ Arr4 (w7.setCell ⟨w.heap.size + 1, 4, none⟩ (.slice A' (k + 1) c')) (w.heap.size + 1) 75 (ledC (noRefs (k + 1)) (.slice A' (k + 1) c') zst zus) ∧
            Arr4 (w7.setCell ⟨w.heap.size + 1, 4, none⟩ (.slice A' (k + 1) c')) w.heap.size 75 led0 ∧ OwnI (w7.setCell ⟨w.heap.size + 1, 4, none⟩ (.slice A' (k + 1) c')) w.heap.size (.slice A' (k + 1) c') (nones (k + 1)) ∧ Below w.heap.size w (w7.setCell ⟨w.heap.size + 1, 4, none⟩ (.slice A' (k + 1) c')) := by
        intro w7 v7 hown hg
        have a7 := a6.grown hg (blk_ne_row a6 r6 (by decide))
        have a07 := a06.grown hg (blk_ne_row a06 r6 (by decide))
        have o7 : OwnI w7 w.heap.size v7 (nones k ++ [-1]) := by
          refine OwnI.app ?_
          rw [nones_length]
          exact hown
        rw [← nones_succ] at o7
        obtain ⟨A', c', rfl, -, -⟩ := id o7.form
        rw [nones_length] at o7 ⊢
        have b7 := b6.grown hg b6.size fun j hj => (World.ownsRow.lt r6 j hj).1
        refine ⟨A', c', rfl, ⟨_, a7.read (i := 4) (by rw [ledC_length HL5.out rfl rfl]; omega)⟩, a7.frozen 4, ?_, a07.far (by show w.heap.size ≠ w.heap.size + 1; omega) _, o7.keptT (by decide) (but_set w7 (w.heap.size + 1) 4 _) (blk_type a7), b7.setCell (Nat.le_succ _) _⟩
        have := a7.set 4 (.slice A' (k + 1) c')
        rwa [ledC_set_locks HL5.out] at this
      have F := hid fit
      have z6 : w.heap.size ≤ (W.alloc (.cells #[.int .i64 (-1)] 3)).heap.size := b6.size
      clear a a0 o hb a5 a05 o5 b5 o6 fit a6 a06 b6 zW hl5 hl
      go_wp2_with (at_builtin; go_must (refine wpList_append_row _ rfl _ _ 28 rfl w.heap.size 3 i0 (.int .i64 0) 1 8 Tryd.underlying28 hi hz0 hz1 hz2 rfl (by decide) _ k _ rfl r6 (W.heap.size + 1) (some ⟨W.heap.size, 0, none⟩) 1 1 [.int .i64 (-1)] rfl (.inr ⟨_, rfl, Nat.lt_succ_self _, cell_one_new _ _ _⟩) rfl (one_int _) (by unfold maxLen; omega) (by omega) z6 ?_); intro v7 w7 hown hg; obtain ⟨A7, c7, rfl, ⟨v4, t4⟩, f4, a8, a08, o8, b8⟩ := F.out _ _ hown hg)
      go_roundw
      case rel => exact ⟨k + 1, A7, c7, by omega, by go_num, a8, a08, o8, b8⟩
      case measure => simp [intOf]; omega
    · have hk' : k = 4 := by omega
      subst hk'
      have hs : wr.heap[w.heap.size]? = some (.cells led0.toArray 75 (0, 0)) := a0
      have hL := hid (Led.mk_ (L := .slice A 4 c) (us := zus) hl (st := zst) rfl rfl rfl (fun u hu => by unfold zus at hu; rw [List.mem_replicate] at hu; rw [hu.2]; rfl))
      obtain ⟨cs, hcs⟩ : ∃ cs, ledC (noRefs 4) (.slice A 4 c) zst zus = cs := ⟨_, rfl⟩
      rw [hcs] at a hL
      have HC := hid hcs
      clear hcs
      have hld : wr.heap[w.heap.size + 1]? = some (.cells cs.toArray 75 (0, 0)) := a
      go_wp2_with (first
        | (refine wpList_load_row rfl 75 _ rfl (w.heap.size + 1) rfl 75 cs.toArray (0, 0) _ hld Tryd.underlying75 rfl hL.out.info ?_)
        | (refine wpList_store_rowTo rfl 75 _ _ rfl rfl w.heap.size cs.toArray rfl rfl 75 led0.toArray hs hL.out.info (led0_led.size.trans hL.out.size.symm) hL.out.2 ?_))
      have h2 : (wr.setRow w.heap.size cs.toArray).heap[w.heap.size]? = some (.cells cs.toArray 75 (0, 0)) := setRow_heap wr _ _ _ _ _ hs
      have b9 := below_setRow hb (Nat.le_refl _) cs.toArray
      refine bodyPost_ret (v := .agg cs.toArray) (results_cell_row (p := 0) (by kernel_rfl) _ _ w.heap.size 75 _ (0, 0) _ rfl h2 Tryd.underlying75 rfl hL.out.info) rfl ⟨cs, rfl, ?_, b9⟩
      refine ⟨A, c, zus, HC.out.symm, rfl, fun u hu => by unfold zus at hu; rw [List.mem_replicate] at hu; rw [hu.2]; rfl, ?_, fun t _ ht => absurd ht (by unfold Sh.ask; simp)⟩
      exact o.keptT (by decide) (but_setRow wr w.heap.size cs.toArray) (blk_type a0)
end Go.Proofs.YthmnaljncapmeabDoor
namespace Go.Proofs.YthmnaljncapmeabDoor
open Go.RowKit Wo Pu Rf Lk Sh

/-- Behind it: the locks of a transaction are freed, its state is told. -/
def DecO (zs : List Int) (n : Nat) (qs st : List Int) (us : List Value) (w : World) (e : Ending) (w' : World) : Prop :=
  ∃ A' c', e = .returned (.agg (ledC zs (.slice A' n c') st us).toArray) ∧ OwnI w' w.heap.size (.slice A' n c') qs ∧ Below w.heap.size w w'
set_option maxRecDepth 100000 in
set_option maxHeartbeats 4000000 in
theorem decided_is (zs st locks : List Int) (A : Option Addr) (c : Nat) (us : List Value) (m : Nat) (z : Int) (w : World) (h1 : zs.length = 4) (h2 : st.length = 12) (h3 : us.length = 12) (hu : ∀ u ∈ us, u.oneCell' = true) (hr : Row w w.heap.size A (ints locks)) (hl : LV locks) (hm : m < 12) :
    Calls Tryd.prog 102 #[.agg (ledC zs (.slice A locks.length c) st us).toArray, .int .i64 (m : Int), .int .i64 z] w (DecO zs locks.length (freeL m locks) (st.set m z) us w) := by
  obtain ⟨bb, hbb⟩ := bool_of (true = true ∧ (m : Int) ∈ locks)
  have hl4 := hl.1
  have CF : Hid (∀ x, Row x x.heap.size A (ints locks) → Calls Tryd.prog 105 #[.slice A locks.length c, .int .i64 (m : Int)] x (Took (freeL m locks) bb x)) := fun x hx =>
    implLocksFree_is true bb _ A c locks m x hx (by omega) ⟨fun _ => ⟨hl, by unfold TV; omega⟩, fun _ => rfl⟩ hbb rfl
  have hL := hid (Led.mk_ (L := .slice A locks.length c) (us := us) h1 h2 h3 rfl hu)
  have HL : Hid (∀ A' c', Led (ledC zs (.slice A' locks.length c') (st.set m z) us)) := fun A' c' => Led.mk_ h1 (by rw [List.length_set]; exact h2) h3 rfl hu
  have HS : Hid (∀ A' c', ((ledC zs (.slice A locks.length c) st us).set 4 (.slice A' locks.length c')).set (5 + m) (.int .i64 z) = ledC zs (.slice A' locks.length c') (st.set m z) us) := fun A' c' => by rw [ledC_set_locks h1, ledC_set_state h1 h2 hm]
  have HY := hid (ledC_locks (L := .slice A locks.length c) (st := st) (us := us) h1)
  obtain ⟨cs, hcs⟩ : ∃ cs, ledC zs (.slice A locks.length c) st us = cs := ⟨_, rfl⟩
  have hfl := free_length (m : Int) locks
  rw [hcs] at hL HS HY ⊢
  clear hcs hbb hl h1 h2 h3 hu hl4
  have a0 := (Arr4.new_ w 75 cs).alloc (.cells led0.toArray 75)
  have a1 := Arr4.new_ (w.alloc (.cells cs.toArray 75)) 75 led0
  have b1 := ((Below.refl w.heap.size w).alloc (Nat.le_refl _) (.cells cs.toArray 75)).alloc (by simp) (.cells led0.toArray 75)
  rw [World.size_alloc] at a1
  go_enter Tryd.func102, Tryd.ntmps102
  go_upto_region 1 with fail
  obtain ⟨W, hW⟩ : ∃ x, (w.alloc (.cells cs.toArray 75)).alloc (.cells led0.toArray 75) = x := ⟨_, rfl⟩
  change Code.wp _ _ _ _ ((w.alloc (.cells cs.toArray 75)).alloc (.cells led0.toArray 75))
  rw [hW] at a0 a1 b1 ⊢
  clear hW
  have y4 : W.cell? ⟨w.heap.size, 4, none⟩ = some (.slice A locks.length c) := by
    rw [a0.read (i := 4) (by rw [hL.out.1]; omega), ← List.getElem?_eq_getElem, HY.out]
  go_wp2_with fail
  refine (CF.out _ (row_on hr b1)).mono ?_
  rintro e w2 ⟨A2, c2, rfl, o2, d2⟩
  rw [hfl] at o2 ⊢
  have b2 := b1.trans (d2.mono b1.size)
  have q0 := a0.below d2 a0.lt
  have q1 := a1.below d2 a1.lt
  have o2' := o2.base (B' := w.heap.size) b1.size
  clear a0 a1 b1 d2 y4 CF hr o2
  have k0 : (0 : Int) ≤ (m : Int) := by omega
  have k1 : (m : Int) < 12 := by omega
  obtain ⟨v4, y4⟩ : ∃ v, w2.cell? ⟨w.heap.size, 4, none⟩ = some v := ⟨_, q0.read (i := 4) (by rw [hL.out.1]; omega)⟩
  have f4 := q0.frozen 4
  obtain ⟨L2, hL2⟩ : ∃ L2, Value.slice A2 locks.length c2 = L2 := ⟨_, rfl⟩
  have r0 := q0.set 4 L2
  have r1 := q1.far (p := ⟨w.heap.size, 4, none⟩) (by show w.heap.size + 1 ≠ w.heap.size; omega) L2
  have o3 := o2'.keptT (by decide) (but_set w2 w.heap.size 4 L2) (blk_type q0)
  have b3 := b2.setCell (p := ⟨w.heap.size, 4, none⟩) (Nat.le_refl _) L2
  obtain ⟨v5, y5⟩ : ∃ v, (w2.setCell ⟨w.heap.size, 4, none⟩ L2).cell? ⟨w.heap.size, 5 + m, none⟩ = some v := ⟨_, r0.read (i := 5 + m) (by rw [List.length_set, hL.out.1]; omega)⟩
  have f5 := r0.frozen (5 + m)
  have s0 := r0.set (5 + m) (.int .i64 z)
  have s1 := r1.far (p := ⟨w.heap.size, 5 + m, none⟩) (by show w.heap.size + 1 ≠ w.heap.size; omega) (.int .i64 z)
  have o4 := o3.keptT (by decide) (but_set _ w.heap.size (5 + m) (.int .i64 z)) (blk_type r0)
  have b4 := b3.setCell (p := ⟨w.heap.size, 5 + m, none⟩) (Nat.le_refl _) (.int .i64 z)
  subst hL2
  rw [HS.out] at s0
  have hL' := hid (HL.out A2 c2)
  obtain ⟨cs', hcs⟩ : ∃ cs', ledC zs (.slice A2 locks.length c2) (st.set m z) us = cs' := ⟨_, rfl⟩
  have HC := hid hcs
  rw [hcs] at s0 hL'
  have hld : ((w2.setCell ⟨w.heap.size, 4, none⟩ (.slice A2 locks.length c2)).setCell ⟨w.heap.size, 5 + m, none⟩ (.int .i64 z)).heap[w.heap.size]? = some (.cells cs'.toArray 75 (0, 0)) := s0
  have hs : ((w2.setCell ⟨w.heap.size, 4, none⟩ (.slice A2 locks.length c2)).setCell ⟨w.heap.size, 5 + m, none⟩ (.int .i64 z)).heap[w.heap.size + 1]? = some (.cells led0.toArray 75 (0, 0)) := s1
  clear hcs q0 q1 r0 r1 o2' o3 b2 b3
  go_wp2_with (first
    | (refine wpList_load_row rfl 75 _ rfl w.heap.size rfl 75 cs'.toArray (0, 0) _ hld Tryd.underlying75 rfl hL'.out.info ?_)
    | (refine wpList_store_rowTo rfl 75 _ _ rfl rfl (w.heap.size + 1) cs'.toArray rfl rfl 75 led0.toArray hs hL'.out.info (led0_led.size.trans hL'.out.size.symm) hL'.out.2 ?_))
  have h2 := setRow_heap _ _ _ cs'.toArray _ _ hs
  have b9 := below_setRow b4 (Nat.le_succ _) cs'.toArray
  have o9 := o4.keptT (by decide) (but_setRow _ (w.heap.size + 1) cs'.toArray) (blk_type s1)
  refine bodyPost_ret (v := .agg cs'.toArray) (results_cell_row (p := 6) (by kernel_rfl) _ _ (w.heap.size + 1) 75 _ (0, 0) _ rfl h2 Tryd.underlying75 rfl hL'.out.info) rfl ⟨A2, c2, by rw [HC.out], o9, b9⟩
end Go.Proofs.YthmnaljncapmeabDoor
