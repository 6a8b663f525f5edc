/-
  Walks: updates performed, by the model.
  Walks: RefsApply, RefsDiffer and UpdatesCross of the model.
  Walks: RefsDiffer and UpdatesCross of the model.
  Walk: UpdatesCross of the model.
  Walks: drawn refs and updates.
-/
import Derived.Test.YtelmeknpmlbplaaRefU
namespace Go.Proofs.Ytelmeknpmlbplaa
open Go.RowKit Wo Pu Rf

/-- The refs of the updates are refs. -/
def Refs4 (us : List Up) : Prop := ∀ u ∈ us, 0 ≤ u.r ∧ u.r ≤ 3
theorem refs4_of {us : List Up} (h : UV us) : Refs4 us := fun u hu => (h.2.mem u hu).2.1
def FitTo (zs : List Int) (us : List Up) (k : Nat) : Prop := ∀ j (h : j < us.length), j < k → fit1 zs us[j]
theorem FitTo.zero (zs : List Int) (us : List Up) : FitTo zs us 0 := fun _ _ h => absurd h (Nat.not_lt_zero _)
theorem FitTo.next {zs : List Int} {us : List Up} {k : Nat} (h : FitTo zs us k) (hk : k < us.length) (ho : fit1 zs us[k]) : FitTo zs us (k + 1) := fun j hj hl => by
  by_cases e : j = k
  · subst e; exact ho
  · exact h j hj (by omega)
theorem FitTo.all {zs : List Int} {us : List Up} (h : FitTo zs us us.length) : Fits zs us := fun u hu => by
  obtain ⟨j, hj, rfl⟩ := List.getElem_of_mem hu
  exact h j hj hj
theorem setR_take {zs : List Int} {us : List Up} {k : Nat} (hk : k < us.length) : setR zs (us.take (k + 1)) = (setR zs (us.take k)).set us[k].r.toNat us[k].n := by
  rw [List.take_succ_eq_append_getElem hk, setR_snoc]
theorem ints_set (zs : List Int) (m : Nat) (x : Int) : (ints zs).set m (.int .i64 x) = ints (zs.set m x) := by unfold ints; rw [List.map_set]
/-- Integers stored into. -/
theorem OwnI.set {w : World} {B g c : Nat} {zs : List Int} (h : OwnI w B (.slice (some ⟨g, 0, none⟩) zs.length c) zs) (m : Nat) (x : Int) : OwnI (w.setCell ⟨g, m, none⟩ (.int .i64 x)) B (.slice (some ⟨g, 0, none⟩) (zs.set m x).length c) (zs.set m x) := by
  have := (World.ownsRow.stored h m (.int .i64 x)).1
  rw [ints_set] at this
  unfold OwnI
  rw [List.length_set]
  exact this
theorem OwnI.cell {w : World} {B g c : Nat} {zs : List Int} (h : OwnI w B (.slice (some ⟨g, 0, none⟩) zs.length c) zs) {m : Nat} (hm : m < zs.length) : w.cell? ⟨g, m, none⟩ = some (.int .i64 zs[m]) := by
  have := World.ownsRow.cellAt h m (by omega)
  rw [this]
  simp [ints, hm]
theorem OwnI.at {w : World} {B : Nat} {v : Value} {zs : List Int} (h : OwnI w B v zs) (hp : 0 < zs.length) : ∃ g c, v = .slice (some ⟨g, 0, none⟩) zs.length c ∧ B ≤ g ∧ g < w.heap.size := by
  obtain ⟨g, cap, e, h1, h2⟩ := World.ownsRow.form h hp
  exact ⟨g, cap, e, h1, h2⟩
set_option maxRecDepth 100000 in
set_option maxHeartbeats 4000000 in
theorem l11Set_any (A A2 : Option Addr) (c c2 : Nat) (zs : List Int) (us : List Up) (w : World) (hz : Row w w.heap.size A (ints zs)) (h4 : zs.length = 4) (hu : Row w w.heap.size A2 (upsV us)) (hr : Refs4 us) (hm : us.length ≤ 1048600) :
    Calls Try.prog 89 #[.slice A zs.length c, .slice A2 us.length c2] w (IntsOf (setR zs us) w) := by
  obtain ⟨i0, hi, hz0, hz1, hz2⟩ := info_of info_int
  have H4 := hid h4
  have HE := hid (setR_length us zs)
  have al := (Below.refl w.heap.size w).alloc (Nat.le_refl _) (.cells #[] 3)
  have hzl : Hid (zs.length ≤ 10) := by show _ ≤ _; omega
  clear h4
  go_enter Try.func89, Try.ntmps89
  go_wp2_with (at_builtin; go_must (refine wpList_append_row _ rfl _ _ 24 rfl w.heap.size 3 i0 (.int .i64 0) 1 8 Try.underlying24 hi hz0 hz1 hz2 rfl (by decide) _ 0 [] rfl (nil_own (Nat.le_refl _) _ _) w.heap.size A zs.length c (ints zs) rfl (hz.below al (Nat.le_refl _)) (by rw [ints_length]; omega) (by intro u hu; obtain ⟨x, _, rfl⟩ := List.mem_map.1 hu; rfl) (by have := hzl.out; unfold maxLen; omega) (by have := hzl.out; omega) (by simp) ?_); intro v4 w4 hown hg)
  have b4 : Below w.heap.size w w4 := al.grown hg (by simp) (fun j hj => by injection hj with hj; exact Nat.le_of_eq hj)
  have ho0 : OwnI w4 w.heap.size v4 zs := by
    unfold OwnI
    rw [Nat.zero_add, List.nil_append] at hown
    exact hown
  obtain ⟨g, c4, rfl, hg1, hg2⟩ := ho0.at (by rw [H4.out]; omega)
  clear hown hg al
  go_wp2_with fail
  go_loopw [6] (fun i wr => ∃ k : Nat, k ≤ us.length ∧ i = .int .i64 k ∧ OwnI wr w.heap.size (.slice (some ⟨g, 0, none⟩) zs.length c4) (setR zs (us.take k)) ∧ Below w.heap.size w wr) (fun i _ => us.length - (intOf i).toNat)
  case atStart => exact ⟨0, Nat.zero_le _, rfl, by rw [List.take_zero, setR_nil]; exact ho0, b4⟩
  case round =>
    obtain ⟨k, hk, rfl, ho, hb⟩ := hrel
    clear ho0 b4
    by_cases hlt : k < us.length
    · obtain ⟨o, ad, ho1, rfl, ha1, g0, -, g2⟩ := (hu.below hb (Nat.le_refl _)).up_ hlt
      obtain ⟨q0, q1⟩ := hr _ (List.getElem_mem hlt)
      rw [ho1] at q0 q1
      obtain ⟨m, hm0⟩ := Int.eq_ofNat_of_zero_le q0
      rw [hm0] at g0
      have hsl := setR_length (us.take k) zs
      have ho' : OwnI wr w.heap.size (.slice (some ⟨g, 0, none⟩) (setR zs (us.take k)).length c4) (setR zs (us.take k)) := by rw [hsl]; exact ho
      have hmz : m < (setR zs (us.take k)).length := by rw [hsl, H4.out]; omega
      have y0 := ho'.cell hmz
      have f0 := World.ownsRow.frozenAt ho' m
      have ho2 := ho'.set m o.n
      have hb2 := hb.setCell (p := ⟨g, m, none⟩) hg1 (.int .i64 o.n)
      have hst := setR_take (zs := zs) hlt
      rw [ho1, hm0, Int.toNat_natCast] at hst
      have hl2 : ((setR zs (us.take k)).set m o.n).length = zs.length := by rw [List.length_set, hsl]
      rw [← hst] at ho2 hl2
      rw [hl2] at ho2
      have k0 : (0 : Int) ≤ (k : Int) := by omega
      have k1 : (k : Int) < (us.length : Int) := by omega
      have k2 : (0 : Int) ≤ (m : Int) := by omega
      have k3 : (m : Int) < (zs.length : Int) := by rw [H4.out]; omega
      clear ho ho' hb hst hl2 hsl q0 q1 hm0 ho1
      go_wp2_with fail
      go_region_law (fail)
      go_wp2
      go_roundw
      case rel => exact ⟨k + 1, by omega, by go_num, ho2, hb2.drew⟩
      case measure => simp [intOf]; omega
      exact ⟨⟨k + 1, by omega, by go_num, ho2, hb2.drew⟩, by simp [intOf]; omega⟩
    · have hk' : k = us.length := by omega
      subst hk'
      rw [List.take_length] at ho
      go_wp2
      go_ret
      refine ⟨some ⟨g, 0, none⟩, c4, ?_, ?_, hb⟩
      · rw [HE.out]; rfl
      · rw [HE.out]; exact ho
end Go.Proofs.Ytelmeknpmlbplaa
namespace Go.Proofs.Ytelmeknpmlbplaa
open Go.RowKit Wo Pu Rf

/-- What RefsApply answers. -/
def Applied (zs : List Int) (us : List Up) (y : RWay) (w : World) (e : Ending) (w' : World) : Prop := ∃ A c, e = .returned (.tuple #[.slice A (applied zs us y).length c, .bool y.ok]) ∧ OwnI w' w.heap.size (.slice A (applied zs us y).length c) (applied zs us y) ∧ Below w.heap.size w w'
end Go.Proofs.Ytelmeknpmlbplaa
namespace Go.Proofs.Ytelmeknpmlbplaa
open Go.RowKit Wo Pu Rf

/-- The differences, if both are refs. -/
def difs (v : Bool) (a b : List Int) : List Up := if v then dif a b else []
/-- What is still to be told from k on. -/
def DifTo (a b : List Int) (us : List Up) (k : Nat) : Prop := dif a b = us ++ difL k (a.drop k) (b.drop k)
theorem DifTo.zero (a b : List Int) : DifTo a b [] 0 := rfl
theorem DifTo.same {a b : List Int} {us : List Up} {k : Nat} (h : DifTo a b us k) (ha : k < a.length) (hb : k < b.length) (e : a[k] = b[k]) : DifTo a b us (k + 1) := by
  unfold DifTo at h ⊢
  rw [h, List.drop_eq_getElem_cons ha, List.drop_eq_getElem_cons hb]
  conv => lhs; unfold difL
  rw [if_pos e]
  rfl
theorem DifTo.more {a b : List Int} {us : List Up} {k : Nat} (h : DifTo a b us k) (ha : k < a.length) (hb : k < b.length) (e : ¬ a[k] = b[k]) : DifTo a b (us ++ [⟨(k : Int), a[k], b[k]⟩]) (k + 1) := by
  unfold DifTo at h ⊢
  rw [h, List.drop_eq_getElem_cons ha, List.drop_eq_getElem_cons hb]
  conv => lhs; unfold difL
  rw [if_neg e, List.append_assoc]
  rfl
theorem DifTo.all {a b : List Int} {us : List Up} {k : Nat} (h : DifTo a b us k) (ha : a.length ≤ k) : dif a b = us := by
  unfold DifTo at h
  rw [h, List.drop_of_length_le ha]
  unfold difL
  rw [List.append_nil]
/-- Updates of the call's own. -/
def UpsOf (us : List Up) (w : World) (e : Ending) (w' : World) : Prop := ∃ A c, e = .returned (.slice A us.length c) ∧ OwnUps w' w.heap.size (.slice A us.length c) us ∧ Below w.heap.size w w'
theorem UpsOf.mk_ {us : List Up} {w w' : World} {v : Value} (ho : OwnUps w' w.heap.size v us) (hb : Below w.heap.size w w') : UpsOf us w (.returned v) w' := by
  obtain ⟨A, c, rfl, _⟩ := ho.form
  exact ⟨A, c, rfl, ho, hb⟩
theorem OwnUps.app {w' : World} {B : Nat} {v' : Value} {us : List Up} {u : Up} (h : w'.ownsRow B 38 3 v' (us.length + 1) (upsV us ++ [.int .i64 u.r, .int .i64 u.o, .int .i64 u.n])) : OwnUps w' B v' (us ++ [u]) := by
  unfold OwnUps
  rw [List.length_append, List.length_singleton, upsV_append, upsV_one]
  exact h
theorem row_three (w : World) (v0 v1 v2 : Value) (t : TypeId) : Row (w.alloc (.cells #[v0, v1, v2] t)) (w.alloc (.cells #[v0, v1, v2] t)).heap.size (some ⟨w.heap.size, 0, none⟩) [v0, v1, v2] := .inr ⟨_, rfl, by simp, new_three w v0 v1 v2 t⟩
end Go.Proofs.Ytelmeknpmlbplaa
namespace Go.Proofs.Ytelmeknpmlbplaa
open Go.RowKit Wo Pu Rf

/-- None of the first k of a names a ref of b. -/
def NoTo (a b : List Up) (k : Nat) : Prop := ∀ i (h : i < a.length), i < k → ∀ v ∈ b, a[i].r ≠ v.r
theorem NoTo.zero (a b : List Up) : NoTo a b 0 := fun _ _ h => absurd h (Nat.not_lt_zero _)
/-- x is the ref of none of the first k of b. -/
def NoIn (x : Int) (b : List Up) (k : Nat) : Prop := ∀ i (h : i < b.length), i < k → x ≠ b[i].r
theorem NoIn.zero (x : Int) (b : List Up) : NoIn x b 0 := fun _ _ h => absurd h (Nat.not_lt_zero _)
theorem NoIn.next {x : Int} {b : List Up} {k : Nat} (h : NoIn x b k) (hk : k < b.length) (e : x ≠ b[k].r) : NoIn x b (k + 1) := fun i hi hl => by
  by_cases e2 : i = k
  · subst e2; exact e
  · exact h i hi (by omega)
theorem NoTo.next {a b : List Up} {k : Nat} (h : NoTo a b k) (hk : k < a.length) (e : NoIn a[k].r b b.length) : NoTo a b (k + 1) := fun i hi hl v hv => by
  by_cases e2 : i = k
  · subst e2
    obtain ⟨j, hj, rfl⟩ := List.getElem_of_mem hv
    exact e j hj hj
  · exact h i hi (by omega) v hv
theorem NoTo.none {a b : List Up} (h : NoTo a b a.length) : ¬ Cross a b := fun ⟨_, _, u, hu, v, hv, e⟩ => by
  obtain ⟨i, hi, rfl⟩ := List.getElem_of_mem hu
  exact h i hi hi v hv e
end Go.Proofs.Ytelmeknpmlbplaa
namespace Go.Proofs.Ytelmeknpmlbplaa
open Go.RowKit Wo Pu Rf

/-- A drawn id, seldom a wrong one. -/
def ValDrawn (R : Nat) (q : Int) (w : World) (e : Ending) (w' : World) : Prop := ∃ x : Int, e = .returned (.int .i64 x) ∧ -2 ≤ x ∧ x ≤ 991 ∧ Rd w' R (q + 2) ∧ But R w w'
set_option maxHeartbeats 4000000 in
theorem l92Value_any (R : Nat) (q : Int) (w : World) (hR : Rd w R q) (hq : q ≤ 900000000) :
    Calls Try.prog 109 #[.pointer (some ⟨R, 0, none⟩)] w (ValDrawn R q w) := by
  go_enter Try.func109, Try.ntmps109
  go_wp2_with fail
  refine (pick_any R q 30 w hR (by omega) (by omega) (by omega)).mono ?_
  rintro e w1 ⟨n1, rfl, a0, a1, hR1, hT1⟩
  by_cases h0 : n1 = 0
  · have e0 : (n1 == 0) = true := by rw [h0]; rfl
    clear h0
    go_wp2_with fail
    have hbA := (Below.refl w1.heap.size w1).alloc (Nat.le_refl _) (.cells #[.int .i64 (-2), .int .i64 990, .int .i64 991] 3)
    have hz := hR1.lt
    refine (pick_any R (q + 1) 3 _ (hR1.below hbA hz) (by omega) (by omega) (by omega)).mono ?_
    rintro e w2 ⟨n2, rfl, b0, b1, hR2, hT2⟩
    have bx : Box3 w2 w1.heap.size (.int .i64 (-2)) (.int .i64 990) (.int .i64 991) := hT2.box (Box3.new_ w1 _ _ _ _) (by omega)
    have hTT := (hT1.trans (.of_below hbA)).trans hT2
    obtain ⟨_, p0, p1, p2⟩ := bx
    have key : n2 = 0 ∨ n2 = 1 ∨ n2 = 2 := by omega
    rcases key with rfl | rfl | rfl
    · go_wp2
      go_ret
      exact ⟨_, rfl, by omega, by omega, hR2.more (by omega), hTT⟩
    · go_wp2
      go_ret
      exact ⟨_, rfl, by omega, by omega, hR2.more (by omega), hTT⟩
    · go_wp2
      go_ret
      exact ⟨_, rfl, by omega, by omega, hR2.more (by omega), hTT⟩
  · have e0 : (n1 == 0) = false := by rw [beq_eq_false_iff_ne]; omega
    go_wp2_with fail
    refine (pick_any R (q + 1) 6 _ hR1 (by omega) (by omega) (by omega)).mono ?_
    rintro e w2 ⟨n2, rfl, b0, b1, hR2, hT2⟩
    go_wp2
    go_ret
    exact ⟨_, rfl, by omega, by omega, hR2.more (by omega), hT1.trans hT2⟩

/-- The first k of a row of the call's own. -/
theorem own_cut {w : World} {B n c sz k : Nat} {e : TypeId} {A : Option Addr} {xs : List Value} (h : w.ownsRow B e sz (.slice A n c) n xs) (hk : k ≤ n) : w.ownsRow B e sz (.slice A k c) k (xs.take (k * sz)) := by
  obtain ⟨h1, h2⟩ := h
  refine ⟨by rw [List.length_take, h1]; exact Nat.min_eq_left (Nat.mul_le_mul_right sz hk), ?_⟩
  rcases h2 with ⟨hv, h0⟩ | ⟨g, cap, cur, hv, hB, hh, hn, hm, hcs, htk⟩
  · injection hv with e1 e2 e3
    subst e1
    subst e3
    have : k = 0 := by omega
    subst this
    exact .inl ⟨rfl, rfl⟩
  · injection hv with e1 e2 e3
    subst e1
    subst e3
    exact .inr ⟨g, c, cur, rfl, hB, hh, by omega, hm, hcs, by rw [← htk, List.take_take, Nat.min_eq_left (Nat.mul_le_mul_right sz hk)]⟩
theorem OwnI.cut {w : World} {B c k : Nat} {A : Option Addr} {zs : List Int} (h : OwnI w B (.slice A zs.length c) zs) (hk : k ≤ zs.length) : OwnI w B (.slice A k c) (zs.take k) := by
  have h1 := own_cut h hk
  have e : (zs.take k).length = k := by rw [List.length_take]; omega
  unfold OwnI
  rw [e]
  have e2 : ints (zs.take k) = (ints zs).take (k * 1) := by unfold ints; rw [List.map_take, Nat.mul_one]
  rw [e2]
  exact h1
/-- Drawn refs. -/
def RefsDrawn (R : Nat) (q : Int) (w : World) (e : Ending) (w' : World) : Prop := ∃ v zs, e = .returned v ∧ OwnI w' w.heap.size v zs ∧ zs.length ≤ 4 ∧ Rd w' R (q + 12) ∧ But R w w'
end Go.Proofs.Ytelmeknpmlbplaa
