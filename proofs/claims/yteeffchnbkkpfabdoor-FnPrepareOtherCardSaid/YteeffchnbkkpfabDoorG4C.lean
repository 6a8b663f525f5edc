/-
  Walks: RefsApply, RefsDiffer and UpdatesCross of the model.
  Walks: RefsDiffer and UpdatesCross of the model.
  Walk: UpdatesCross of the model.
  Walks: drawn refs and updates.
  Walks: which locks are valid, taken, freed and whose they are, by the model.
  Walks: locks taken, by the model.
  The coordinator with the slices $SA and $SB is stored as the answer, with the word $BB.
  Walks: LocksFree and LocksOf of the model.
  Walks: what records say of a transaction, by the model.
  Walk: a shard without records, by the model.
-/
import Derived.Test.YteeffchnbkkpfabDoorRefA
import Derived.Test.YteeffchnbkkpfabDoorG1C
import Derived.Test.YteeffchnbkkpfabDoorG0C
import Derived.Test.YteeffchnbkkpfabDoorRefU
namespace Go.Proofs.YteeffchnbkkpfabDoor
open Go.RowKit Wo Pu Rf

/-- What RefsApply answers. -/
def Applied (zs : List Int) (us : List Up) (y : RWay) (w : World) (e : Ending) (w' : World) : Prop := ∃ A c, e = .returned (.tuple #[.slice A (applied zs us y).length c, .bool y.ok]) ∧ OwnI w' w.heap.size (.slice A (applied zs us y).length c) (applied zs us y) ∧ Below w.heap.size w w'
end Go.Proofs.YteeffchnbkkpfabDoor
namespace Go.Proofs.YteeffchnbkkpfabDoor
open Go.RowKit Wo Pu Rf

/-- The differences, if both are refs. -/
def difs (v : Bool) (a b : List Int) : List Up := if v then dif a b else []
/-- What is still to be told from k on. -/
def DifTo (a b : List Int) (us : List Up) (k : Nat) : Prop := dif a b = us ++ difL k (a.drop k) (b.drop k)
theorem DifTo.zero (a b : List Int) : DifTo a b [] 0 := rfl
theorem DifTo.same {a b : List Int} {us : List Up} {k : Nat} (h : DifTo a b us k) (ha : k < a.length) (hb : k < b.length) (e : a[k] = b[k]) : DifTo a b us (k + 1) := by
  unfold DifTo at h ⊢
  rw [h, List.drop_eq_getElem_cons ha, List.drop_eq_getElem_cons hb]
  conv => lhs; unfold difL
  rw [if_pos e]
  rfl
theorem DifTo.more {a b : List Int} {us : List Up} {k : Nat} (h : DifTo a b us k) (ha : k < a.length) (hb : k < b.length) (e : ¬ a[k] = b[k]) : DifTo a b (us ++ [⟨(k : Int), a[k], b[k]⟩]) (k + 1) := by
  unfold DifTo at h ⊢
  rw [h, List.drop_eq_getElem_cons ha, List.drop_eq_getElem_cons hb]
  conv => lhs; unfold difL
  rw [if_neg e, List.append_assoc]
  rfl
theorem DifTo.all {a b : List Int} {us : List Up} {k : Nat} (h : DifTo a b us k) (ha : a.length ≤ k) : dif a b = us := by
  unfold DifTo at h
  rw [h, List.drop_of_length_le ha]
  unfold difL
  rw [List.append_nil]
/-- Updates of the call's own. -/
def UpsOf (us : List Up) (w : World) (e : Ending) (w' : World) : Prop := ∃ A c, e = .returned (.slice A us.length c) ∧ OwnUps w' w.heap.size (.slice A us.length c) us ∧ Below w.heap.size w w'
theorem UpsOf.mk_ {us : List Up} {w w' : World} {v : Value} (ho : OwnUps w' w.heap.size v us) (hb : Below w.heap.size w w') : UpsOf us w (.returned v) w' := by
  obtain ⟨A, c, rfl, _⟩ := ho.form
  exact ⟨A, c, rfl, ho, hb⟩
theorem OwnUps.app {w' : World} {B : Nat} {v' : Value} {us : List Up} {u : Up} (h : w'.ownsRow B 100 3 v' (us.length + 1) (upsV us ++ [.int .i64 u.r, .int .i64 u.o, .int .i64 u.n])) : OwnUps w' B v' (us ++ [u]) := by
  unfold OwnUps
  rw [List.length_append, List.length_singleton, upsV_append, upsV_one]
  exact h
theorem row_three (w : World) (v0 v1 v2 : Value) (t : TypeId) : Row (w.alloc (.cells #[v0, v1, v2] t)) (w.alloc (.cells #[v0, v1, v2] t)).heap.size (some ⟨w.heap.size, 0, none⟩) [v0, v1, v2] := .inr ⟨_, rfl, by simp, new_three w v0 v1 v2 t⟩
end Go.Proofs.YteeffchnbkkpfabDoor
namespace Go.Proofs.YteeffchnbkkpfabDoor
open Go.RowKit Wo Pu Rf

/-- None of the first k of a names a ref of b. -/
def NoTo (a b : List Up) (k : Nat) : Prop := ∀ i (h : i < a.length), i < k → ∀ v ∈ b, a[i].r ≠ v.r
theorem NoTo.zero (a b : List Up) : NoTo a b 0 := fun _ _ h => absurd h (Nat.not_lt_zero _)
/-- x is the ref of none of the first k of b. -/
def NoIn (x : Int) (b : List Up) (k : Nat) : Prop := ∀ i (h : i < b.length), i < k → x ≠ b[i].r
theorem NoIn.zero (x : Int) (b : List Up) : NoIn x b 0 := fun _ _ h => absurd h (Nat.not_lt_zero _)
theorem NoIn.next {x : Int} {b : List Up} {k : Nat} (h : NoIn x b k) (hk : k < b.length) (e : x ≠ b[k].r) : NoIn x b (k + 1) := fun i hi hl => by
  by_cases e2 : i = k
  · subst e2; exact e
  · exact h i hi (by omega)
theorem NoTo.next {a b : List Up} {k : Nat} (h : NoTo a b k) (hk : k < a.length) (e : NoIn a[k].r b b.length) : NoTo a b (k + 1) := fun i hi hl v hv => by
  by_cases e2 : i = k
  · subst e2
    obtain ⟨j, hj, rfl⟩ := List.getElem_of_mem hv
    exact e j hj hj
  · exact h i hi (by omega) v hv
theorem NoTo.none {a b : List Up} (h : NoTo a b a.length) : ¬ Cross a b := fun ⟨_, _, u, hu, v, hv, e⟩ => by
  obtain ⟨i, hi, rfl⟩ := List.getElem_of_mem hu
  exact h i hi hi v hv e
end Go.Proofs.YteeffchnbkkpfabDoor
namespace Go.Proofs.YteeffchnbkkpfabDoor
open Go.RowKit Wo Pu Rf

/-- A drawn id, seldom a wrong one. -/
def ValDrawn (R : Nat) (q : Int) (w : World) (e : Ending) (w' : World) : Prop := ∃ x : Int, e = .returned (.int .i64 x) ∧ -2 ≤ x ∧ x ≤ 991 ∧ Rd w' R (q + 2) ∧ But R w w'
set_option maxHeartbeats 4000000 in
theorem l92Value_any (R : Nat) (q : Int) (w : World) (hR : Rd w R q) (hq : q ≤ 900000000) :
    Calls Tryd.prog 86 #[.pointer (some ⟨R, 0, none⟩)] w (ValDrawn R q w) := by
  go_enter Tryd.func86, Tryd.ntmps86
  go_wp2_with fail
  refine (pick_any R q 30 w hR (by omega) (by omega) (by omega)).mono ?_
  rintro e w1 ⟨n1, rfl, a0, a1, hR1, hT1⟩
  by_cases h0 : n1 = 0
  · have e0 : (n1 == 0) = true := by rw [h0]; rfl
    clear h0
    go_wp2_with fail
    have hbA := (Below.refl w1.heap.size w1).alloc (Nat.le_refl _) (.cells #[.int .i64 (-2), .int .i64 990, .int .i64 991] 3)
    have hz := hR1.lt
    refine (pick_any R (q + 1) 3 _ (hR1.below hbA hz) (by omega) (by omega) (by omega)).mono ?_
    rintro e w2 ⟨n2, rfl, b0, b1, hR2, hT2⟩
    have bx : Box3 w2 w1.heap.size (.int .i64 (-2)) (.int .i64 990) (.int .i64 991) := hT2.box (Box3.new_ w1 _ _ _ _) (by omega)
    have hTT := (hT1.trans (.of_below hbA)).trans hT2
    obtain ⟨_, p0, p1, p2⟩ := bx
    have key : n2 = 0 ∨ n2 = 1 ∨ n2 = 2 := by omega
    rcases key with rfl | rfl | rfl
    · go_wp2
      go_ret
      exact ⟨_, rfl, by omega, by omega, hR2.more (by omega), hTT⟩
    · go_wp2
      go_ret
      exact ⟨_, rfl, by omega, by omega, hR2.more (by omega), hTT⟩
    · go_wp2
      go_ret
      exact ⟨_, rfl, by omega, by omega, hR2.more (by omega), hTT⟩
  · have e0 : (n1 == 0) = false := by rw [beq_eq_false_iff_ne]; omega
    go_wp2_with fail
    refine (pick_any R (q + 1) 6 _ hR1 (by omega) (by omega) (by omega)).mono ?_
    rintro e w2 ⟨n2, rfl, b0, b1, hR2, hT2⟩
    go_wp2
    go_ret
    exact ⟨_, rfl, by omega, by omega, hR2.more (by omega), hT1.trans hT2⟩

/-- The first k of a row of the call's own. -/
theorem own_cut {w : World} {B n c sz k : Nat} {e : TypeId} {A : Option Addr} {xs : List Value} (h : w.ownsRow B e sz (.slice A n c) n xs) (hk : k ≤ n) : w.ownsRow B e sz (.slice A k c) k (xs.take (k * sz)) := by
  obtain ⟨h1, h2⟩ := h
  refine ⟨by rw [List.length_take, h1]; exact Nat.min_eq_left (Nat.mul_le_mul_right sz hk), ?_⟩
  rcases h2 with ⟨hv, h0⟩ | ⟨g, cap, cur, hv, hB, hh, hn, hm, hcs, htk⟩
  · injection hv with e1 e2 e3
    subst e1
    subst e3
    have : k = 0 := by omega
    subst this
    exact .inl ⟨rfl, rfl⟩
  · injection hv with e1 e2 e3
    subst e1
    subst e3
    exact .inr ⟨g, c, cur, rfl, hB, hh, by omega, hm, hcs, by rw [← htk, List.take_take, Nat.min_eq_left (Nat.mul_le_mul_right sz hk)]⟩
theorem OwnI.cut {w : World} {B c k : Nat} {A : Option Addr} {zs : List Int} (h : OwnI w B (.slice A zs.length c) zs) (hk : k ≤ zs.length) : OwnI w B (.slice A k c) (zs.take k) := by
  have h1 := own_cut h hk
  have e : (zs.take k).length = k := by rw [List.length_take]; omega
  unfold OwnI
  rw [e]
  have e2 : ints (zs.take k) = (ints zs).take (k * 1) := by unfold ints; rw [List.map_take, Nat.mul_one]
  rw [e2]
  exact h1
/-- Drawn refs. -/
def RefsDrawn (R : Nat) (q : Int) (w : World) (e : Ending) (w' : World) : Prop := ∃ v zs, e = .returned v ∧ OwnI w' w.heap.size v zs ∧ zs.length ≤ 4 ∧ Rd w' R (q + 12) ∧ But R w w'
end Go.Proofs.YteeffchnbkkpfabDoor
namespace Go.Proofs.YteeffchnbkkpfabDoor
open Go.RowKit Wo Pu Rf Lk

theorem l12Txn_is (b : Bool) (t : Int) (w : World) (hb : b = true ↔ TV t) : Calls Tryd.prog 64 #[.int .i64 t] w (Same (.bool b) w) := by
  have CB : Hid (∀ x, Calls Tryd.prog 88 #[.int .i64 t, .int .i64 0, .int .i64 11] x (Same (.bool b) x)) := fun x => l6In_is b t 0 11 x hb
  clear hb
  go_enter Tryd.func64, Tryd.ntmps64
  go_wp2_with fail
  refine (CB.out _).mono ?_
  rintro e w1 ⟨rfl, rfl⟩
  go_wp2
  go_ret
  exact ⟨rfl, rfl⟩
/-- The first k are transactions or none. -/
def OwnTo (zs : List Int) (k : Nat) : Prop := ∀ z ∈ zs.take k, Lk.Own z
theorem OwnTo.zero (zs : List Int) : OwnTo zs 0 := fun z h => by simp at h
theorem OwnTo.next {zs : List Int} {k : Nat} (h : OwnTo zs k) (hk : k < zs.length) (hv : Lk.Own zs[k]) : OwnTo zs (k + 1) := fun z hz => by
  rw [List.take_succ_eq_append_getElem hk] at hz
  rcases List.mem_append.1 hz with hz | hz
  · exact h z hz
  · rw [List.mem_singleton.1 hz]; exact hv
theorem OwnTo.all {zs : List Int} (h : OwnTo zs zs.length) : ∀ z ∈ zs, Lk.Own z := by unfold OwnTo at h; rwa [List.take_length] at h
end Go.Proofs.YteeffchnbkkpfabDoor
namespace Go.Proofs.YteeffchnbkkpfabDoor
open Go.RowKit Wo Pu Rf Lk

/-- Behind it: numbers of the call's own, and whether. -/
def Took (qs : List Int) (ok : Bool) (w : World) (e : Ending) (w' : World) : Prop := ∃ A c, e = .returned (.tuple #[.slice A qs.length c, .bool ok]) ∧ OwnI w' w.heap.size (.slice A qs.length c) qs ∧ Below w.heap.size w w'
/-- What l12Take answers. -/
def takes (zs : List Int) (t : Int) (us : List Up) (ok : Bool) : List Int := if ok then setR zs (lk t us) else zs
theorem lk_get {t : Int} {us : List Up} {k : Nat} (h : k < us.length) (h2 : k < (lk t us).length) : (lk t us)[k] = lk1 t us[k] := by
  have e : (lk t us)[k]? = some (lk1 t us[k]) := by
    unfold lk
    rw [List.getElem?_map, List.getElem?_eq_getElem h]
    rfl
  rw [List.getElem?_eq_getElem h2] at e
  injection e
set_option maxRecDepth 100000 in
set_option maxHeartbeats 8000000 in
theorem l12Take_any (ok : Bool) (A A2 : Option Addr) (c c2 : Nat) (zs : List Int) (t : Int) (us : List Up) (w : World) (hz : Row w w.heap.size A (ints zs)) (h4 : zs.length = 4) (hu : Row w w.heap.size A2 (upsV us)) (hr : Refs4 us) (hm : us.length ≤ 1048600) (hok : ok = true ↔ Fits zs (lk t us)) :
    Calls Tryd.prog 96 #[.slice A zs.length c, .int .i64 t, .slice A2 us.length c2] w (Took (takes zs t us ok) ok w) := by
  obtain ⟨i0, hi, hz0, hz1, hz2⟩ := info_of info_int
  have H4 := hid h4
  have HO := hid hok
  have al := (Below.refl w.heap.size w).alloc (Nat.le_refl _) (.cells #[] 3)
  have hzl : Hid (zs.length ≤ 10) := by show _ ≤ _; omega
  clear h4 hok
  go_enter Tryd.func96, Tryd.ntmps96
  go_wp2_with (at_builtin; go_must (refine wpList_append_row _ rfl _ _ 27 rfl w.heap.size 3 i0 (.int .i64 0) 1 8 Tryd.underlying27 hi hz0 hz1 hz2 rfl (by decide) _ 0 [] rfl (nil_own (Nat.le_refl _) _ _) w.heap.size A zs.length c (ints zs) rfl (hz.below al (Nat.le_refl _)) (by rw [ints_length]; omega) (by intro u hu; obtain ⟨x, _, rfl⟩ := List.mem_map.1 hu; rfl) (by have := hzl.out; unfold maxLen; omega) (by have := hzl.out; omega) (by simp) ?_); intro v4 w4 hown hg)
  have b4 : Below w.heap.size w w4 := al.grown hg (by simp) (fun j hj => by injection hj with hj; exact Nat.le_of_eq hj)
  have ho0 : OwnI w4 w.heap.size v4 zs := by
    unfold OwnI
    rw [Nat.zero_add, List.nil_append] at hown
    exact hown
  obtain ⟨g, c4, rfl, hg1, hg2⟩ := ho0.at (by rw [H4.out]; omega)
  clear hown hg al
  go_wp2_with fail
  go_loopw [9] (fun i wr => ∃ k : Nat, k ≤ us.length ∧ i = .int .i64 k ∧ OwnI wr w.heap.size (.slice (some ⟨g, 0, none⟩) zs.length c4) (setR zs (lk t (us.take k))) ∧ Hid (FitTo zs (lk t us) k) ∧ Below w.heap.size w wr) (fun i _ => us.length - (intOf i).toNat)
  case atStart => exact ⟨0, Nat.zero_le _, rfl, (by rw [List.take_zero]; exact ho0), FitTo.zero zs _, b4⟩
  case round =>
    obtain ⟨k, hk, rfl, ho, HF, hb⟩ := hrel
    clear ho0 b4
    by_cases hlt : k < us.length
    · obtain ⟨o, ad, ho1, rfl, ha1, g0, -, -⟩ := (hu.below hb (Nat.le_refl _)).up_ hlt
      obtain ⟨q0, q1⟩ := hr _ (List.getElem_mem hlt)
      rw [ho1] at q0 q1
      obtain ⟨m, hm0⟩ := Int.eq_ofNat_of_zero_le q0
      rw [hm0] at g0
      have hmz0 : m < zs.length := by rw [H4.out]; omega
      obtain ⟨adz, ez, hbz, cz⟩ := (hz.below hb (Nat.le_refl _)).int_ hmz0
      have hkl : k < (lk t us).length := by rw [lk_length]; exact hlt
      have hge : (lk t us)[k] = lk1 t o := by rw [← ho1]; exact lk_get hlt hkl
      have hfit : fit1 zs (lk t us)[k] ↔ zs[m] = -1 := by
        rw [hge]
        unfold fit1
        rw [show (lk1 t o).r = o.r from rfl, hm0, Int.toNat_natCast, List.getElem?_eq_getElem hmz0]
        exact ⟨fun h => by injection h, fun h => by rw [h]; rfl⟩
      have k0 : (0 : Int) ≤ (k : Int) := by omega
      have k1 : (k : Int) < (us.length : Int) := by omega
      have k2 : (0 : Int) ≤ (m : Int) := by omega
      have k3 : (m : Int) < (zs.length : Int) := by omega
      subst ez
      by_cases heq : zs[m] = -1
      · have e0 : (zs[m] != -1) = false := by rw [bne_eq_false_iff_eq]; exact heq
        have HN := hid (HF.out.next hkl (hfit.2 heq))
        have hsl := setR_length (lk t (us.take k)) zs
        have ho' : OwnI wr w.heap.size (.slice (some ⟨g, 0, none⟩) (setR zs (lk t (us.take k))).length c4) (setR zs (lk t (us.take k))) := by rw [hsl]; exact ho
        have hmz : m < (setR zs (lk t (us.take k))).length := by rw [hsl]; exact hmz0
        have y0 := ho'.cell hmz
        have f0 := World.ownsRow.frozenAt ho' m
        have ho2 := ho'.set m t
        have hb2 := hb.setCell (p := ⟨g, m, none⟩) hg1 (.int .i64 t)
        have hst : setR zs (lk t (us.take (k + 1))) = (setR zs (lk t (us.take k))).set m t := by
          rw [List.take_succ_eq_append_getElem hlt, ho1]
          unfold lk
          rw [List.map_append]
          show setR zs (_ ++ [lk1 t o]) = _
          rw [setR_snoc]
          show (setR zs _).set o.r.toNat t = _
          rw [hm0, Int.toNat_natCast]
        have hl2 : ((setR zs (lk t (us.take k))).set m t).length = zs.length := by rw [List.length_set, hsl]
        rw [← hst] at ho2 hl2
        rw [hl2] at ho2
        clear ho ho' hb hst hl2 hsl q0 q1 hm0 ho1 HF heq hfit hge
        go_wp2
        go_roundw
        case rel => exact ⟨k + 1, by omega, by go_num, ho2, HN, hb2⟩
        case measure => simp [intOf]; omega
      · have e0 : (zs[m] != -1) = true := by rw [bne_iff_ne]; exact heq
        have F : Hid (ok = false) := by
          show ok = false
          rw [← Bool.not_eq_true]
          exact fun e => heq (hfit.1 (HO.out.1 e _ (List.getElem_mem hkl)))
        have hzw := hb.size
        have rz3 := (hz.below hb (Nat.le_refl _)).more hzw
        have al := (Below.refl wr.heap.size wr).alloc (Nat.le_refl _) (.cells #[] 3)
        have b3a := hb.alloc hzw (.cells #[] 3)
        clear ho HF heq hfit hge q0 q1 hm0 ho1 hb
        go_wp2_with (at_builtin; go_must (refine wpList_append_row _ rfl _ _ 27 rfl w.heap.size 3 i0 (.int .i64 0) 1 8 Tryd.underlying27 hi hz0 hz1 hz2 rfl (by decide) _ 0 [] rfl (nil_own hzw _ _) wr.heap.size (some adz) zs.length c (ints zs) rfl (rz3.below al (Nat.le_refl _)) (by rw [ints_length]; omega) (by intro u hu; obtain ⟨x, _, rfl⟩ := List.mem_map.1 hu; rfl) (by have := hzl.out; unfold maxLen; omega) (by have := hzl.out; omega) (by simp; omega) ?_); intro v5 w5 hown hg)
        have b5 : Below w.heap.size w w5 := b3a.grown hg (by simp; omega) (fun j hj => by injection hj with hj; have e : wr.heap.size = j := hj; omega)
        have ho5 : OwnI w5 w.heap.size v5 zs := by
          unfold OwnI
          rw [Nat.zero_add, List.nil_append] at hown
          exact hown
        obtain ⟨A5, c5, rfl, -, -⟩ := ho5.form
        go_wp2_with fail
        go_ret2
        rw [F.out]
        exact ⟨A5, c5, rfl, ho5, b5⟩
    · have hk' : k = us.length := by omega
      subst hk'
      rw [List.take_length] at ho
      have F : Hid (ok = true) := by
        refine HO.out.2 (FitTo.all ?_)
        rw [lk_length]
        exact HF.out
      have HE := hid (setR_length (lk t us) zs)
      clear HF
      go_wp2
      go_ret2
      rw [F.out]
      refine ⟨some ⟨g, 0, none⟩, c4, ?_, ?_, hb⟩
      · show _ = Ending.returned (.tuple #[.slice _ (setR zs (lk t us)).length _, _])
        rw [HE.out]; rfl
      · show OwnI _ _ (.slice _ (setR zs (lk t us)).length _) (setR zs (lk t us))
        rw [HE.out]; exact ho
end Go.Proofs.YteeffchnbkkpfabDoor
/-
  Walks: locks freed, and whose they are, by the model.
-/
namespace Go.Proofs.YteeffchnbkkpfabDoor
open Go.RowKit Wo Pu Rf Lk

theorem free_next {zs : List Int} {t : Int} {k : Nat} (h : k < zs.length) : freeL t (zs.take (k + 1)) = freeL t (zs.take k) ++ [free1 t zs[k]] := by
  unfold freeL
  rw [List.take_succ_eq_append_getElem h, List.map_append]
  rfl
set_option maxRecDepth 100000 in
set_option maxHeartbeats 4000000 in
theorem l12Free_any (A : Option Addr) (c : Nat) (zs : List Int) (t : Int) (w : World) (hz : Row w w.heap.size A (ints zs)) (hm : zs.length ≤ 1048600) :
    Calls Tryd.prog 99 #[.slice A zs.length c, .int .i64 t] w (IntsOf (freeL t zs) w) := by
  obtain ⟨i0, hi, hz0, hz1, hz2⟩ := info_of info_int
  have al := (Below.refl w.heap.size w).alloc (Nat.le_refl _) (.cells #[] 3)
  have on0 := OwnI.nil_new (w := w) (Nat.le_refl _)
  go_enter Tryd.func99, Tryd.ntmps99
  go_wp2_with fail
  go_loopw [5, 6] (fun q i wr => ∃ (k : Nat) (ys : List Int), k ≤ zs.length ∧ i = .int .i64 k ∧ Hid (ys.length = k) ∧ OwnI wr w.heap.size q ys ∧ Hid (freeL t (zs.take k) = ys) ∧ Below w.heap.size w wr) (fun _ i _ => zs.length - (intOf i).toNat)
  case atStart => exact ⟨0, [], Nat.zero_le _, rfl, rfl, on0, rfl, al⟩
  case round =>
    obtain ⟨k, ys, hk, rfl, HL, ho, H, hbr⟩ := hrel
    clear on0 al
    have hzw := hbr.size
    by_cases hlt : k < zs.length
    · obtain ⟨ad, rfl, hbl, hc⟩ := (hz.below hbr (Nat.le_refl _)).int_ hlt
      have q0 : (0 : Int) ≤ (k : Int) := by omega
      have q1 : (k : Int) < (zs.length : Int) := by omega
      have hnx := free_next (t := t) hlt
      rw [H.out] at hnx
      have HL1 : Hid (ys.length ≤ 1048600) := by show _ ≤ _; rw [HL.out]; omega
      have HL2 : Hid (∀ x : Int, (ys ++ [x]).length = k + 1) := fun x => by rw [List.length_append, HL.out]; rfl
      clear H
      by_cases hv : zs[k] = t
      · have e0 : (zs[k] == t) = true := by rw [beq_iff_eq]; exact hv
        have HN : Hid (freeL t (zs.take (k + 1)) = ys ++ [-1]) := by
          show _ = _
          rw [hnx]
          unfold free1
          rw [if_pos hv]
        clear hnx hv
        have oB : (wr.alloc (.cells #[.int .i64 (-1)] 3)).ownsRow w.heap.size 3 1 _ ys.length (ints ys) := World.ownsRow.alloc ho _
        have lt1 := World.ownsRow.lt oB
        go_wp2_with (at_builtin; go_must (refine wpList_append_own _ rfl _ _ 27 rfl w.heap.size 3 i0 (.int .i64 0) 1 8 Tryd.underlying27 hi hz0 hz1 hz2 rfl (by decide) _ ys.length (ints ys) rfl oB ⟨wr.heap.size, 0, none⟩ 1 1 [.int .i64 (-1)] rfl rfl (cell_one_new _ _ _) (one_int _) (by have := HL1.out; unfold maxLen; omega) (by have := HL1.out; omega) (by simp; omega) ?_); intro u9 w9 hown hg _)
        have o9 := OwnI.app hown
        have b9 : Below w.heap.size w w9 := hbr.trans (((Below.refl w.heap.size wr).alloc hzw _).grown hg (by simp; omega) (fun j hj => (lt1 j hj).1))
        clear hown hg oB lt1 ho hbr
        go_wp2
        go_roundw
        case rel => exact ⟨k + 1, ys ++ [(-1)], by omega, by go_num, HL2.out _, o9, HN, b9⟩
        case measure => simp [intOf]; omega
      · have e0 : (zs[k] == t) = false := by rw [beq_eq_false_iff_ne]; exact hv
        have HN : Hid (freeL t (zs.take (k + 1)) = ys ++ [zs[k]]) := by
          show _ = _
          rw [hnx]
          unfold free1
          rw [if_neg hv]
        obtain ⟨x, hx⟩ : ∃ x, zs[k] = x := ⟨_, rfl⟩
        rw [hx] at HN hc e0
        clear hnx hv hx
        have oB : (wr.alloc (.cells #[.int .i64 x] 3)).ownsRow w.heap.size 3 1 _ ys.length (ints ys) := World.ownsRow.alloc ho _
        have lt1 := World.ownsRow.lt oB
        go_wp2_with (at_builtin; go_must (refine wpList_append_own _ rfl _ _ 27 rfl w.heap.size 3 i0 (.int .i64 0) 1 8 Tryd.underlying27 hi hz0 hz1 hz2 rfl (by decide) _ ys.length (ints ys) rfl oB ⟨wr.heap.size, 0, none⟩ 1 1 [.int .i64 x] rfl rfl (cell_one_new _ _ _) (one_int _) (by have := HL1.out; unfold maxLen; omega) (by have := HL1.out; omega) (by simp; omega) ?_); intro u9 w9 hown hg _)
        have o9 := OwnI.app hown
        have b9 : Below w.heap.size w w9 := hbr.trans (((Below.refl w.heap.size wr).alloc hzw _).grown hg (by simp; omega) (fun j hj => (lt1 j hj).1))
        clear hown hg oB lt1 ho hbr
        go_wp2
        go_roundw
        case rel => exact ⟨k + 1, ys ++ [x], by omega, by go_num, HL2.out _, o9, HN, b9⟩
        case measure => simp [intOf]; omega
    · have hk' : k = zs.length := by omega
      subst hk'
      have HD : Hid (freeL t zs = ys) := by
        have := H.out
        rwa [List.take_length] at this
      clear H
      go_wp2
      go_ret
      rw [HD.out]
      exact .mk_ ho hbr
end Go.Proofs.YteeffchnbkkpfabDoor
namespace Go.Proofs.YteeffchnbkkpfabDoor
open Go.RowKit Wo Pu Rf Lk

end Go.Proofs.YteeffchnbkkpfabDoor
namespace Go.Proofs.YteeffchnbkkpfabDoor
open Go.RowKit Wo Pu Rf Lk Sh

theorem ask_take {rs : List Rec} {k : Nat} (h : k < rs.length) (t : Int) : Sh.ask (rs.take (k + 1)) t = if rs[k].t = t then rs[k].k else Sh.ask (rs.take k) t := by
  rw [List.take_succ_eq_append_getElem h, ask_snoc]
/-- None of the first k is a vote for t. -/
def NoV (rs : List Rec) (t : Int) (k : Nat) : Prop := ∀ j (h : j < rs.length), j < k → ¬ (rs[j].t = t ∧ rs[j].k = 1)
theorem NoV.zero (rs : List Rec) (t : Int) : NoV rs t 0 := fun _ _ h => absurd h (Nat.not_lt_zero _)
theorem NoV.next {rs : List Rec} {t : Int} {k : Nat} (h : NoV rs t k) (hk : k < rs.length) (e : ¬ (rs[k].t = t ∧ rs[k].k = 1)) : NoV rs t (k + 1) := fun j hj hl => by
  by_cases e2 : j = k
  · subst e2; exact e
  · exact h j hj (by omega)
theorem NoV.upd {rs : List Rec} {t : Int} : ∀ {k : Nat}, NoV rs t k → (hk : k < rs.length) → rs[k].t = t ∧ rs[k].k = 1 → Sh.upd rs t = rs[k].us := by
  induction rs with
  | nil => intro k _ hk; simp at hk
  | cons a rs ih =>
    intro k h hk e
    cases k with
    | zero => show (if a.t = t ∧ a.k = 1 then a.us else _) = _; rw [if_pos (show a.t = t ∧ a.k = 1 from e)]; rfl
    | succ k =>
      show (if a.t = t ∧ a.k = 1 then a.us else Sh.upd rs t) = _
      rw [if_neg (show ¬ (a.t = t ∧ a.k = 1) from h 0 (by simp) (by omega))]
      exact ih (fun j hj hl => h (j + 1) (by simpa using hj) (by omega)) (by simpa using hk) e
theorem NoV.none {rs : List Rec} {t : Int} (h : NoV rs t rs.length) : Sh.upd rs t = [] := by
  induction rs with
  | nil => rfl
  | cons a rs ih =>
    show (if a.t = t ∧ a.k = 1 then a.us else Sh.upd rs t) = _
    rw [if_neg (show ¬ (a.t = t ∧ a.k = 1) from h 0 (by simp) (by simp))]
    exact ih fun j hj hl => h (j + 1) (by simpa using hj) (by simpa using hl)
set_option maxHeartbeats 2000000 in
theorem l21Ask_is (z : Int) (A : Option Addr) (c : Nat) (rs : List Rec) (t : Int) (w : World) (B : Nat) (h : Recs w B A rs) (hn : rs.length ≤ 1048600) (hz : Sh.ask rs t = z) :
    Calls Tryd.prog 66 #[.slice A rs.length c, .int .i64 t] w (Same (.int .i64 z) w) := by
  have HZ := hid hz
  clear hz
  go_enter Tryd.func66, Tryd.ntmps66
  go_wp2_with fail
  go_loop [5, 6] (fun s i => ∃ k : Nat, k ≤ rs.length ∧ i = .int .i64 k ∧ s = .int .i64 (Sh.ask (rs.take k) t)) (fun _ i => rs.length - (intOf i).toNat)
  case atStart => exact ⟨0, Nat.zero_le _, rfl, rfl⟩
  case round =>
    obtain ⟨k, hk, rfl, rfl⟩ := hrel
    obtain ⟨y, hy⟩ : ∃ y, Sh.ask (rs.take k) t = y := ⟨_, rfl⟩
    rw [hy]
    have HY := hid hy
    clear hy
    by_cases hlt : k < rs.length
    · obtain ⟨r, ad, A', c', ho, rfl, ha, g0, g1, g2, -, -⟩ := h.rec hlt
      have q0 : (0 : Int) ≤ (k : Int) := by omega
      have q1 : (k : Int) < (rs.length : Int) := by omega
      by_cases he : r.t = t
      · have e0 : (r.t == t) = true := by rw [beq_iff_eq]; exact he
        have HN : Hid (Sh.ask (rs.take (k + 1)) t = r.k) := by show _ = _; rw [ask_take hlt, ho, if_pos he]
        clear ho he HY
        go_wp2
        go_round
        case rel => exact ⟨k + 1, by omega, by go_num, by rw [HN.out]⟩
        case measure => simp [intOf]; omega
      · have e0 : (r.t == t) = false := by rw [beq_eq_false_iff_ne]; exact he
        have HN : Hid (Sh.ask (rs.take (k + 1)) t = y) := by show _ = _; rw [ask_take hlt, ho, if_neg he, HY.out]
        clear ho he HY
        go_wp2
        go_round
        case rel => exact ⟨k + 1, by omega, by go_num, by rw [HN.out]⟩
        case measure => simp [intOf]; omega
    · have hk' : k = rs.length := by omega
      subst hk'
      have F : Hid (y = z) := by
        show y = z
        rw [← HY.out, List.take_length, HZ.out]
      clear HY
      go_wp2
      go_ret
      rw [F.out]
      exact ⟨rfl, rfl⟩
/-- Behind it: updates to be read. -/
def ShownU (us : List Up) (w : World) (e : Ending) (w' : World) : Prop := ∃ A c, e = .returned (.slice A us.length c) ∧ us.length ≤ c ∧ Row w' w'.heap.size A (upsV us) ∧ Below w.heap.size w w'
set_option maxHeartbeats 2000000 in
theorem l21Updates_any (us : List Up) (A : Option Addr) (c : Nat) (rs : List Rec) (t : Int) (w : World) (h : Recs w w.heap.size A rs) (hn : rs.length ≤ 1048600) (hu : Sh.upd rs t = us) :
    Calls Tryd.prog 98 #[.slice A rs.length c, .int .i64 t] w (ShownU us w) := by
  have HU := hid hu
  clear hu
  go_enter Tryd.func98, Tryd.ntmps98
  go_wp2_with fail
  go_loop [5] (fun i => ∃ k : Nat, k ≤ rs.length ∧ i = .int .i64 k ∧ Hid (NoV rs t k)) (fun i => rs.length - (intOf i).toNat)
  case atStart => exact ⟨0, Nat.zero_le _, rfl, NoV.zero _ _⟩
  case round =>
    obtain ⟨k, hk, rfl, H⟩ := hrel
    by_cases hlt : k < rs.length
    · obtain ⟨r, ad, A', c', ho, rfl, ha, g0, g1, g2, g3, g4⟩ := h.rec hlt
      have q0 : (0 : Int) ≤ (k : Int) := by omega
      have q1 : (k : Int) < (rs.length : Int) := by omega
      by_cases he : r.t = t
      · have e0 : (r.t == t) = true := by rw [beq_iff_eq]; exact he
        by_cases hk1 : r.k = 1
        · have e1 : (r.k == 1) = true := by rw [beq_iff_eq]; exact hk1
          have F : Hid (r.us = us) := by
            show _ = _
            have := H.out.upd hlt (by rw [ho]; exact ⟨he, hk1⟩)
            rw [HU.out, ho] at this
            exact this.symm
          clear H he hk1 ho
          go_wp2
          go_ret
          rw [← F.out]
          exact ⟨A', c', rfl, g3, g4, Below.refl _ _⟩
        · have e1 : (r.k == 1) = false := by rw [beq_eq_false_iff_ne]; exact hk1
          have HN := hid (H.out.next hlt (by rw [ho]; exact fun e => hk1 e.2))
          clear H he hk1 ho
          go_wp2
          go_round
          case rel => exact ⟨k + 1, by omega, by go_num, HN⟩
          case measure => simp [intOf]; omega
      · have e0 : (r.t == t) = false := by rw [beq_eq_false_iff_ne]; exact he
        have HN := hid (H.out.next hlt (by rw [ho]; exact fun e => he e.1))
        clear H he ho
        go_wp2
        go_round
        case rel => exact ⟨k + 1, by omega, by go_num, HN⟩
        case measure => simp [intOf]; omega
    · have hk' : k = rs.length := by omega
      subst hk'
      have F : Hid (us = []) := by
        show us = []
        rw [← HU.out]
        exact H.out.none
      clear H
      have al := (Below.refl w.heap.size w).alloc (Nat.le_refl _) (.cells #[] 100)
      go_wp2
      go_ret
      rw [F.out]
      exact ⟨_, _, rfl, Nat.le_refl _, .inl rfl, al⟩
end Go.Proofs.YteeffchnbkkpfabDoor
namespace Go.Proofs.YteeffchnbkkpfabDoor
open Go.RowKit Wo Pu Rf Lk Sh

/-- Two lists do not lie in one block. -/
def AptI (v u : Value) : Prop := ∀ g, v.ownBlock = some g → u.ownBlock ≠ some g
theorem AptI.symm {v u : Value} (h : AptI v u) : AptI u v := fun g h1 h2 => h g h2 h1
theorem OwnI.keep_ {w w' : World} {B : Nat} {v u : Value} {zs : List Int} (h : OwnI w B v zs) (hg : w.grownBy w' u.ownBlock) (ha : AptI v u) : OwnI w' B v zs :=
  World.ownsRow.kept h hg (by
    rcases hv : v.ownBlock with _ | k
    · exact .inl rfl
    · exact .inr (fun e => ha k hv e.symm))
theorem OwnI.keptT {w w' : World} {B : Nat} {v : Value} {zs : List Int} {T : TypeId} {row : Option Nat} (h : OwnI w B v zs) (t2 : 3 ≠ T) (hg : w.grownBy w' row) (hr : ∀ g, row = some g → ∃ cur fr, w.heap[g]? = some (.cells cur T fr)) : OwnI w' B v zs := row_far_type h t2 hg hr
theorem AptI.new_ {w : World} {B g n c : Nat} {v u : Value} {zs : List Int} (h : AptI u v) (hu : OwnI w B u zs) (hat : v.ownBlock = some g ∨ w.heap.size ≤ g) : AptI u (.slice (some ⟨g, 0, none⟩) n c) := fun q h1 h2 => by
  have h2' : some g = some q := h2
  injection h2' with h2'
  subst h2'
  rcases hat with e | e
  · exact h g h1 e
  · have := (World.ownsRow.lt hu g h1).2; omega
/-- k times none. -/
def nones (k : Nat) : List Int := List.replicate k (-1)
theorem nones_succ (k : Nat) : nones (k + 1) = nones k ++ [-1] := by unfold nones; rw [List.replicate_succ']
theorem nones_length (k : Nat) : (nones k).length = k := List.length_replicate
/-- The state so far: the result at r, the state at g. -/
def BegE (w : World) (r g k j : Nat) (v u : Value) (wr : World) : Prop :=
  Blk2s wr r 37 (.slice none 0 0) (.slice none 0 0) ∧ Blk2s wr g 37 v u ∧ (w.heap.size ≤ r ∧ r ≠ g ∧ w.heap.size ≤ g) ∧ OwnI wr w.heap.size v (nones k) ∧ OwnI wr w.heap.size u (nones j) ∧ AptI v u ∧ Below w.heap.size w wr
section
variable {w wr w7 : World} {r g k j gg cap : Nat} {v u : Value}
theorem BegE.grow (h : BegE w r g k j v u wr) (hg : (wr.alloc (.cells #[.int .i64 (-1)] 3)).grownBy w7 v.ownBlock) :
    Blk2s w7 r 37 (.slice none 0 0) (.slice none 0 0) ∧ Blk2s w7 g 37 v u ∧ OwnI w7 w.heap.size u (nones j) ∧ Below w.heap.size w w7 := by
  obtain ⟨h1, h2, ⟨i1, i2, i3⟩, h4, h5, h6, h7⟩ := h
  have al := (Below.refl wr.heap.size wr).alloc (Nat.le_refl _) (.cells #[.int .i64 (-1)] 3)
  have z := h7.size
  have a1 := h1.alloc (.cells #[.int .i64 (-1)] 3)
  have a2 := h2.alloc (.cells #[.int .i64 (-1)] 3)
  have r4 : (wr.alloc (.cells #[.int .i64 (-1)] 3)).ownsRow w.heap.size 3 1 v (nones k).length (ints (nones k)) := World.ownsRow.alloc h4 _
  exact ⟨a1.grown hg (blk_ne_row a1 r4 (by decide)), a2.grown hg (blk_ne_row a2 r4 (by decide)), OwnI.keep_ (World.ownsRow.alloc h5 _) hg h6.symm, (h7.alloc z _).grown hg (by simp; omega) (fun q hq => (World.ownsRow.lt r4 q hq).1)⟩
theorem BegE.add0 (h : BegE w r g k j v u wr) (hown : w7.ownsRow w.heap.size 3 1 (.slice (some ⟨gg, 0, none⟩) (k + 1) cap) (k + 1) (ints (nones k) ++ [.int .i64 (-1)]))
    (hg : (wr.alloc (.cells #[.int .i64 (-1)] 3)).grownBy w7 v.ownBlock) (hat : v.ownBlock = some gg ∨ gg = wr.heap.size + 1) :
    (w7.cell? ⟨g, 0, none⟩ = some v ∧ w7.frozen? ⟨g, 0, none⟩ = false) ∧ BegE w r g (k + 1) j (.slice (some ⟨gg, 0, none⟩) (k + 1) cap) u (w7.setCell ⟨g, 0, none⟩ (.slice (some ⟨gg, 0, none⟩) (k + 1) cap)) := by
  obtain ⟨k1, k2, k3, k4⟩ := h.grow hg
  obtain ⟨h1, h2, ⟨i1, i2, i3⟩, h4, h5, h6, h7⟩ := h
  have o1 : OwnI w7 w.heap.size (.slice (some ⟨gg, 0, none⟩) (k + 1) cap) (nones (k + 1)) := by
    rw [nones_succ]
    refine OwnI.app ?_
    rw [nones_length]
    exact hown
  refine ⟨⟨k2.reads.1, k2.reads.2.2 0⟩, k1.far i2 _, k2.set0 _, ⟨i1, i2, i3⟩, o1.keptT (by decide) (but_set w7 g 0 _) (blk_type k2), k3.keptT (by decide) (but_set w7 g 0 _) (blk_type k2), ?_, k4.setCell (p := ⟨g, 0, none⟩) i3 _⟩
  exact (AptI.new_ h6.symm h5 (hat.imp id fun e => by omega)).symm
theorem BegE.swap (h : BegE w r g k j v u wr) : OwnI wr w.heap.size u (nones j) ∧ AptI u v := ⟨h.2.2.2.2.1, h.2.2.2.2.2.1.symm⟩
theorem BegE.add1 (h : BegE w r g k j v u wr) (hown : w7.ownsRow w.heap.size 3 1 (.slice (some ⟨gg, 0, none⟩) (j + 1) cap) (j + 1) (ints (nones j) ++ [.int .i64 (-1)]))
    (hg : (wr.alloc (.cells #[.int .i64 (-1)] 3)).grownBy w7 u.ownBlock) (hat : u.ownBlock = some gg ∨ gg = wr.heap.size + 1) :
    (w7.cell? ⟨g, 1, none⟩ = some u ∧ w7.frozen? ⟨g, 1, none⟩ = false) ∧ BegE w r g k (j + 1) v (.slice (some ⟨gg, 0, none⟩) (j + 1) cap) (w7.setCell ⟨g, 1, none⟩ (.slice (some ⟨gg, 0, none⟩) (j + 1) cap)) := by
  obtain ⟨h1, h2, ⟨i1, i2, i3⟩, h4, h5, h6, h7⟩ := h
  have z := h7.size
  have a1 := h1.alloc (.cells #[.int .i64 (-1)] 3)
  have a2 := h2.alloc (.cells #[.int .i64 (-1)] 3)
  have r4 : (wr.alloc (.cells #[.int .i64 (-1)] 3)).ownsRow w.heap.size 3 1 u (nones j).length (ints (nones j)) := World.ownsRow.alloc h5 _
  have k1 := a1.grown hg (blk_ne_row a1 r4 (by decide))
  have k2 := a2.grown hg (blk_ne_row a2 r4 (by decide))
  have k3 : OwnI w7 w.heap.size v (nones k) := OwnI.keep_ (World.ownsRow.alloc h4 _) hg h6
  have k4 : Below w.heap.size w w7 := (h7.alloc z _).grown hg (by simp; omega) (fun q hq => (World.ownsRow.lt r4 q hq).1)
  have o1 : OwnI w7 w.heap.size (.slice (some ⟨gg, 0, none⟩) (j + 1) cap) (nones (j + 1)) := by
    rw [nones_succ]
    refine OwnI.app ?_
    rw [nones_length]
    exact hown
  exact ⟨⟨k2.reads.2.1, k2.reads.2.2 1⟩, k1.far i2 _, k2.set1 _, ⟨i1, i2, i3⟩, k3.keptT (by decide) (but_set w7 g 1 _) (blk_type k2), o1.keptT (by decide) (but_set w7 g 1 _) (blk_type k2), AptI.new_ h6 h4 (hat.imp id fun e => by omega), k4.setCell (p := ⟨g, 1, none⟩) i3 _⟩
theorem BegE.size (h : BegE w r g k j v u wr) : w.heap.size ≤ wr.heap.size := h.2.2.2.2.2.2.size
theorem BegE.row0 (h : BegE w r g k j v u wr) : wr.ownsRow w.heap.size 3 1 v k (ints (nones k)) := by
  have := h.2.2.2.1
  unfold OwnI at this
  rwa [nones_length] at this
theorem BegE.row1 (h : BegE w r g k j v u wr) : wr.ownsRow w.heap.size 3 1 u j (ints (nones j)) := by
  have := h.2.2.2.2.1
  unfold OwnI at this
  rwa [nones_length] at this
end
theorem one_after (w : World) (p : Addr) (u x : Value) (t : TypeId) : ∀ j y, [x][j]? = some y → ((w.setCell p u).alloc (.cells #[x] t)).cell? ((⟨w.heap.size, 0, none⟩ : Addr).add j) = some y := by
  have h := cell_one_new (w.setCell p u) x t
  have e : (w.setCell p u).heap.size = w.heap.size := by simp [World.setCell]
  rwa [e] at h
set_option maxRecDepth 100000 in
set_option maxHeartbeats 4000000 in
theorem l21Begin_any (w : World) : Calls Tryd.prog 79 #[] w (NewSt ⟨[-1, -1, -1, -1], [-1, -1, -1, -1]⟩ w) := by
  obtain ⟨i0, hi, hz0, hz1, hz2⟩ := info_of info_int
  have x0 := (Blk2s.new_ w 37 (.slice none 0 0) (.slice none 0 0)).alloc (.cells #[.slice none 0 0, .slice none 0 0] 37)
  have x1 := Blk2s.new_ (w.alloc (.cells #[.slice none 0 0, .slice none 0 0] 37)) 37 (.slice none 0 0) (.slice none 0 0)
  have b1 := ((Below.refl w.heap.size w).alloc (Nat.le_refl _) (.cells #[.slice none 0 0, .slice none 0 0] 37)).alloc (by simp) (.cells #[.slice none 0 0, .slice none 0 0] 37)
  rw [World.size_alloc] at x1
  have E0 : BegE w w.heap.size (w.heap.size + 1) 0 0 (.slice none 0 0) (.slice none 0 0) _ := ⟨x0, x1, ⟨Nat.le_refl _, by omega, Nat.le_succ _⟩, ⟨rfl, .inl ⟨rfl, rfl⟩⟩, ⟨rfl, .inl ⟨rfl, rfl⟩⟩, fun g h => (by cases h), b1⟩
  clear x0 x1 b1
  go_enter Tryd.func79, Tryd.ntmps79
  go_wp2_with fail
  go_loopw [2] (fun i wr => ∃ (k : Nat) (v u : Value), k ≤ 4 ∧ i = .int .i64 k ∧ BegE w w.heap.size (w.heap.size + 1) k k v u wr) (fun i _ => 4 - (intOf i).toNat)
  case atStart => exact ⟨0, _, _, Nat.zero_le _, rfl, E0⟩
  case round =>
    clear E0
    obtain ⟨k, v, u, hk, rfl, E⟩ := hrel
    obtain ⟨y0, y1, -⟩ := id E.2.1.reads
    have hz := E.size
    by_cases hlt : k < 4
    · have q1 : (k : Int) < 4 := by omega
      go_wp2_with (first
        | (at_builtin; refine wpList_append_lies _ rfl _ _ 27 rfl w.heap.size 3 i0 (.int .i64 0) 1 8 Tryd.underlying27 hi hz0 hz1 hz2 rfl (by decide) _ k _ rfl (World.ownsRow.alloc E.row0 _) ⟨wr.heap.size, 0, none⟩ 1 1 [.int .i64 (-1)] rfl rfl (cell_one_new _ _ _) (one_int _) (by omega) (by unfold maxLen; omega) (by omega) (by simp; omega) (wr.heap.size + 1) (by simp) ?_; intro gg cap w7 hown hg hat hlt7; have EE := E.add0 hown hg hat; obtain ⟨⟨t0, tf⟩, E7⟩ := EE; obtain ⟨s0, s1, -⟩ := id E7.2.1.reads; have z7 := E7.size)
        | (at_builtin; go_loud (refine wpList_append_lies _ rfl _ _ 27 rfl w.heap.size 3 i0 (.int .i64 0) 1 8 Tryd.underlying27 hi hz0 hz1 hz2 rfl (by decide) _ k _ rfl (World.ownsRow.alloc E7.row1 _) ⟨w7.heap.size, 0, none⟩ 1 1 [.int .i64 (-1)] rfl rfl (one_after _ _ _ _ _) (one_int _) (by omega) (by unfold maxLen; omega) (by omega) (by simp at z7 ⊢; omega) (w7.heap.size + 1) (by simp) ?_; intro gg2 cap2 w8 hown2 hg2 hat2 hlt8; have EE2 := E7.add1 hown2 hg2 (hat2.imp id (fun e => by simpa using e)); obtain ⟨⟨t2, tf2⟩, E8⟩ := EE2)))
      go_roundw
      case rel => exact ⟨k + 1, _, _, by omega, by go_num, E8⟩
      case measure => simp [intOf]; omega
    · have hk' : k = 4 := by omega
      subst hk'
      obtain ⟨E1, E2, E3, E4, E5, E6, E7⟩ := E
      obtain ⟨A, c, e4, r4, hc⟩ := E4.form
      obtain ⟨A2, c2, e5, r5, hc2⟩ := E5.form
      rw [nones_length] at e4 hc e5 hc2
      subst e4 e5
      obtain ⟨t0, t1, tf⟩ := id E1.reads
      have tf0 := tf 0
      have tf1 := tf 1
      have o1 := (E4.keptT (by decide) (but_set wr w.heap.size 0 (.slice A 4 c)) (blk_type E1)).keptT (by decide) (but_set _ w.heap.size 1 (.slice A2 4 c2)) (blk_type (E1.set0 _))
      have o2 := (E5.keptT (by decide) (but_set wr w.heap.size 0 (.slice A 4 c)) (blk_type E1)).keptT (by decide) (but_set _ w.heap.size 1 (.slice A2 4 c2)) (blk_type (E1.set0 _))
      have b7 := (E7.setCell (p := ⟨w.heap.size, 0, none⟩) (Nat.le_refl _) (.slice A 4 c)).setCell (p := ⟨w.heap.size, 1, none⟩) (Nat.le_refl _) (.slice A2 4 c2)
      obtain ⟨p0, p1, -⟩ := ((E1.set0 (.slice A 4 c)).set1 (.slice A2 4 c2)).reads
      obtain ⟨A', c', e, r6, -⟩ := o1.form
      obtain ⟨A2', c2', e2, r7, -⟩ := o2.form
      injection e with e q1 q2
      injection e2 with e2 q3 q4
      clear q1 q2 q3 q4
      subst e e2
      have H6 := hid r6
      have H7 := hid r7
      clear o1 o2 r4 r5 r6 r7 E2 E3 E4 E5 E6 E7
      go_wp2
      refine bodyPost_ret (v := .agg #[.slice A 4 c, .slice A2 4 c2]) (by simp [results, Tryd.results79, go_sem, p0, p1]) rfl ⟨_, rfl, ⟨A, c, A2, c2, rfl, H6.out, hc, H7.out, hc2⟩, b7⟩
end Go.Proofs.YteeffchnbkkpfabDoor
