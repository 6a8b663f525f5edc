/-
  Walks: marks written into updates of the call's own, and read again.
-/
import Derived.Test.YtjplondblkkpmaaUpK
namespace Go.Proofs.Ytjplondblkkpmaa
open Go.RowKit Wo Pu Rf

/-- The marks from k on. -/
def mkU (k i : Nat) : Up := ⟨(k + 3 * i : Nat), ((k + 3 * i + 1 : Nat) : Int), ((k + 3 * i + 2 : Nat) : Int)⟩
def mksU (k n : Nat) : List Up := (List.range n).map (mkU k)
theorem mksU_length (k n : Nat) : (mksU k n).length = n := by simp [mksU]
theorem mksU_get (k n i : Nat) (h : i < (mksU k n).length) : (mksU k n)[i] = mkU k i := by simp [mksU]
theorem upsV_set {os : List Up} {m : Nat} (h : m < os.length) (o : Up) : (((upsV os).set (m * 3) (.int .i64 o.r)).set (m * 3 + 1) (.int .i64 o.o)).set (m * 3 + 2) (.int .i64 o.n) = upsV (os.set m o) := by
  have hl := upsV_length os
  apply List.ext_getElem?
  intro j
  by_cases hj : j < os.length * 3
  · obtain ⟨q, d, hd, rfl⟩ : ∃ q d, d < 3 ∧ j = q * 3 + d := ⟨j / 3, j % 3, by omega, by omega⟩
    have hq : q < os.length := by omega
    rw [upsV_get (os := os.set m o) (by rw [List.length_set]; exact hq) hd]
    by_cases e : q = m
    · subst e
      have ho : (os.set q o)[q]'(by rw [List.length_set]; exact hq) = o := by simp
      rw [ho]
      have key : d = 0 ∨ d = 1 ∨ d = 2 := by omega
      rcases key with rfl | rfl | rfl
      · rw [List.getElem?_set_ne (by omega), List.getElem?_set_ne (by omega), Nat.add_zero, List.getElem?_set_self (by omega)]; rfl
      · rw [List.getElem?_set_ne (by omega), List.getElem?_set_self (by simp; omega)]; rfl
      · rw [List.getElem?_set_self (by simp; omega)]; rfl
    · have ho : (os.set m o)[q]'(by rw [List.length_set]; exact hq) = os[q] := by rw [List.getElem_set_ne (by omega)]
      rw [ho, List.getElem?_set_ne (by omega), List.getElem?_set_ne (by omega), List.getElem?_set_ne (by omega), upsV_get hq hd]
  · rw [List.getElem?_eq_none (by simp; omega), List.getElem?_eq_none (by rw [upsV_length, List.length_set]; omega)]
theorem set_takeU {os : List Up} {k n m : Nat} (h : os.take m = (mksU k n).take m) (hl : os.length = n) (hm : m < n) : (os.set m (mkU k m)).take (m + 1) = (mksU k n).take (m + 1) := by
  rw [List.take_succ_eq_append_getElem (by simpa using (by omega : m < os.length)), List.take_succ_eq_append_getElem (by rw [mksU_length]; exact hm), List.take_set_of_le (Nat.le_refl m), h, mksU_get]
  simp
set_option maxHeartbeats 4000000 in
theorem markUpdateS_own (B g c k : Nat) (os : List Up) (w : World) (ho : OwnUps w B (.slice (some ⟨g, 0, none⟩) os.length c) os) (hn : os.length ≤ 1048576) (h1 : 1 ≤ k) (h2 : k ≤ 4194304) :
    Calls Try.prog 90 #[.slice (some ⟨g, 0, none⟩) os.length c, .int .i64 k] w (fun e w' => e = .returned (.int .i64 ((k + 3 * os.length : Nat) : Int)) ∧ OwnUps w' B (.slice (some ⟨g, 0, none⟩) os.length c) (mksU k os.length) ∧ w.grownBy w' (some g)) := by
  have hx0 : Hid (∃ ys : List Up, ys.length = os.length ∧ OwnUps w B (.slice (some ⟨g, 0, none⟩) os.length c) ys ∧ ys.take 0 = (mksU k os.length).take 0) := ⟨os, rfl, ho, by simp⟩
  clear ho
  generalize os.length = n at *
  go_enter Try.func90, Try.ntmps90
  go_wp2_with fail
  go_loopw [1, 5] (fun q i wr => ∃ m J : Nat, m ≤ n ∧ i = .int .i64 m ∧ q = .int .i64 J ∧ J ≤ 4194304 + 3 * m ∧ 1 ≤ J ∧ Hid (J = k + 3 * m) ∧ w.grownBy wr (some g) ∧ Hid (∃ ys : List Up, ys.length = n ∧ OwnUps wr B (.slice (some ⟨g, 0, none⟩) n c) ys ∧ ys.take m = (mksU k n).take m)) (fun _ i _ => n - (intOf i).toNat)
  case atStart => exact ⟨0, k, Nat.zero_le _, rfl, rfl, by omega, h1, rfl, World.grownBy.refl _ _, hx0⟩
  case round =>
    obtain ⟨m, J, hm, rfl, rfl, hJ, hJ1, HJ, hw, HX⟩ := hrel
    clear hx0
    obtain ⟨ys, hyl, hy, ht⟩ := HX.out
    clear HX
    by_cases hlt : m < n
    · have hrow : wr.ownsRow B 38 3 (.slice (some ⟨g, 0, none⟩) n c) n (upsV ys) := by
        unfold OwnUps at hy
        rwa [hyl] at hy
      clear hy
      have hl := upsV_length ys
      have rd : ∀ d, d < 3 → ∃ v0, wr.cell? ⟨g, m * 3 + d, none⟩ = some v0 := fun d hd => ⟨_, (World.ownsRow.cellAt hrow (m * 3 + d) (by omega)).trans (List.getElem?_eq_getElem (by omega))⟩
      obtain ⟨u0, q0⟩ := rd 0 (by omega)
      obtain ⟨u1, q1⟩ := rd 1 (by omega)
      obtain ⟨u2, q2⟩ := rd 2 (by omega)
      rw [Nat.add_zero] at q0
      have f0 := World.ownsRow.frozenAt hrow (m * 3)
      have f1 := World.ownsRow.frozenAt hrow (m * 3 + 1)
      have f2 := World.ownsRow.frozenAt hrow (m * 3 + 2)
      have hs1 := (World.ownsRow.stored hrow (m * 3) (.int .i64 (J : Int))).1
      have hs2 := (World.ownsRow.stored hs1 (m * 3 + 1) (.int .i64 ((J : Int) + 1))).1
      have hs3 := (World.ownsRow.stored hs2 (m * 3 + 2) (.int .i64 ((J : Int) + 2))).1
      have hgr : w.grownBy (((wr.setCell ⟨g, m * 3, none⟩ (.int .i64 (J : Int))).setCell ⟨g, m * 3 + 1, none⟩ (.int .i64 ((J : Int) + 1))).setCell ⟨g, m * 3 + 2, none⟩ (.int .i64 ((J : Int) + 2))) (some g) := ((hw.trans (but_set wr g (m * 3) _)).trans (but_set _ g (m * 3 + 1) _)).trans (but_set _ g (m * 3 + 2) _)
      have HT := hid (set_takeU ht hyl hlt)
      have HO := hid (upsV_set (os := ys) (m := m) (by omega) (mkU k m))
      have HYL := hid hyl
      have eO : mkU k m = ⟨(J : Int), (J : Int) + 1, (J : Int) + 2⟩ := by unfold mkU; rw [HJ.out]; rfl
      rw [eO] at HO HT
      have hy4 : Hid (OwnUps (((wr.setCell ⟨g, m * 3, none⟩ (.int .i64 (J : Int))).setCell ⟨g, m * 3 + 1, none⟩ (.int .i64 ((J : Int) + 1))).setCell ⟨g, m * 3 + 2, none⟩ (.int .i64 ((J : Int) + 2))) B (.slice (some ⟨g, 0, none⟩) n c) (ys.set m ⟨(J : Int), (J : Int) + 1, (J : Int) + 2⟩)) := by
        show OwnUps _ _ _ _
        unfold OwnUps
        rw [List.length_set, HYL.out, ← HO.out]
        exact hs3
      have HYS : Hid ((ys.set m (⟨(J : Int), (J : Int) + 1, (J : Int) + 2⟩ : Up)).length = n) := by show _ = _; rw [List.length_set, HYL.out]
      have HJ2 : Hid (J + 3 = k + 3 * (m + 1)) := by show _ = _; rw [HJ.out]; omega
      clear hs1 hs2 hs3 hrow rd hl hyl eO ht hw
      go_wp2_with fail
      go_roundw
      case rel => exact ⟨m + 1, J + 3, by omega, by go_num, by go_num, by omega, by omega, HJ2, hgr, _, HYS.out, hy4.out, HT.out⟩
      case measure => simp [intOf]; omega
    · have hm' : m = n := by omega
      subst hm'
      have e : ys = mksU k m := by
        rw [List.take_of_length_le (by omega), List.take_of_length_le (by rw [mksU_length]; omega)] at ht
        exact ht
      subst e
      clear ht hyl
      go_wp2
      go_ret
      exact ⟨by rw [HJ.out]; rfl, hy, hw⟩
end Go.Proofs.Ytjplondblkkpmaa
