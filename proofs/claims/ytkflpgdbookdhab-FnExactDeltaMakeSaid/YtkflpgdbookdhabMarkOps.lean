/-
  Walks: marks written into operations of the call's own, and read again.
-/
import Derived.Test.YtkflpgdbookdhabHelps
import Derived.Test.YtkflpgdbookdhabList
import Derived.Test.YtkflpgdbookdhabMakeS
namespace Go.Proofs.Ytkflpgdbookdhab
open Go.RowKit Wo Pu

def dig (m : Nat) : UInt8 := UInt8.ofNat (48 + m % 10)
/-- The digits of m ahead of s. -/
def mtx : Nat → Nat → ByteArray → ByteArray
  | 0, _, s => s
  | f + 1, m, s => if m = 0 then s else mtx f (m / 10) (⟨#[dig m]⟩ ++ s)
theorem mtx_zero (f : Nat) (s : ByteArray) : mtx f 0 s = s := by
  cases f with
  | zero => rfl
  | succ f => rw [mtx, if_pos rfl]
theorem mtx_succ {f m : Nat} (s : ByteArray) (h : ¬ m = 0) : mtx (f + 1) m s = mtx f (m / 10) (⟨#[dig m]⟩ ++ s) := by rw [mtx, if_neg h]
def mtext (k : Nat) : ByteArray := (⟨#[109]⟩ : ByteArray) ++ mtx k k ⟨#[]⟩

theorem conv_digit (w : World) (m : Nat) : (convert 22 9 (.slice (some ⟨w.heap.size, 0, none⟩) 1 1)).run Try.prog (w.alloc (.cells #[.int .u8 (48 + (m : Int) % 10)] 5)) = .ok (.string ⟨#[dig m]⟩) (w.alloc (.cells #[.int .u8 (48 + (m : Int) % 10)] 5)) := by
  have h := conv_u8 w (dig m)
  have e : ((dig m).toNat : Int) = 48 + (m : Int) % 10 := by
    unfold dig
    rw [UInt8.toNat_ofNat']
    omega
  rw [e] at h
  exact h

set_option maxHeartbeats 1000000 in
theorem markText_is (k : Nat) (w : World) (h0 : 1 ≤ k) (h1 : k ≤ 1000) :
    Calls Try.prog 46 #[.int .i64 k] w (Ret (.string (mtext k)) w) := by
  go_enter Try.func46, Try.ntmps46
  go_wp2_with fail
  go_loopw [0, 3] (fun n t wr => ∃ (m f : Nat) (s : ByteArray), n = .int .i64 m ∧ t = .string s ∧ s.size + m ≤ k ∧ m ≤ f ∧ Hid (mtx k k ⟨#[]⟩ = mtx f m s) ∧ Below w.heap.size w wr) (fun n _ _ => (intOf n).toNat)
  case atStart => exact ⟨k, k, ⟨#[]⟩, rfl, rfl, by show 0 + k ≤ k; omega, Nat.le_refl _, rfl, Below.refl _ _⟩
  case round =>
    obtain ⟨m, f, s, rfl, rfl, hs, hf, HM, hb⟩ := hrel
    by_cases hlt : 0 < m
    · obtain ⟨f, rfl⟩ : ∃ f', f = f' + 1 := ⟨f - 1, by omega⟩
      have hcv := conv_digit wr m
      have H2 := hid ((HM.out).trans (mtx_succ s (by omega)))
      clear HM
      go_wp2_with fail
      go_roundw
      case rel =>
        refine ⟨m / 10, f, _, by congr 1, rfl, ?_, by omega, H2, hb.alloc hb.size _⟩
        rw [ByteArray.size_append]
        show 1 + s.size + _ ≤ k
        omega
      case measure => simp [intOf]; omega
    · have hm : m = 0 := by omega
      subst hm
      have H2 : Hid ((⟨#[109]⟩ : ByteArray) ++ s = mtext k) := by show _ = _; unfold mtext; rw [HM.out, mtx_zero]
      clear HM
      go_wp2
      go_ret
      rw [← H2.out]
      exact .mk_ hb

theorem markText_at (x : Int) (k : Nat) (w : World) (hx : x = k) (h0 : 1 ≤ k) (h1 : k ≤ 1000) :
    Calls Try.prog 46 #[.int .i64 x] w (Ret (.string (mtext k)) w) := by
  subst hx; exact markText_is k w h0 h1

/-- The marks from k on. -/
def mkO (k i : Nat) : Op2 := ⟨(k + 3 * i : Nat), ((k + 3 * i : Nat) : Int) + 1, mtext (k + 3 * i + 2)⟩
def mks (k n : Nat) : List Op2 := (List.range n).map (mkO k)
theorem mks_length (k n : Nat) : (mks k n).length = n := by simp [mks]
theorem mks_get (k n i : Nat) (h : i < (mks k n).length) : (mks k n)[i] = mkO k i := by simp [mks]
theorem opsV_set {os : List Op2} {m : Nat} (h : m < os.length) (o : Op2) : (((opsV os).set (m * 3) (.int .i64 o.a)).set (m * 3 + 1) (.int .i64 o.n)).set (m * 3 + 2) (.string o.t) = opsV (os.set m o) := by
  have hl := opsV_length os
  apply List.ext_getElem?
  intro j
  by_cases hj : j < os.length * 3
  · obtain ⟨q, d, hd, rfl⟩ : ∃ q d, d < 3 ∧ j = q * 3 + d := ⟨j / 3, j % 3, by omega, by omega⟩
    have hq : q < os.length := by omega
    rw [opsV_get (os := os.set m o) (by rw [List.length_set]; exact hq) hd]
    by_cases e : q = m
    · subst e
      have ho : (os.set q o)[q]'(by rw [List.length_set]; exact hq) = o := by simp
      rw [ho]
      have key : d = 0 ∨ d = 1 ∨ d = 2 := by omega
      rcases key with rfl | rfl | rfl
      · rw [List.getElem?_set_ne (by omega), List.getElem?_set_ne (by omega), Nat.add_zero, List.getElem?_set_self (by omega)]; rfl
      · rw [List.getElem?_set_ne (by omega), List.getElem?_set_self (by simp; omega)]; rfl
      · rw [List.getElem?_set_self (by simp; omega)]; rfl
    · have ho : (os.set m o)[q]'(by rw [List.length_set]; exact hq) = os[q] := by rw [List.getElem_set_ne (by omega)]
      rw [ho, List.getElem?_set_ne (by omega), List.getElem?_set_ne (by omega), List.getElem?_set_ne (by omega), opsV_get hq hd]
  · rw [List.getElem?_eq_none (by simp; omega), List.getElem?_eq_none (by rw [opsV_length, List.length_set]; omega)]
theorem set_take {os : List Op2} {k n m : Nat} (h : os.take m = (mks k n).take m) (hl : os.length = n) (hm : m < n) : (os.set m (mkO k m)).take (m + 1) = (mks k n).take (m + 1) := by
  rw [List.take_succ_eq_append_getElem (by simpa using (by omega : m < os.length)), List.take_succ_eq_append_getElem (by rw [mks_length]; exact hm), List.take_set_of_le (Nat.le_refl m), h, mks_get]
  simp

theorem World.grownBy.of_below' {w w' : World} {row : Option Nat} (h : Below w.heap.size w w') : w.grownBy w' row := ⟨h.os, h.tape, h.output, h.size, fun k hk _ => h.block k hk⟩
/-- Only block g, of those that were there, has turned; the row in it is of the call's own. -/
def MarkedOps (B : Nat) (v : Value) (k n : Nat) (w : World) (e : Ending) (w' : World) : Prop :=
  e = .returned (.int .i64 (k + 3 * n : Nat)) ∧ OwnOps w' B v (mks k n) ∧ w.grownBy w' v.ownBlock

theorem MarkedOps.mk_ {B : Nat} {v : Value} {k n J : Nat} {w w' : World} (hJ : J = k + 3 * n) (h1 : OwnOps w' B v (mks k n)) (h2 : w.grownBy w' v.ownBlock) : MarkedOps B v k n w (.returned (.int .i64 J)) w' := ⟨by rw [hJ], h1, h2⟩

set_option maxHeartbeats 4000000 in
theorem markOpS_own (B g c k : Nat) (os : List Op2) (w : World) (ho : OwnOps w B (.slice (some ⟨g, 0, none⟩) os.length c) os) (hn : os.length ≤ 8) (h1 : 1 ≤ k) (h2 : k ≤ 100) :
    Calls Try.prog 29 #[.slice (some ⟨g, 0, none⟩) os.length c, .int .i64 k] w (MarkedOps B (.slice (some ⟨g, 0, none⟩) os.length c) k os.length w) := by
  have hx0 : Hid (∃ ys : List Op2, ys.length = os.length ∧ OwnOps w B (.slice (some ⟨g, 0, none⟩) os.length c) ys ∧ ys.take 0 = (mks k os.length).take 0) := ⟨os, rfl, ho, by simp⟩
  clear ho
  generalize os.length = n at *
  go_enter Try.func29, Try.ntmps29
  go_wp2_with fail
  go_loopw [1, 5] (fun q i wr => ∃ m J : Nat, m ≤ n ∧ i = .int .i64 m ∧ q = .int .i64 J ∧ J ≤ 900 ∧ 1 ≤ J ∧ Hid (J = k + 3 * m) ∧ w.grownBy wr (some g) ∧ Hid (∃ ys : List Op2, ys.length = n ∧ OwnOps wr B (.slice (some ⟨g, 0, none⟩) n c) ys ∧ ys.take m = (mks k n).take m)) (fun _ i _ => n - (intOf i).toNat)
  case atStart => exact ⟨0, k, Nat.zero_le _, rfl, rfl, by omega, h1, rfl, World.grownBy.refl _ _, hx0⟩
  case round =>
    obtain ⟨m, J, hm, rfl, rfl, hJ, hJ1, HJ, hw, HX⟩ := hrel
    clear hx0
    obtain ⟨ys, hyl, hy, ht⟩ := HX.out
    clear HX
    by_cases hlt : m < n
    · have hrow : wr.ownsRow B 33 3 (.slice (some ⟨g, 0, none⟩) n c) n (opsV ys) := by
        unfold OwnOps at hy
        rwa [hyl] at hy
      clear hy
      have hl := opsV_length ys
      have rd : ∀ d, d < 3 → ∃ v0, wr.cell? ⟨g, m * 3 + d, none⟩ = some v0 := fun d hd => ⟨_, (World.ownsRow.cellAt hrow (m * 3 + d) (by omega)).trans (List.getElem?_eq_getElem (by omega))⟩
      obtain ⟨u0, q0⟩ := rd 0 (by omega)
      obtain ⟨u1, q1⟩ := rd 1 (by omega)
      rw [Nat.add_zero] at q0
      have f0 := World.ownsRow.frozenAt hrow (m * 3)
      have f1 := World.ownsRow.frozenAt hrow (m * 3 + 1)
      have hs1 := (World.ownsRow.stored hrow (m * 3) (.int .i64 (J : Int))).1
      have hs2 := (World.ownsRow.stored hs1 (m * 3 + 1) (.int .i64 ((J : Int) + 1))).1
      have hgr : w.grownBy ((wr.setCell ⟨g, m * 3, none⟩ (.int .i64 (J : Int))).setCell ⟨g, m * 3 + 1, none⟩ (.int .i64 ((J : Int) + 1))) (some g) := (hw.trans (but_set wr g (m * 3) _)).trans (but_set _ g (m * 3 + 1) _)
      have HT := hid (set_take ht hyl hlt)
      have HO := hid (opsV_set (os := ys) (m := m) (by omega) (mkO k m))
      have HYL := hid hyl
      have eO : mkO k m = ⟨(J : Int), (J : Int) + 1, mtext (J + 2)⟩ := by unfold mkO; rw [HJ.out]
      rw [eO] at HO HT
      have k2 : m ≤ 8 := by omega
      have k3 : J + 3 ≤ 900 := by rw [HJ.out]; omega
      clear ht hrow hs1 hw rd hl hyl eO
      go_wp2_with fail
      refine (markText_at _ (J + 2) _ (by omega) (by omega) (by omega)).mono ?_
      rintro e w2 ⟨rfl, b2⟩
      have hs3 := own_below hs2 b2 (Nat.le_refl _)
      have hgr2 := hgr.trans (World.grownBy.of_below' b2)
      have hl3 := hs3.1
      obtain ⟨u2, q2⟩ : ∃ v0, w2.cell? ⟨g, m * 3 + 2, none⟩ = some v0 := ⟨_, (World.ownsRow.cellAt hs3 (m * 3 + 2) (by omega)).trans (List.getElem?_eq_getElem (by omega))⟩
      have f2 := World.ownsRow.frozenAt hs3 (m * 3 + 2)
      have hs4 := (World.ownsRow.stored hs3 (m * 3 + 2) (.string (mtext (J + 2)))).1
      have hy4 : OwnOps (w2.setCell ⟨g, m * 3 + 2, none⟩ (.string (mtext (J + 2)))) B (.slice (some ⟨g, 0, none⟩) n c) (ys.set m ⟨(J : Int), (J : Int) + 1, mtext (J + 2)⟩) := by
        unfold OwnOps
        rw [List.length_set, HYL.out, ← HO.out]
        exact hs4
      have hgr4 := hgr2.trans (but_set w2 g (m * 3 + 2) (.string (mtext (J + 2))))
      have HYS : Hid ((ys.set m (⟨(J : Int), (J : Int) + 1, mtext (J + 2)⟩ : Op2)).length = n) := by show _ = _; rw [List.length_set, HYL.out]
      have HJ2 : Hid (J + 3 = k + 3 * (m + 1)) := by show _ = _; rw [HJ.out]; omega
      clear hs2 hs3 hs4 hgr hgr2 hl3 b2 q0 q1 f0 f1
      go_wp2_with fail
      go_roundw
      case rel => exact ⟨m + 1, J + 3, by omega, by go_num, by go_num, by omega, by omega, HJ2, hgr4, _, HYS.out, hy4, HT.out⟩
      case measure => simp [intOf]; omega
    · have hm' : m = n := by omega
      subst hm'
      have e : ys = mks k m := by
        rw [List.take_of_length_le (by omega), List.take_of_length_le (by rw [mks_length]; omega)] at ht
        exact ht
      subst e
      clear ht hyl
      go_wp2
      go_ret
      exact .mk_ HJ.out hy hw
end Go.Proofs.Ytkflpgdbookdhab
