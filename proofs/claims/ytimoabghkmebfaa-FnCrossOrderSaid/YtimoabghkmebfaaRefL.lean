/-
  Walks: the laws' own helpers on updates: compared, turned round.
-/
import Derived.Test.YtimoabghkmebfaaDrawV
namespace Go.Proofs.Ytimoabghkmebfaa
open Go.RowKit Wo Pu Rf

set_option maxHeartbeats 2000000 in
theorem sameUpdates_ret (A A2 : Option Addr) (c c2 : Nat) (os : List Up) (w : World) (B C : Nat) (h : Row w B A (upsV os)) (h2 : Row w C A2 (upsV os)) (hn : os.length ≤ 1048600) :
    Calls Try.prog 20 #[.slice A os.length c, .slice A2 os.length c2] w (Ret (.bool true) w) := by
  go_enter Try.func20, Try.ntmps20
  go_wp2
  go_loopw [5] (fun i wr => ∃ k : Nat, k ≤ os.length ∧ i = .int .i64 k ∧ Dr w wr) (fun i _ => os.length - (intOf i).toNat)
  case atStart => exact ⟨0, Nat.zero_le _, rfl, .refl _⟩
  case round =>
    obtain ⟨k, hk, rfl, HW⟩ := hrel
    by_cases hlt : k < os.length
    · obtain ⟨o, ad, ho, rfl, ha1, g0, g1, g2⟩ := (HW.row h).up_ hlt
      obtain ⟨o2, ad2, ho2, rfl, ha2, g20, g21, g22⟩ := (HW.row h2).up_ hlt
      obtain rfl : o = o2 := by rw [← ho, ← ho2]
      have k0 : 0 ≤ (k : Int) := by omega
      have k1 : (k : Int) < (os.length : Int) := by omega
      clear ho ho2
      go_wp2
      go_quiet (fail)
      go_wp2
      go_roundw
      case rel => exact ⟨k + 1, by omega, by go_num, HW.drewN _⟩
      case measure => simp [intOf]; omega
    · have hk' : k = os.length := by omega
      subst hk'
      go_wp2
      go_ret
      exact .mk_ (HW.below _)
theorem inv_next {us : List Up} {k : Nat} (h : k < us.length) : inv (us.take (k + 1)) = inv (us.take k) ++ [⟨us[k].r, us[k].n, us[k].o⟩] := by
  unfold inv
  rw [List.take_succ_eq_append_getElem h, List.map_append]
  rfl
set_option maxRecDepth 100000 in
set_option maxHeartbeats 4000000 in
theorem inverse_any (A : Option Addr) (c : Nat) (us : List Up) (w : World) (hu : Row w w.heap.size A (upsV us)) (hm : us.length ≤ 1048600) :
    Calls Try.prog 16 #[.slice A us.length c] w (UpsOf (inv us) w) := by
  obtain ⟨i0, hi, hz0, hz1, hz2⟩ := info_of info_up
  have al := (Below.refl w.heap.size w).alloc (Nat.le_refl _) (.cells #[] 31)
  have on0 := OwnUps.nil_new (w := w) (Nat.le_refl _)
  go_enter Try.func16, Try.ntmps16
  go_wp2_with fail
  go_loopw [3, 4] (fun q i wr => ∃ (k : Nat) (vs : List Up), k ≤ us.length ∧ i = .int .i64 k ∧ vs.length = k ∧ OwnUps wr w.heap.size q vs ∧ Hid (inv (us.take k) = vs) ∧ Below w.heap.size w wr) (fun _ i _ => us.length - (intOf i).toNat)
  case atStart => exact ⟨0, [], Nat.zero_le _, rfl, rfl, on0, rfl, al⟩
  case round =>
    obtain ⟨k, vs, hk, rfl, hul, ho, H, hbr⟩ := hrel
    clear on0 al
    have hz := hbr.size
    have hV := hid hul
    clear hul
    by_cases hlt : k < us.length
    · obtain ⟨o, ad, hoe, rfl, ha1, g0, g1, g2⟩ := ((hu.below hbr (Nat.le_refl _)).more hz).up_ hlt
      have q0 : (0 : Int) ≤ (k : Int) := by omega
      have q1 : (k : Int) < (us.length : Int) := by omega
      have HN : Hid (inv (us.take (k + 1)) = vs ++ [⟨o.r, o.n, o.o⟩]) := by
        show _ = _
        rw [inv_next hlt, H.out, hoe]
      clear H hoe
      have oA : (wr.drew.alloc (.cells #[.int .i64 o.r, .int .i64 o.n, .int .i64 o.o] 31)).ownsRow w.heap.size 31 3 u3 vs.length (upsV vs) := World.ownsRow.alloc (w := wr.drew) ho _
      have rA := row_three wr.drew (.int .i64 o.r) (.int .i64 o.n) (.int .i64 o.o) 31
      have bA : Below w.heap.size w (wr.drew.alloc (.cells #[.int .i64 o.r, .int .i64 o.n, .int .i64 o.o] 31)) := (hbr.drew).alloc hz _
      have lt1 := World.ownsRow.lt oA
      have hvl : vs.length ≤ 1048600 := by rw [hV.out]; omega
      clear ho
      go_wp2_with fail
      go_region_law (refine step_append_row _ (by rfl) _ _ 24 (by rfl) w.heap.size 31 i0 (.agg #[.int .i64 0, .int .i64 0, .int .i64 0]) 3 24 Try.underlying24 hi hz0 hz1 hz2 rfl (by decide) u3 vs.length (upsV vs) (by rfl) oA _ (some ⟨wr.heap.size, 0, none⟩) 1 1 [.int .i64 o.r, .int .i64 o.n, .int .i64 o.o] (by rfl) rA rfl (upV_cells ⟨o.r, o.n, o.o⟩) (by unfold maxLen; omega) (by omega) (by simp; omega) ?_; intro v3 w7 ho3 hg3; have b7 : Below w.heap.size w w7 := bA.grown hg3 (by simp; omega) (fun j hj => (lt1 j hj).1); have o7 := OwnUps.app (u := ⟨o.r, o.n, o.o⟩) ho3; clear ho3 hg3)
      all_goals
        go_wp2
        go_roundw
        case rel => exact ⟨k + 1, vs ++ [⟨o.r, o.n, o.o⟩], by omega, by go_num, by rw [List.length_append, List.length_singleton, hV.out], o7, HN, b7⟩
        case measure => simp [intOf]; omega
    · have hk' : k = us.length := by omega
      subst hk'
      have HD : Hid (inv us = vs) := by
        have := H.out
        rwa [List.take_length] at this
      clear H
      go_wp2
      go_ret
      rw [HD.out]
      exact .mk_ ho hbr
end Go.Proofs.Ytimoabghkmebfaa
