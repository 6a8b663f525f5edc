/-
  Walks: locks freed, and whose they are, by the model.
-/
import Derived.Test.YtcjnlbjlbmadlaaLockT
namespace Go.Proofs.Ytcjnlbjlbmadlaa
open Go.RowKit Wo Pu Rf Lk

theorem free_next {zs : List Int} {t : Int} {k : Nat} (h : k < zs.length) : freeL t (zs.take (k + 1)) = freeL t (zs.take k) ++ [free1 t zs[k]] := by
  unfold freeL
  rw [List.take_succ_eq_append_getElem h, List.map_append]
  rfl
set_option maxRecDepth 100000 in
set_option maxHeartbeats 4000000 in
theorem l12Free_any (A : Option Addr) (c : Nat) (zs : List Int) (t : Int) (w : World) (hz : Row w w.heap.size A (ints zs)) (hm : zs.length ≤ 1048600) :
    Calls Try.prog 38 #[.slice A zs.length c, .int .i64 t] w (IntsOf (freeL t zs) w) := by
  obtain ⟨i0, hi, hz0, hz1, hz2⟩ := info_of info_int
  have al := (Below.refl w.heap.size w).alloc (Nat.le_refl _) (.cells #[] 3)
  have on0 := OwnI.nil_new (w := w) (Nat.le_refl _)
  go_enter Try.func38, Try.ntmps38
  go_wp2_with fail
  go_loopw [5, 6] (fun q i wr => ∃ (k : Nat) (ys : List Int), k ≤ zs.length ∧ i = .int .i64 k ∧ Hid (ys.length = k) ∧ OwnI wr w.heap.size q ys ∧ Hid (freeL t (zs.take k) = ys) ∧ Below w.heap.size w wr) (fun _ i _ => zs.length - (intOf i).toNat)
  case atStart => exact ⟨0, [], Nat.zero_le _, rfl, rfl, on0, rfl, al⟩
  case round =>
    obtain ⟨k, ys, hk, rfl, HL, ho, H, hbr⟩ := hrel
    clear on0 al
    have hzw := hbr.size
    by_cases hlt : k < zs.length
    · obtain ⟨ad, rfl, hbl, hc⟩ := (hz.below hbr (Nat.le_refl _)).int_ hlt
      have q0 : (0 : Int) ≤ (k : Int) := by omega
      have q1 : (k : Int) < (zs.length : Int) := by omega
      have hnx := free_next (t := t) hlt
      rw [H.out] at hnx
      have HL1 : Hid (ys.length ≤ 1048600) := by show _ ≤ _; rw [HL.out]; omega
      have HL2 : Hid (∀ x : Int, (ys ++ [x]).length = k + 1) := fun x => by rw [List.length_append, HL.out]; rfl
      clear H
      by_cases hv : zs[k] = t
      · have e0 : (zs[k] == t) = true := by rw [beq_iff_eq]; exact hv
        have HN : Hid (freeL t (zs.take (k + 1)) = ys ++ [-1]) := by
          show _ = _
          rw [hnx]
          unfold free1
          rw [if_pos hv]
        clear hnx hv
        have oB : (wr.alloc (.cells #[.int .i64 (-1)] 3)).ownsRow w.heap.size 3 1 _ ys.length (ints ys) := World.ownsRow.alloc ho _
        have lt1 := World.ownsRow.lt oB
        go_wp2_with (at_builtin; go_must (refine wpList_append_own _ rfl _ _ 23 rfl w.heap.size 3 i0 (.int .i64 0) 1 8 Try.underlying23 hi hz0 hz1 hz2 rfl (by decide) _ ys.length (ints ys) rfl oB ⟨wr.heap.size, 0, none⟩ 1 1 [.int .i64 (-1)] rfl rfl (cell_one_new _ _ _) (one_int _) (by have := HL1.out; unfold maxLen; omega) (by have := HL1.out; omega) (by simp; omega) ?_); intro u9 w9 hown hg _)
        have o9 := OwnI.app hown
        have b9 : Below w.heap.size w w9 := hbr.trans (((Below.refl w.heap.size wr).alloc hzw _).grown hg (by simp; omega) (fun j hj => (lt1 j hj).1))
        clear hown hg oB lt1 ho hbr
        go_wp2
        go_roundw
        case rel => exact ⟨k + 1, ys ++ [(-1)], by omega, by go_num, HL2.out _, o9, HN, b9⟩
        case measure => simp [intOf]; omega
      · have e0 : (zs[k] == t) = false := by rw [beq_eq_false_iff_ne]; exact hv
        have HN : Hid (freeL t (zs.take (k + 1)) = ys ++ [zs[k]]) := by
          show _ = _
          rw [hnx]
          unfold free1
          rw [if_neg hv]
        obtain ⟨x, hx⟩ : ∃ x, zs[k] = x := ⟨_, rfl⟩
        rw [hx] at HN hc e0
        clear hnx hv hx
        have oB : (wr.alloc (.cells #[.int .i64 x] 3)).ownsRow w.heap.size 3 1 _ ys.length (ints ys) := World.ownsRow.alloc ho _
        have lt1 := World.ownsRow.lt oB
        go_wp2_with (at_builtin; go_must (refine wpList_append_own _ rfl _ _ 23 rfl w.heap.size 3 i0 (.int .i64 0) 1 8 Try.underlying23 hi hz0 hz1 hz2 rfl (by decide) _ ys.length (ints ys) rfl oB ⟨wr.heap.size, 0, none⟩ 1 1 [.int .i64 x] rfl rfl (cell_one_new _ _ _) (one_int _) (by have := HL1.out; unfold maxLen; omega) (by have := HL1.out; omega) (by simp; omega) ?_); intro u9 w9 hown hg _)
        have o9 := OwnI.app hown
        have b9 : Below w.heap.size w w9 := hbr.trans (((Below.refl w.heap.size wr).alloc hzw _).grown hg (by simp; omega) (fun j hj => (lt1 j hj).1))
        clear hown hg oB lt1 ho hbr
        go_wp2
        go_roundw
        case rel => exact ⟨k + 1, ys ++ [x], by omega, by go_num, HL2.out _, o9, HN, b9⟩
        case measure => simp [intOf]; omega
    · have hk' : k = zs.length := by omega
      subst hk'
      have HD : Hid (freeL t zs = ys) := by
        have := H.out
        rwa [List.take_length] at this
      clear H
      go_wp2
      go_ret
      rw [HD.out]
      exact .mk_ ho hbr
end Go.Proofs.Ytcjnlbjlbmadlaa
