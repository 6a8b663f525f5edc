/-
  Walks: the shards that a transaction waits for, and a transaction after a vote, by the program.
-/
import Derived.Test.YtelmeknpmlbplaaG3C
import Derived.Test.YtelmeknpmlbplaaTxnJ
import Derived.Test.YtelmeknpmlbplaaG5C
namespace Go.Proofs.Ytelmeknpmlbplaa
open Go.RowKit Wo Pu Rf Co

set_option linter.unusedVariables false in
/-- The shards that it waits for, if it is not decided. -/
def waitsD (t : Tx) : List Int := if t.d = 0 then waitsT t else []
set_option linter.unusedVariables false in
set_option linter.unusedSimpArgs false in
set_option maxRecDepth 100000 in
set_option maxHeartbeats 8000000 in
theorem txWaits_is (A : Option Addr) (c : Nat) (A2 : Option Addr) (c2 : Nat) (t : Tx) (w : World) (h1 : Parts w w.heap.size A t.ps) (h2 : Row w w.heap.size A2 (ints t.vs)) (hm : t.ps.length ≤ 1048576) (hl : t.vs.length = t.ps.length) :
    Calls Try.prog 58 #[.agg #[.slice A t.ps.length c, .slice A2 t.vs.length c2, .int .i64 t.d]] w (IntsOf (waitsD t) w) := by
  obtain ⟨i1, hj, hy0, hy1, hy2⟩ := info_of info_int
  have b1 := ((Below.refl w.heap.size w).alloc (Nat.le_refl _) (.cells #[.slice A t.ps.length c, .slice A2 t.vs.length c2, .int .i64 t.d] 33)).alloc (by simp) (.cells #[] 3)
  have x0 := (Blk3s.new_ w 33 (.slice A t.ps.length c) (.slice A2 t.vs.length c2) (.int .i64 t.d)).alloc (.cells #[] 3)
  have o1 := OwnI.nil_new (w := w.alloc (.cells #[.slice A t.ps.length c, .slice A2 t.vs.length c2, .int .i64 t.d] 33)) (B := w.heap.size) (by simp)
  rw [World.size_alloc] at o1
  have HVL := hid hl
  clear hl
  go_enter Try.func58, Try.ntmps58
  go_upto_region 2 with fail
  obtain ⟨w1, hw1⟩ : ∃ x, (w.alloc (.cells #[.slice A t.ps.length c, .slice A2 t.vs.length c2, .int .i64 t.d] 33)).alloc (.cells #[] 3) = x := ⟨_, rfl⟩
  rw [hw1] at b1 x0 o1 ⊢
  clear hw1
  obtain ⟨y0, y1, y2, -⟩ := id x0.reads
  by_cases hd : t.d = 0
  · have e0 : (t.d != 0) = false := by rw [bne_eq_false_iff_eq]; exact hd
    have HL : Hid (waitsD t = waitsTo t t.ps.length) := by
      show waitsD t = _
      unfold waitsD
      rw [if_pos hd, waitsTo_all HVL.out]
    clear hd
    go_wp2_with fail
    go_loopw [3, 14] (fun o i wr => ∃ (k : Nat) (ys : List Int) (Ao : Option Addr) (co : Nat), k ≤ t.ps.length ∧ i = .int .i64 k ∧ o = .slice Ao ys.length co ∧ Hid (ys = waitsTo t k) ∧ OwnI wr w.heap.size (.slice Ao ys.length co) ys ∧ Blk3s wr w.heap.size 33 (.slice A t.ps.length c) (.slice A2 t.vs.length c2) (.int .i64 t.d) ∧ Below w.heap.size w wr) (fun _ i _ => t.ps.length - (intOf i).toNat)
    case atStart => exact ⟨0, [], _, _, Nat.zero_le _, rfl, rfl, (waitsTo_zero t).symm, o1, x0, b1⟩
    case round =>
      obtain ⟨k, ys, Ao, co, hk, rfl, rfl, HY, oy, x9, hb⟩ := hrel
      clear o1 b1 x0 y0 y1 y2
      have hz := hb.size
      by_cases hlt : k < t.ps.length
      · have hkv : k < t.vs.length := by rw [HVL.out]; exact hlt
        obtain ⟨ad9, rfl, hbl9, hcv⟩ := h2.int_ hkv
        obtain ⟨p, ad8, A5, c5, hop, rfl, hbp, p0, p1, -, -⟩ := h1.part hlt
        have k2 : (0 : Int) ≤ (k : Int) := by omega
        have k3 : (k : Int) < (t.ps.length : Int) := by omega
        have k4 : (k : Int) < (t.vs.length : Int) := by omega
        have hyl : ys.length ≤ t.ps.length := by rw [HY.out]; exact waitsTo_len t k
        have al := (Below.refl wr.heap.size wr).alloc (Nat.le_refl _) (.cells #[.int .i64 p.s, .slice A5 p.us.length c5] 36)
        have hb2 := hb.trans (al.mono hz)
        have x10 := x9.later al
        have z5 := Blk2s.new_ wr 36 (.int .i64 p.s) (.slice A5 p.us.length c5)
        obtain ⟨y0, y1, y2, -⟩ := id x9.reads
        obtain ⟨x0, x1, x2, -⟩ := id x10.reads
        obtain ⟨z0, z1, -⟩ := id z5.reads
        have q0 := (hb.cell hbp).trans p0
        have q1 := (hb.cell (p := ⟨(ad8.add (k * 2)).block, (ad8.add (k * 2)).off + 1, none⟩) hbp).trans p1
        have q9 := (hb2.cell (p := ad9.add k) (by unfold Addr.add; split <;> exact hbl9)).trans hcv
        have oB := World.ownsRow.alloc oy (.cells #[.int .i64 p.s, .slice A5 p.us.length c5] 36)
        clear p0 p1 hcv
        by_cases hv : t.vs[k] = 0
        · have e1 : (t.vs[k] == 0) = true := by rw [beq_iff_eq]; exact hv
          have HN : Hid (ys ++ [p.s] = waitsTo t (k + 1)) := by show _ = _; rw [waitsTo_next hlt hkv, if_pos hv, HY.out, hop]
          clear hv HY
          go_upto_region 8 with fail
          obtain ⟨w5, hw5⟩ : ∃ x, wr.alloc (.cells #[.int .i64 p.s, .slice A5 p.us.length c5] 36) = x := ⟨_, rfl⟩
          rw [hw5] at hb2 x10 z0 z1 oB ⊢
          clear hw5 x0 x1 x2 q9 z5 al
          have oA := World.ownsRow.alloc oB (.cells #[.int .i64 p.s] 3)
          have al := (Below.refl w5.heap.size w5).alloc (Nat.le_refl _) (.cells #[.int .i64 p.s] 3)
          have x11 := x10.later al
          have hb10 := hb2.trans (al.mono hb2.size)
          clear oB x10 al q0 q1 y0 y1 y2 oy
          go_wp2_with (at_builtin; go_must (refine wpList_append_row _ rfl _ _ 24 rfl w.heap.size 3 i1 (.int .i64 0) 1 8 Try.underlying24 hj hy0 hy1 hy2 rfl (by decide) _ ys.length _ rfl oA (w5.heap.size + 1) (some ⟨w5.heap.size, 0, none⟩) 1 1 [.int .i64 p.s] rfl (.inr ⟨_, rfl, Nat.lt_succ_self _, cell_one_new _ _ _⟩) rfl (one_int _) (by unfold maxLen; omega) (by omega) hb10.size ?_); intro v7 w7 hown hg; have o7 : OwnI w7 w.heap.size v7 (ys ++ [p.s]) := OwnI.app hown; obtain ⟨A7, c7, rfl, -, -⟩ := o7.form; have x7 := x11.grown hg (blk_ne_row x11 oA (by decide)); have b7 := hb10.grown hg hb10.size (fun j hj => (World.ownsRow.lt oA j hj).1))
          go_roundw
          case rel => exact ⟨k + 1, ys ++ [p.s], A7, c7, by omega, by go_num, by rw [List.length_append]; rfl, HN, o7, x7, b7⟩
          case measure => simp [intOf]; omega
        · have e1 : (t.vs[k] == 0) = false := by rw [beq_eq_false_iff_ne]; exact hv
          have HN : Hid (ys = waitsTo t (k + 1)) := by show _ = _; rw [waitsTo_next hlt hkv, if_neg hv, HY.out]
          have oy2 : OwnI _ w.heap.size (.slice Ao ys.length co) ys := oB
          clear hv HY oB oy
          go_wp2
          go_roundw
          case rel => exact ⟨k + 1, ys, Ao, co, by omega, by go_num, rfl, HN, oy2, x10, hb2⟩
          case measure => simp [intOf]; omega
      · have hk' : k = t.ps.length := by omega
        subst hk'
        have e := HY.out.trans HL.out.symm
        clear HL HY
        subst e
        go_wp2
        go_ret
        exact .mk_ oy hb
  · have e0 : (t.d != 0) = true := by rw [bne_iff_ne]; exact hd
    have e : waitsD t = [] := by unfold waitsD; rw [if_neg hd]
    have HE := hid e
    clear hd e
    go_wp2
    go_ret
    rw [HE.out]
    exact .mk_ o1 b1
end Go.Proofs.Ytelmeknpmlbplaa
