/-
  Walk: a drawn record.
-/
import Derived.Test.YtclonfhpabdpgaaLogH
namespace Go.Proofs.Ytclonfhpabdpgaa
open Go.RowKit Wo Pu Lg

theorem OwnStr.but {w w' : World} {R B : Nat} {v : Value} {s : ByteArray} (h : OwnStr w B v s) (hb : But R w w') (hR : R < B) : OwnStr w' B v s :=
  ⟨World.ownsRow.kept h.1 hb (by
    rcases hv : v.ownBlock with _ | k
    · exact .inl rfl
    · refine .inr (fun e => ?_)
      have := (World.ownsRow.lt h.1 k hv).1
      injection e with e
      omega), h.2⟩
theorem byte_of {x y : Int} (x0 : 0 ≤ x) (x1 : x < 16) (y0 : 0 ≤ y) (y1 : y < 16) : 0 ≤ x * y ∧ x * y < 256 := by
  have h1 : 0 ≤ x * y := Int.mul_nonneg x0 y0
  have h2 : x * y ≤ 15 * 15 := Int.mul_le_mul (by omega) (by omega) y0 (by omega)
  omega
theorem byte_nat {z : Int} (h0 : 0 ≤ z) (h1 : z < 256) : z = ((UInt8.ofNat z.toNat).toNat : Int) := by
  rw [UInt8.toNat_ofNat']
  omega
theorem OwnStr.app {w : World} {B : Nat} {v v0 : Value} {t : ByteArray} {z : Int} (h0 : 0 ≤ z) (h1 : z < 256) (h : w.ownsRow B 5 1 v (t.size + 1) (Lib.strCells t ++ [.int .u8 z])) (hn : v0 ≠ .slice none 0 0) (hnil : v = .slice none 0 0 ↔ v0 = .slice none 0 0 ∧ 1 = 0) :
    ∃ b : UInt8, OwnStr w B v (t ++ mk [b]) := by
  refine ⟨UInt8.ofNat z.toNat, ?_, fun e => hn (hnil.1 e).1⟩
  have e1 : (t ++ mk [UInt8.ofNat z.toNat]).size = t.size + 1 := by rw [ByteArray.size_append]; rfl
  have e2 : Lib.strCells t ++ [.int .u8 z] = Lib.strCells (t ++ mk [UInt8.ofNat z.toNat]) := by rw [strCells_append, strCells_one, ← byte_nat h0 h1]
  rw [e1, ← e2]
  exact h
theorem app_sz (t : ByteArray) (b : UInt8) : (t ++ mk [b]).size = t.size + 1 := by rw [ByteArray.size_append]; rfl



set_option maxRecDepth 100000 in
set_option maxHeartbeats 4000000 in
theorem l91Record_any (R : Nat) (q : Int) (w : World) (hR : Rd w R q) (hq : q ≤ 900000000) :
    Calls Try.prog 34 #[.pointer (some ⟨R, 0, none⟩)] w (TextDrawn R q 30 13 w) := by
  obtain ⟨i0, hi, hz0, hz1, hz2⟩ := info_of info_byte
  have hRl := hR.lt
  go_enter Try.func34, Try.ntmps34
  go_wp2_with fail
  refine (pick_any R q 8 w hR (by omega) (by omega) (by omega)).mono ?_
  rintro e w1 ⟨n1, rfl, a0, a1, hR1, hT1⟩
  go_wp2_with fail
  refine (pick_any R (q + 1) 16 w1 hR1 (by omega) (by omega) (by omega)).mono ?_
  rintro e w2 ⟨n2, rfl, b0, b1, hR2, hT2⟩
  have hT := hT1.trans hT2
  clear hT1 hT2 hR1 hR
  by_cases h0 : n2 = 0
  · have e0 : (n2 == 0) = true := by rw [h0]; rfl
    clear h0
    go_wp2_with fail
    have hbA := (Below.refl w2.heap.size w2).alloc (Nat.le_refl _) (.cells #[.int .i64 0, .int .i64 11, .int .i64 12, .int .i64 13] 3)
    have hz := hR2.lt
    refine (pick_any R (q + 1 + 1) 4 _ (hR2.below hbA hz) (by omega) (by omega) (by omega)).mono ?_
    rintro e w3 ⟨n3, rfl, c0, c1, hR3, hT3⟩
    have hT4 := (hT.trans (.of_below hbA)).trans hT3
    have g0 := hT3.cell (b := w2.heap.size) 0 (by simp) (by omega)
    have g1 := hT3.cell (b := w2.heap.size) 1 (by simp) (by omega)
    have g2 := hT3.cell (b := w2.heap.size) 2 (by simp) (by omega)
    have g3 := hT3.cell (b := w2.heap.size) 3 (by simp) (by omega)
    simp [go_sem] at g0 g1 g2 g3
    clear hT hT3 hR2 hbA
    have key : n3 = 0 ∨ n3 = 1 ∨ n3 = 2 ∨ n3 = 3 := by omega
    rcases key with rfl | rfl | rfl | rfl
    ·
      go_wp2_with fail
      go_loopw [4, 5] (fun v i wr => ∃ (k : Nat) (t : ByteArray), (k : Int) ≤ (0 : Int) ∧ i = .int .i64 k ∧ OwnStr wr w.heap.size v t ∧ t.size ≤ k ∧ Rd wr R ((q + 1 + 1 + 1) + 2 * k) ∧ But R w wr) (fun _ i _ => ((0 : Int)).toNat - (intOf i).toNat)
      case atStart => exact ⟨0, ⟨#[]⟩, by omega, rfl, OwnStr.nil_new (hT4).size, Nat.zero_le _, by simpa using (hR3).below ((Below.refl _ _).alloc (Nat.le_refl _) _) (hR3).lt, (hT4).trans (.of_below ((Below.refl _ _).alloc (Nat.le_refl _) _))⟩
      case round =>
        clear hT4 hR3
        obtain ⟨k, t, hk, rfl, ho, hs, hRk, hTk⟩ := hrel
        by_cases hlt : (k : Int) < (0 : Int)
        · exact absurd hlt (by omega)
        · obtain ⟨g, c, rfl, hcv⟩ := ho.form
          go_wp2
          go_ret
          exact ⟨t, rfl, by omega, hRk.more (by omega), hTk⟩
    ·
      go_wp2_with fail
      go_loopw [4, 5] (fun v i wr => ∃ (k : Nat) (t : ByteArray), (k : Int) ≤ (11 : Int) ∧ i = .int .i64 k ∧ OwnStr wr w.heap.size v t ∧ t.size ≤ k ∧ Rd wr R ((q + 1 + 1 + 1) + 2 * k) ∧ But R w wr) (fun _ i _ => ((11 : Int)).toNat - (intOf i).toNat)
      case atStart => exact ⟨0, ⟨#[]⟩, by omega, rfl, OwnStr.nil_new (hT4).size, Nat.zero_le _, by simpa using (hR3).below ((Below.refl _ _).alloc (Nat.le_refl _) _) (hR3).lt, (hT4).trans (.of_below ((Below.refl _ _).alloc (Nat.le_refl _) _))⟩
      case round =>
        clear hT4 hR3
        obtain ⟨k, t, hk, rfl, ho, hs, hRk, hTk⟩ := hrel
        by_cases hlt : (k : Int) < (11 : Int)
        · go_wp2_with fail
          refine (pick_any R _ 16 _ hRk (by omega) (by omega) (by omega)).mono ?_
          rintro e w8 ⟨x, rfl, x0, x1, hR8, hT8⟩
          go_wp2_with fail
          refine (pick_any R _ 16 _ hR8 (by omega) (by omega) (by omega)).mono ?_
          rintro e w9 ⟨y, rfl, y0, y1, hR9, hT9⟩
          obtain ⟨z0, z1⟩ := byte_of x0 x1 y0 y1
          have ho9 := (ho.but hT8 hRl).but hT9 hRl
          have hT9' := (hTk.trans hT8).trans hT9
          clear ho hTk hT8 hT9 hRk hR8
          obtain ⟨z, hz⟩ : ∃ z, x * y = z := ⟨_, rfl⟩
          rw [hz] at z0 z1
          obtain ⟨r9, n9⟩ := ho9
          have a9 := World.ownsRow.alloc r9 (.cells #[.int .u8 z] 5)
          have lt9 := World.ownsRow.lt r9
          have hs9 := hT9'.size
          go_wp2_with (at_builtin; go_must (refine wpList_append_own _ rfl _ _ 22 rfl w.heap.size 5 i0 (.int .u8 0) 1 1 Try.underlying22 hi hz0 hz1 hz2 rfl (by decide) _ t.size (Lib.strCells t) rfl a9 ⟨w9.heap.size, 0, none⟩ 1 1 [.int .u8 z] rfl rfl (cell_one_new _ _ _) (one_byte _) (by unfold maxLen; omega) (by omega) (by simp; omega) ?_); intro u4 w4 hown hg hnil)
          obtain ⟨b, ho4⟩ := OwnStr.app z0 z1 hown n9 hnil
          have al9 := (Below.refl w9.heap.size w9).alloc (Nat.le_refl _) (.cells #[.int .u8 z] 5)
          have hT4 : But R w w4 := World.grownBy.andThen (hT9'.trans (.of_below al9)) hg (fun j hj => .inl (lt9 j hj).1)
          have hR4 := hR9.below (((Below.refl w.heap.size w9).alloc hs9 _).grown hg (by simp; omega) (fun j hj => (lt9 j hj).1)) hRl
          clear hown hg hnil a9 lt9 r9 n9 al9 hz hR9
          go_wp2
          go_roundw
          case rel => exact ⟨k + 1, _, by omega, by go_num, ho4, by rw [app_sz]; omega, hR4.more (by omega), hT4⟩
          case measure => simp [intOf]; omega
        · obtain ⟨g, c, rfl, hcv⟩ := ho.form
          go_wp2
          go_ret
          exact ⟨t, rfl, by omega, hRk.more (by omega), hTk⟩
    ·
      go_wp2_with fail
      go_loopw [4, 5] (fun v i wr => ∃ (k : Nat) (t : ByteArray), (k : Int) ≤ (12 : Int) ∧ i = .int .i64 k ∧ OwnStr wr w.heap.size v t ∧ t.size ≤ k ∧ Rd wr R ((q + 1 + 1 + 1) + 2 * k) ∧ But R w wr) (fun _ i _ => ((12 : Int)).toNat - (intOf i).toNat)
      case atStart => exact ⟨0, ⟨#[]⟩, by omega, rfl, OwnStr.nil_new (hT4).size, Nat.zero_le _, by simpa using (hR3).below ((Below.refl _ _).alloc (Nat.le_refl _) _) (hR3).lt, (hT4).trans (.of_below ((Below.refl _ _).alloc (Nat.le_refl _) _))⟩
      case round =>
        clear hT4 hR3
        obtain ⟨k, t, hk, rfl, ho, hs, hRk, hTk⟩ := hrel
        by_cases hlt : (k : Int) < (12 : Int)
        · go_wp2_with fail
          refine (pick_any R _ 16 _ hRk (by omega) (by omega) (by omega)).mono ?_
          rintro e w8 ⟨x, rfl, x0, x1, hR8, hT8⟩
          go_wp2_with fail
          refine (pick_any R _ 16 _ hR8 (by omega) (by omega) (by omega)).mono ?_
          rintro e w9 ⟨y, rfl, y0, y1, hR9, hT9⟩
          obtain ⟨z0, z1⟩ := byte_of x0 x1 y0 y1
          have ho9 := (ho.but hT8 hRl).but hT9 hRl
          have hT9' := (hTk.trans hT8).trans hT9
          clear ho hTk hT8 hT9 hRk hR8
          obtain ⟨z, hz⟩ : ∃ z, x * y = z := ⟨_, rfl⟩
          rw [hz] at z0 z1
          obtain ⟨r9, n9⟩ := ho9
          have a9 := World.ownsRow.alloc r9 (.cells #[.int .u8 z] 5)
          have lt9 := World.ownsRow.lt r9
          have hs9 := hT9'.size
          go_wp2_with (at_builtin; go_must (refine wpList_append_own _ rfl _ _ 22 rfl w.heap.size 5 i0 (.int .u8 0) 1 1 Try.underlying22 hi hz0 hz1 hz2 rfl (by decide) _ t.size (Lib.strCells t) rfl a9 ⟨w9.heap.size, 0, none⟩ 1 1 [.int .u8 z] rfl rfl (cell_one_new _ _ _) (one_byte _) (by unfold maxLen; omega) (by omega) (by simp; omega) ?_); intro u4 w4 hown hg hnil)
          obtain ⟨b, ho4⟩ := OwnStr.app z0 z1 hown n9 hnil
          have al9 := (Below.refl w9.heap.size w9).alloc (Nat.le_refl _) (.cells #[.int .u8 z] 5)
          have hT4 : But R w w4 := World.grownBy.andThen (hT9'.trans (.of_below al9)) hg (fun j hj => .inl (lt9 j hj).1)
          have hR4 := hR9.below (((Below.refl w.heap.size w9).alloc hs9 _).grown hg (by simp; omega) (fun j hj => (lt9 j hj).1)) hRl
          clear hown hg hnil a9 lt9 r9 n9 al9 hz hR9
          go_wp2
          go_roundw
          case rel => exact ⟨k + 1, _, by omega, by go_num, ho4, by rw [app_sz]; omega, hR4.more (by omega), hT4⟩
          case measure => simp [intOf]; omega
        · obtain ⟨g, c, rfl, hcv⟩ := ho.form
          go_wp2
          go_ret
          exact ⟨t, rfl, by omega, hRk.more (by omega), hTk⟩
    ·
      go_wp2_with fail
      go_loopw [4, 5] (fun v i wr => ∃ (k : Nat) (t : ByteArray), (k : Int) ≤ (13 : Int) ∧ i = .int .i64 k ∧ OwnStr wr w.heap.size v t ∧ t.size ≤ k ∧ Rd wr R ((q + 1 + 1 + 1) + 2 * k) ∧ But R w wr) (fun _ i _ => ((13 : Int)).toNat - (intOf i).toNat)
      case atStart => exact ⟨0, ⟨#[]⟩, by omega, rfl, OwnStr.nil_new (hT4).size, Nat.zero_le _, by simpa using (hR3).below ((Below.refl _ _).alloc (Nat.le_refl _) _) (hR3).lt, (hT4).trans (.of_below ((Below.refl _ _).alloc (Nat.le_refl _) _))⟩
      case round =>
        clear hT4 hR3
        obtain ⟨k, t, hk, rfl, ho, hs, hRk, hTk⟩ := hrel
        by_cases hlt : (k : Int) < (13 : Int)
        · go_wp2_with fail
          refine (pick_any R _ 16 _ hRk (by omega) (by omega) (by omega)).mono ?_
          rintro e w8 ⟨x, rfl, x0, x1, hR8, hT8⟩
          go_wp2_with fail
          refine (pick_any R _ 16 _ hR8 (by omega) (by omega) (by omega)).mono ?_
          rintro e w9 ⟨y, rfl, y0, y1, hR9, hT9⟩
          obtain ⟨z0, z1⟩ := byte_of x0 x1 y0 y1
          have ho9 := (ho.but hT8 hRl).but hT9 hRl
          have hT9' := (hTk.trans hT8).trans hT9
          clear ho hTk hT8 hT9 hRk hR8
          obtain ⟨z, hz⟩ : ∃ z, x * y = z := ⟨_, rfl⟩
          rw [hz] at z0 z1
          obtain ⟨r9, n9⟩ := ho9
          have a9 := World.ownsRow.alloc r9 (.cells #[.int .u8 z] 5)
          have lt9 := World.ownsRow.lt r9
          have hs9 := hT9'.size
          go_wp2_with (at_builtin; go_must (refine wpList_append_own _ rfl _ _ 22 rfl w.heap.size 5 i0 (.int .u8 0) 1 1 Try.underlying22 hi hz0 hz1 hz2 rfl (by decide) _ t.size (Lib.strCells t) rfl a9 ⟨w9.heap.size, 0, none⟩ 1 1 [.int .u8 z] rfl rfl (cell_one_new _ _ _) (one_byte _) (by unfold maxLen; omega) (by omega) (by simp; omega) ?_); intro u4 w4 hown hg hnil)
          obtain ⟨b, ho4⟩ := OwnStr.app z0 z1 hown n9 hnil
          have al9 := (Below.refl w9.heap.size w9).alloc (Nat.le_refl _) (.cells #[.int .u8 z] 5)
          have hT4 : But R w w4 := World.grownBy.andThen (hT9'.trans (.of_below al9)) hg (fun j hj => .inl (lt9 j hj).1)
          have hR4 := hR9.below (((Below.refl w.heap.size w9).alloc hs9 _).grown hg (by simp; omega) (fun j hj => (lt9 j hj).1)) hRl
          clear hown hg hnil a9 lt9 r9 n9 al9 hz hR9
          go_wp2
          go_roundw
          case rel => exact ⟨k + 1, _, by omega, by go_num, ho4, by rw [app_sz]; omega, hR4.more (by omega), hT4⟩
          case measure => simp [intOf]; omega
        · obtain ⟨g, c, rfl, hcv⟩ := ho.form
          go_wp2
          go_ret
          exact ⟨t, rfl, by omega, hRk.more (by omega), hTk⟩
  · have e0 : (n2 == 0) = false := by rw [beq_eq_false_iff_ne]; omega
    clear h0
    go_wp2_with fail
    go_loopw [4, 5] (fun v i wr => ∃ (k : Nat) (t : ByteArray), (k : Int) ≤ (1 + n1) ∧ i = .int .i64 k ∧ OwnStr wr w.heap.size v t ∧ t.size ≤ k ∧ Rd wr R ((q + 1 + 1) + 2 * k) ∧ But R w wr) (fun _ i _ => ((1 + n1)).toNat - (intOf i).toNat)
    case atStart => exact ⟨0, ⟨#[]⟩, by omega, rfl, OwnStr.nil_new (hT).size, Nat.zero_le _, by simpa using (hR2).below ((Below.refl _ _).alloc (Nat.le_refl _) _) (hR2).lt, (hT).trans (.of_below ((Below.refl _ _).alloc (Nat.le_refl _) _))⟩
    case round =>
      clear hT hR2
      obtain ⟨k, t, hk, rfl, ho, hs, hRk, hTk⟩ := hrel
      by_cases hlt : (k : Int) < (1 + n1)
      · go_wp2_with fail
        refine (pick_any R _ 16 _ hRk (by omega) (by omega) (by omega)).mono ?_
        rintro e w8 ⟨x, rfl, x0, x1, hR8, hT8⟩
        go_wp2_with fail
        refine (pick_any R _ 16 _ hR8 (by omega) (by omega) (by omega)).mono ?_
        rintro e w9 ⟨y, rfl, y0, y1, hR9, hT9⟩
        obtain ⟨z0, z1⟩ := byte_of x0 x1 y0 y1
        have ho9 := (ho.but hT8 hRl).but hT9 hRl
        have hT9' := (hTk.trans hT8).trans hT9
        clear ho hTk hT8 hT9 hRk hR8
        obtain ⟨z, hz⟩ : ∃ z, x * y = z := ⟨_, rfl⟩
        rw [hz] at z0 z1
        obtain ⟨r9, n9⟩ := ho9
        have a9 := World.ownsRow.alloc r9 (.cells #[.int .u8 z] 5)
        have lt9 := World.ownsRow.lt r9
        have hs9 := hT9'.size
        go_wp2_with (at_builtin; go_must (refine wpList_append_own _ rfl _ _ 22 rfl w.heap.size 5 i0 (.int .u8 0) 1 1 Try.underlying22 hi hz0 hz1 hz2 rfl (by decide) _ t.size (Lib.strCells t) rfl a9 ⟨w9.heap.size, 0, none⟩ 1 1 [.int .u8 z] rfl rfl (cell_one_new _ _ _) (one_byte _) (by unfold maxLen; omega) (by omega) (by simp; omega) ?_); intro u4 w4 hown hg hnil)
        obtain ⟨b, ho4⟩ := OwnStr.app z0 z1 hown n9 hnil
        have al9 := (Below.refl w9.heap.size w9).alloc (Nat.le_refl _) (.cells #[.int .u8 z] 5)
        have hT4 : But R w w4 := World.grownBy.andThen (hT9'.trans (.of_below al9)) hg (fun j hj => .inl (lt9 j hj).1)
        have hR4 := hR9.below (((Below.refl w.heap.size w9).alloc hs9 _).grown hg (by simp; omega) (fun j hj => (lt9 j hj).1)) hRl
        clear hown hg hnil a9 lt9 r9 n9 al9 hz hR9
        go_wp2
        go_roundw
        case rel => exact ⟨k + 1, _, by omega, by go_num, ho4, by rw [app_sz]; omega, hR4.more (by omega), hT4⟩
        case measure => simp [intOf]; omega
      · obtain ⟨g, c, rfl, hcv⟩ := ho.form
        go_wp2
        go_ret
        exact ⟨t, rfl, by omega, hRk.more (by omega), hTk⟩
end Go.Proofs.Ytclonfhpabdpgaa
