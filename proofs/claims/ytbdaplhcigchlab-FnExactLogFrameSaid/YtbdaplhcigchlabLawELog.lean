/-
  Walks of the exact laws on logs, but LogScan.
-/
import Derived.Test.YtbdaplhcigchlabLogC
import Derived.OpenShut
namespace Go.Proofs.Ytbdaplhcigchlab
open Go.RowKit Wo Pu Lg

theorem szDisk_no (s : ByteArray) (y : Int) (w : World) (hs : s.size ≤ maxLen) (h : 1048576 < s.size) : Calls Try.prog 25 #[dk s y, .int .i64 1048576] w (Ret (.int .i64 (-1)) w) := by
  unfold maxLen at hs
  unfold dk
  go_enter Try.func25, Try.ntmps25
  go_wp2
  go_ret
  exact .mk_ ((Below.refl _ _).alloc (Nat.le_refl _) _)
theorem szDisk_yes (s : ByteArray) (y : Int) (w : World) (h : s.size ≤ 1048576) : Calls Try.prog 25 #[dk s y, .int .i64 1048576] w (Ret (.int .i64 (1048576 - s.size)) w) := by
  unfold dk
  go_enter Try.func25, Try.ntmps25
  go_wp2
  go_ret
  exact .mk_ ((Below.refl _ _).alloc (Nat.le_refl _) _)
set_option maxHeartbeats 1000000 in
theorem toDisk_any (s : ByteArray) (y : Int) (w : World) : Calls Try.prog 26 #[dk s y] w (Ret (dk s y) w) := by
  unfold dk
  go_enter Try.func26, Try.ntmps26
  go_wp2
  refine bodyPost_ret (v := dk s y) (by simp [results, Try.results26, go_sem, dk]) rfl ⟨rfl, ?_⟩
  exact (((Below.refl _ _).alloc (Nat.le_refl _) _).alloc (by simp) _).alloc (by simp; omega) _
theorem eqDisk_same (s : ByteArray) (y : Int) (w : World) : Calls Try.prog 33 #[dk s y, dk s y] w (Ret (.bool true) w) := by
  unfold dk
  go_enter Try.func33, Try.ntmps33
  go_wp2
  go_ret
  exact .mk_ (((Below.refl _ _).alloc (Nat.le_refl _) _).alloc (by simp) _)
theorem toDisk_agg (s : ByteArray) (y : Int) (w : World) : Calls Try.prog 26 #[dk s y] w (Ret (.agg #[.string s, .int .i64 y]) w) := toDisk_any s y w

theorem FnExactDiskValid_big (s : ByteArray) (y : Int)  (w : World) (hs : s.size ≤ maxLen) (hl : 1048576 < s.size) : Calls Try.prog 7 #[dk s y] w (Ret (.bool true) w) := by
  have b0 : Below w.heap.size w (w.alloc (.cells #[.string s, .int .i64 y] 38)) := (Below.refl _ _).alloc (Nat.le_refl _) _
  have u0 := Blk2.new_ w 38 (.string s) (.int .i64 y)
  unfold dk
  go_enter Try.func7, Try.ntmps7
  go_wp2_with fail
  refine (szDisk_no s y _ hs hl).mono ?_
  rintro e w1 ⟨rfl, hb1⟩
  have b1 := Below.trans (b0) (Below.mono hb1 (Below.size (b0)))
  go_wp2
  go_ret
  exact .mk_ b1
set_option maxHeartbeats 1000000 in
theorem FnExactDiskValid_yes (s : ByteArray) (y : Int) (w : World) (hs : s.size ≤ maxLen) (hl : s.size ≤ 1048576) : Calls Try.prog 7 #[dk s y] w (Ret (.bool true) w) := by
  obtain ⟨b, hb⟩ : ∃ b, decide (Vd s y) = b := ⟨_, rfl⟩
  have HB := hid hb
  clear hb
  have b0 : Below w.heap.size w (w.alloc (.cells #[.string s, .int .i64 y] 38)) := (Below.refl _ _).alloc (Nat.le_refl _) _
  have u0 := Blk2.new_ w 38 (.string s) (.int .i64 y)
  unfold dk
  go_enter Try.func7, Try.ntmps7
  go_wp2_with fail
  refine (szDisk_yes s y _ hl).mono ?_
  rintro e w1 ⟨rfl, hb1⟩
  have b1 := Below.trans (b0) (Below.mono hb1 (Below.size (b0)))
  have u1 := u0.later hb1
  obtain ⟨r0, r1, -⟩ := u1.reads
  go_wp2_with fail
  refine (toDisk_agg s y _).mono ?_
  rintro e w2 ⟨rfl, hb2⟩
  have b2 := Below.trans (b1) (Below.mono hb2 (Below.size (b1)))
  have u2 := u1.later hb2
  clear r0 r1
  go_wp2_with fail
  refine (specDiskValid_is b s y _ hs HB.out).mono ?_
  rintro e w3 ⟨rfl, hb3⟩
  have b3 := Below.trans (b2) (Below.mono hb3 (Below.size (b2)))
  have u3 := u2.later hb3
  obtain ⟨r0, r1, -⟩ := u3.reads
  go_wp2_with fail
  refine (toDisk_agg s y _).mono ?_
  rintro e w4 ⟨rfl, hb4⟩
  have b4 := Below.trans (b3) (Below.mono hb4 (Below.size (b3)))
  go_wp2_with fail
  refine (implDiskValid_is b s y _ hs HB.out).mono ?_
  rintro e w5 ⟨rfl, hb5⟩
  have b5 := Below.trans (b4) (Below.mono hb5 (Below.size (b4)))
  go_wp2
  go_ret
  exact .mk_ b5
theorem FnExactDiskValid_any (s : ByteArray) (y : Int) (w : World) (hs : s.size ≤ maxLen) (_ : -9223372036854775808 ≤ y) (_ : y ≤ 9223372036854775807) : Calls Try.prog 7 #[dk s y] w (Ret (.bool true) w) := by
  by_cases hl : s.size ≤ 1048576
  · exact FnExactDiskValid_yes s y w hs hl
  · exact FnExactDiskValid_big s y w hs (by omega)
theorem FnExactLogFrame_any (s : ByteArray) (w : World) (hs : s.size ≤ maxLen) : Calls Try.prog 8 #[.string s] w (Ret (.bool true) w) := by
  have hm := hs
  unfold maxLen at hm
  by_cases hl : s.size ≤ 1048576
  · go_enter Try.func8, Try.ntmps8
    go_wp2_with fail
    refine (specLogFrame_any s _ hs).mono ?_
    rintro e w1 ⟨rfl, hb1⟩
    have b1 := Below.trans (Below.refl w.heap.size w) (Below.mono hb1 (Below.size (Below.refl w.heap.size w)))
    go_wp2_with fail
    refine (implLogFrame_any s _ hs).mono ?_
    rintro e w2 ⟨rfl, hb2⟩
    have b2 := Below.trans (b1) (Below.mono hb2 (Below.size (b1)))
    go_wp2
    go_ret
    exact .mk_ b2
  · go_enter Try.func8, Try.ntmps8
    go_wp2
    go_ret
    exact .mk_ (Below.refl _ _)
theorem syO_form (s : ByteArray) (y : Int) : ∃ t z, syO s y = .agg #[.string t, .int .i64 z] := by
  unfold syO
  split
  · exact ⟨_, _, rfl⟩
  · exact ⟨_, _, rfl⟩
theorem FnExactLogSync_big (s : ByteArray) (y : Int)  (w : World) (hs : s.size ≤ maxLen) (hl : 1048576 < s.size) : Calls Try.prog 11 #[dk s y] w (Ret (.bool true) w) := by
  have b0 : Below w.heap.size w (w.alloc (.cells #[.string s, .int .i64 y] 38)) := (Below.refl _ _).alloc (Nat.le_refl _) _
  have u0 := Blk2.new_ w 38 (.string s) (.int .i64 y)
  unfold dk
  go_enter Try.func11, Try.ntmps11
  go_wp2_with fail
  refine (szDisk_no s y _ hs hl).mono ?_
  rintro e w1 ⟨rfl, hb1⟩
  have b1 := Below.trans (b0) (Below.mono hb1 (Below.size (b0)))
  go_wp2
  go_ret
  exact .mk_ b1
set_option maxHeartbeats 1000000 in
theorem FnExactLogSync_yes (s : ByteArray) (y : Int) (w : World) (hs : s.size ≤ maxLen) (hl : s.size ≤ 1048576) : Calls Try.prog 11 #[dk s y] w (Ret (.bool true) w) := by
  obtain ⟨t, z, hA⟩ := syO_form s y
  have c1 := fun W => specLogSync_any s y W hs
  have c2 := fun W => implLogSync_any s y W hs
  rw [hA] at c1 c2
  have C1 := hid c1
  have C2 := hid c2
  clear hA c1 c2
  have b0 : Below w.heap.size w (w.alloc (.cells #[.string s, .int .i64 y] 38)) := (Below.refl _ _).alloc (Nat.le_refl _) _
  have u0 := Blk2.new_ w 38 (.string s) (.int .i64 y)
  unfold dk
  go_enter Try.func11, Try.ntmps11
  go_wp2_with fail
  refine (szDisk_yes s y _ hl).mono ?_
  rintro e w1 ⟨rfl, hb1⟩
  have b1 := Below.trans (b0) (Below.mono hb1 (Below.size (b0)))
  have u1 := u0.later hb1
  obtain ⟨r0, r1, -⟩ := u1.reads
  go_wp2_with fail
  refine (toDisk_agg s y _).mono ?_
  rintro e w2 ⟨rfl, hb2⟩
  have b2 := Below.trans (b1) (Below.mono hb2 (Below.size (b1)))
  have u2 := u1.later hb2
  clear r0 r1
  go_wp2_with fail
  refine (C1.out _).mono ?_
  rintro e w3 ⟨rfl, hb3⟩
  have b3 := Below.trans (b2) (Below.mono hb3 (Below.size (b2)))
  have u3 := (u2.later hb3).alloc (.cells #[.string t, .int .i64 z] 24)
  have v3 := Blk2.new_ w3 24 (.string t) (.int .i64 z)
  have a3 := b3.alloc b3.size (.cells #[.string t, .int .i64 z] 24)
  obtain ⟨r0, r1, -⟩ := u3.reads
  go_wp2_with fail
  refine (toDisk_agg s y _).mono ?_
  rintro e w4 ⟨rfl, hb4⟩
  have b4 := Below.trans (a3) (Below.mono hb4 (Below.size (a3)))
  have v4 := v3.later hb4
  clear r0 r1 u3 v3
  go_wp2_with fail
  refine (C2.out _).mono ?_
  rintro e w5 ⟨rfl, hb5⟩
  have b5 := Below.trans (b4) (Below.mono hb5 (Below.size (b4)))
  have v5 := (v4.later hb5).alloc (.cells #[.string t, .int .i64 z] 24)
  have x5 := Blk2.new_ w5 24 (.string t) (.int .i64 z)
  have a5 := b5.alloc b5.size (.cells #[.string t, .int .i64 z] 24)
  obtain ⟨r0, r1, -⟩ := v5.reads
  obtain ⟨g0, g1, -⟩ := x5.reads
  go_wp2_with fail
  refine (eqDisk_same t z _).mono ?_
  rintro e w6 ⟨rfl, hb6⟩
  have b6 := Below.trans (a5) (Below.mono hb6 (Below.size (a5)))
  go_wp2
  go_ret
  exact .mk_ b6
theorem FnExactLogSync_any (s : ByteArray) (y : Int) (w : World) (hs : s.size ≤ maxLen) (_ : -9223372036854775808 ≤ y) (_ : y ≤ 9223372036854775807) : Calls Try.prog 11 #[dk s y] w (Ret (.bool true) w) := by
  by_cases hl : s.size ≤ 1048576
  · exact FnExactLogSync_yes s y w hs hl
  · exact FnExactLogSync_big s y w hs (by omega)
theorem crO_form (s : ByteArray) (y k : Int) : ∃ t z, crO s y k = .agg #[.string t, .int .i64 z] := by
  unfold crO
  split
  · exact ⟨_, _, rfl⟩
  · exact ⟨_, _, rfl⟩
theorem FnExactLogCrash_big (s : ByteArray) (y k : Int) (w : World) (hs : s.size ≤ maxLen) (hl : 1048576 < s.size) : Calls Try.prog 12 #[dk s y, .int .i64 k] w (Ret (.bool true) w) := by
  have b0 : Below w.heap.size w (w.alloc (.cells #[.string s, .int .i64 y] 38)) := (Below.refl _ _).alloc (Nat.le_refl _) _
  have u0 := Blk2.new_ w 38 (.string s) (.int .i64 y)
  unfold dk
  go_enter Try.func12, Try.ntmps12
  go_wp2_with fail
  refine (szDisk_no s y _ hs hl).mono ?_
  rintro e w1 ⟨rfl, hb1⟩
  have b1 := Below.trans (b0) (Below.mono hb1 (Below.size (b0)))
  go_wp2
  go_ret
  exact .mk_ b1
set_option maxHeartbeats 1000000 in
theorem FnExactLogCrash_yes (s : ByteArray) (y k : Int) (w : World) (hs : s.size ≤ maxLen) (hk : k ≤ 9223372036854775807) (hl : s.size ≤ 1048576) : Calls Try.prog 12 #[dk s y, .int .i64 k] w (Ret (.bool true) w) := by
  obtain ⟨t, z, hA⟩ := crO_form s y k
  have c1 := fun W => specLogCrash_any s y k W hs hk
  have c2 := fun W => implLogCrash_any s y k W hs hk
  rw [hA] at c1 c2
  have C1 := hid c1
  have C2 := hid c2
  clear hA c1 c2
  have b0 : Below w.heap.size w (w.alloc (.cells #[.string s, .int .i64 y] 38)) := (Below.refl _ _).alloc (Nat.le_refl _) _
  have u0 := Blk2.new_ w 38 (.string s) (.int .i64 y)
  unfold dk
  go_enter Try.func12, Try.ntmps12
  go_wp2_with fail
  refine (szDisk_yes s y _ hl).mono ?_
  rintro e w1 ⟨rfl, hb1⟩
  have b1 := Below.trans (b0) (Below.mono hb1 (Below.size (b0)))
  have u1 := u0.later hb1
  obtain ⟨r0, r1, -⟩ := u1.reads
  go_wp2_with fail
  refine (toDisk_agg s y _).mono ?_
  rintro e w2 ⟨rfl, hb2⟩
  have b2 := Below.trans (b1) (Below.mono hb2 (Below.size (b1)))
  have u2 := u1.later hb2
  clear r0 r1
  go_wp2_with fail
  refine (C1.out _).mono ?_
  rintro e w3 ⟨rfl, hb3⟩
  have b3 := Below.trans (b2) (Below.mono hb3 (Below.size (b2)))
  have u3 := (u2.later hb3).alloc (.cells #[.string t, .int .i64 z] 24)
  have v3 := Blk2.new_ w3 24 (.string t) (.int .i64 z)
  have a3 := b3.alloc b3.size (.cells #[.string t, .int .i64 z] 24)
  obtain ⟨r0, r1, -⟩ := u3.reads
  go_wp2_with fail
  refine (toDisk_agg s y _).mono ?_
  rintro e w4 ⟨rfl, hb4⟩
  have b4 := Below.trans (a3) (Below.mono hb4 (Below.size (a3)))
  have v4 := v3.later hb4
  clear r0 r1 u3 v3
  go_wp2_with fail
  refine (C2.out _).mono ?_
  rintro e w5 ⟨rfl, hb5⟩
  have b5 := Below.trans (b4) (Below.mono hb5 (Below.size (b4)))
  have v5 := (v4.later hb5).alloc (.cells #[.string t, .int .i64 z] 24)
  have x5 := Blk2.new_ w5 24 (.string t) (.int .i64 z)
  have a5 := b5.alloc b5.size (.cells #[.string t, .int .i64 z] 24)
  obtain ⟨r0, r1, -⟩ := v5.reads
  obtain ⟨g0, g1, -⟩ := x5.reads
  go_wp2_with fail
  refine (eqDisk_same t z _).mono ?_
  rintro e w6 ⟨rfl, hb6⟩
  have b6 := Below.trans (a5) (Below.mono hb6 (Below.size (a5)))
  go_wp2
  go_ret
  exact .mk_ b6
theorem FnExactLogCrash_any (s : ByteArray) (y k : Int) (w : World) (hs : s.size ≤ maxLen) (_ : -9223372036854775808 ≤ y) (_ : y ≤ 9223372036854775807) (hk : (Lit.int .i64 k).wf = true) : Calls Try.prog 12 #[dk s y, .int .i64 k] w (Ret (.bool true) w) := by
  have b := bounds_i64 hk
  by_cases hl : s.size ≤ 1048576
  · exact FnExactLogCrash_yes s y k w hs (by omega) hl
  · exact FnExactLogCrash_big s y k w hs (by omega)
theorem apO_form (s : ByteArray) (y : Int) (r : ByteArray) : ∃ t z b, apO s y r = .tuple #[.agg #[.string t, .int .i64 z], .bool b] := by
  unfold apO
  split
  · split
    · exact ⟨_, _, _, rfl⟩
    · exact ⟨_, _, _, rfl⟩
  · exact ⟨_, _, _, rfl⟩
theorem FnExactLogAppend_big (s : ByteArray) (y : Int) (r : ByteArray) (w : World) (hs : s.size ≤ maxLen) (hr : r.size ≤ maxLen) (hl : 1048576 < s.size) : Calls Try.prog 10 #[dk s y, .string r] w (Ret (.bool true) w) := by
  unfold maxLen at hr
  by_cases hrl : r.size ≤ 1048576
  ·
    have b0 : Below w.heap.size w (w.alloc (.cells #[.string s, .int .i64 y] 38)) := (Below.refl _ _).alloc (Nat.le_refl _) _
    have u0 := Blk2.new_ w 38 (.string s) (.int .i64 y)
    unfold dk
    go_enter Try.func10, Try.ntmps10
    go_wp2_with fail
    refine (szDisk_no s y _ hs hl).mono ?_
    rintro e w1 ⟨rfl, hb1⟩
    have b1 := Below.trans (b0) (Below.mono hb1 (Below.size (b0)))
    go_wp2
    go_ret
    exact .mk_ b1
  ·
    have b0 : Below w.heap.size w (w.alloc (.cells #[.string s, .int .i64 y] 38)) := (Below.refl _ _).alloc (Nat.le_refl _) _
    have u0 := Blk2.new_ w 38 (.string s) (.int .i64 y)
    unfold dk
    go_enter Try.func10, Try.ntmps10
    go_wp2
    go_ret
    exact .mk_ b0
theorem FnExactLogAppend_rec (s : ByteArray) (y : Int) (r : ByteArray) (w : World) (hr : r.size ≤ maxLen) (hl : 1048576 < r.size) : Calls Try.prog 10 #[dk s y, .string r] w (Ret (.bool true) w) := by
  unfold maxLen at hr
  have b0 : Below w.heap.size w (w.alloc (.cells #[.string s, .int .i64 y] 38)) := (Below.refl _ _).alloc (Nat.le_refl _) _
  have u0 := Blk2.new_ w 38 (.string s) (.int .i64 y)
  unfold dk
  go_enter Try.func10, Try.ntmps10
  clear u0
  go_wp2
  go_ret
  exact .mk_ b0
set_option maxHeartbeats 1000000 in
theorem FnExactLogAppend_yes (s : ByteArray) (y : Int) (r : ByteArray) (w : World) (hs : s.size ≤ maxLen) (hr : r.size ≤ maxLen) (hl : s.size ≤ 1048576) (hrl : r.size ≤ 1048576) : Calls Try.prog 10 #[dk s y, .string r] w (Ret (.bool true) w) := by
  obtain ⟨t, z, b, hA⟩ := apO_form s y r
  have c1 := fun W => specLogAppend_any s y r W hs hr
  have c2 := fun W => implLogAppend_any s y r W hs hr
  rw [hA] at c1 c2
  have C1 := hid c1
  have C2 := hid c2
  clear hA c1 c2
  have b0 : Below w.heap.size w (w.alloc (.cells #[.string s, .int .i64 y] 38)) := (Below.refl _ _).alloc (Nat.le_refl _) _
  have u0 := Blk2.new_ w 38 (.string s) (.int .i64 y)
  unfold dk
  go_enter Try.func10, Try.ntmps10
  go_wp2_with fail
  refine (szDisk_yes s y _ hl).mono ?_
  rintro e w1 ⟨rfl, hb1⟩
  have b1 := Below.trans (b0) (Below.mono hb1 (Below.size (b0)))
  have u1 := u0.later hb1
  obtain ⟨r0, r1, -⟩ := u1.reads
  go_wp2_with fail
  refine (toDisk_agg s y _).mono ?_
  rintro e w2 ⟨rfl, hb2⟩
  have b2 := Below.trans (b1) (Below.mono hb2 (Below.size (b1)))
  have u2 := u1.later hb2
  clear r0 r1
  go_wp2_with fail
  refine (C1.out _).mono ?_
  rintro e w3 ⟨rfl, hb3⟩
  have b3 := Below.trans (b2) (Below.mono hb3 (Below.size (b2)))
  have u3 := (u2.later hb3).alloc (.cells #[.string t, .int .i64 z] 24)
  have v3 := Blk2.new_ w3 24 (.string t) (.int .i64 z)
  have a3 := b3.alloc b3.size (.cells #[.string t, .int .i64 z] 24)
  obtain ⟨r0, r1, -⟩ := u3.reads
  go_wp2_with fail
  refine (toDisk_agg s y _).mono ?_
  rintro e w4 ⟨rfl, hb4⟩
  have b4 := Below.trans (a3) (Below.mono hb4 (Below.size (a3)))
  have v4 := v3.later hb4
  clear r0 r1 u3 v3
  go_wp2_with fail
  refine (C2.out _).mono ?_
  rintro e w5 ⟨rfl, hb5⟩
  have b5 := Below.trans (b4) (Below.mono hb5 (Below.size (b4)))
  have v5 := (v4.later hb5).alloc (.cells #[.string t, .int .i64 z] 24)
  have x5 := Blk2.new_ w5 24 (.string t) (.int .i64 z)
  have a5 := b5.alloc b5.size (.cells #[.string t, .int .i64 z] 24)
  obtain ⟨r0, r1, -⟩ := v5.reads
  obtain ⟨g0, g1, -⟩ := x5.reads
  go_wp2_with fail
  refine (eqDisk_same t z _).mono ?_
  rintro e w6 ⟨rfl, hb6⟩
  have b6 := Below.trans (a5) (Below.mono hb6 (Below.size (a5)))
  go_wp2
  go_ret
  exact .mk_ b6
theorem FnExactLogAppend_any (s : ByteArray) (y : Int) (r : ByteArray) (w : World) (hs : s.size ≤ maxLen) (_ : -9223372036854775808 ≤ y) (_ : y ≤ 9223372036854775807) (hr : r.size ≤ maxLen) : Calls Try.prog 10 #[dk s y, .string r] w (Ret (.bool true) w) := by
  by_cases hrl : r.size ≤ 1048576
  · by_cases hl : s.size ≤ 1048576
    · exact FnExactLogAppend_yes s y r w hs hr hl hrl
    · exact FnExactLogAppend_big s y r w hs hr (by omega)
  · exact FnExactLogAppend_rec s y r w hr (by omega)
end Go.Proofs.Ytbdaplhcigchlab
