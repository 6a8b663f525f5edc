/-
  Walks: LogCrash, of the program and of the model.
-/
import Derived.Test.YtclonfhpabdpgaaLogE
namespace Go.Proofs.Ytclonfhpabdpgaa
open Go.RowKit Wo Pu Lg

set_option maxHeartbeats 1000000 in
theorem implLogCrash_bad (s : ByteArray) (y k : Int) (w : World) (hs : s.size ≤ maxLen) (h : ¬ Vd s y) : Calls Try.prog 30 #[dk s y, .int .i64 k] w (Ret (dk ⟨#[]⟩ 0) w) := by
  unfold dk
  have T := Two.new_ w s y
  go_enter Try.func30, Try.ntmps30
  go_wp2_with fail
  refine (implValid_is false s y _ hs (decide_eq_false h)).mono ?_
  rintro e w2 ⟨rfl, hb2⟩
  have T2 := T.later hb2
  clear T hb2
  obtain ⟨r0, r1, r2, r3, r4, r5⟩ := T2.reads
  obtain ⟨tp, tb⟩ := T2.put ⟨#[]⟩ 0
  obtain ⟨p0, p1, -⟩ := tp.reads
  go_wp2_with fail
  exact bodyPost_ret (v := dk ⟨#[]⟩ 0) (by simp [results, Try.results30, go_sem, dk, p0, p1]) rfl ⟨rfl, tb⟩
set_option maxHeartbeats 1000000 in
theorem specLogCrash_bad (s : ByteArray) (y k : Int) (w : World) (hs : s.size ≤ maxLen) (h : ¬ Vd s y) : Calls Try.prog 33 #[dk s y, .int .i64 k] w (Ret (dk ⟨#[]⟩ 0) w) := by
  unfold dk
  have T := Two.new_ w s y
  go_enter Try.func33, Try.ntmps33
  go_wp2_with fail
  refine (specDiskValid_is false s y _ hs (decide_eq_false h)).mono ?_
  rintro e w2 ⟨rfl, hb2⟩
  have T2 := T.later hb2
  clear T hb2
  obtain ⟨r0, r1, r2, r3, r4, r5⟩ := T2.reads
  obtain ⟨tp, tb⟩ := T2.put ⟨#[]⟩ 0
  obtain ⟨p0, p1, -⟩ := tp.reads
  go_wp2_with fail
  exact bodyPost_ret (v := dk ⟨#[]⟩ 0) (by simp [results, Try.results33, go_sem, dk, p0, p1]) rfl ⟨rfl, tb⟩
set_option maxHeartbeats 1000000 in
theorem implLogCrash_neg (s : ByteArray) (y k : Int) (w : World) (h : Vd s y) (hk : k < 0) : Calls Try.prog 30 #[dk s y, .int .i64 k] w (Ret (dk ⟨#[]⟩ 0) w) := by
  have hs : s.size ≤ maxLen := by have := h.1; unfold maxLen; omega
  have ek : decide (k < 0) = true := by simp [hk]
  unfold dk
  have T := Two.new_ w s y
  go_enter Try.func30, Try.ntmps30
  go_wp2_with fail
  refine (implValid_is true s y _ hs (decide_eq_true h)).mono ?_
  rintro e w2 ⟨rfl, hb2⟩
  have T2 := T.later hb2
  clear T hb2
  obtain ⟨r0, r1, r2, r3, r4, r5⟩ := T2.reads
  obtain ⟨tp, tb⟩ := T2.put ⟨#[]⟩ 0
  obtain ⟨p0, p1, -⟩ := tp.reads
  go_wp2_with fail
  exact bodyPost_ret (v := dk ⟨#[]⟩ 0) (by simp [results, Try.results30, go_sem, dk, p0, p1]) rfl ⟨rfl, tb⟩
set_option maxHeartbeats 1000000 in
theorem specLogCrash_neg (s : ByteArray) (y k : Int) (w : World) (h : Vd s y) (hk : k < 0) : Calls Try.prog 33 #[dk s y, .int .i64 k] w (Ret (dk ⟨#[]⟩ 0) w) := by
  have hs : s.size ≤ maxLen := by have := h.1; unfold maxLen; omega
  have ek : decide (k < 0) = true := by simp [hk]
  unfold dk
  have T := Two.new_ w s y
  go_enter Try.func33, Try.ntmps33
  go_wp2_with fail
  refine (specDiskValid_is true s y _ hs (decide_eq_true h)).mono ?_
  rintro e w2 ⟨rfl, hb2⟩
  have T2 := T.later hb2
  clear T hb2
  obtain ⟨r0, r1, r2, r3, r4, r5⟩ := T2.reads
  obtain ⟨tp, tb⟩ := T2.put ⟨#[]⟩ 0
  obtain ⟨p0, p1, -⟩ := tp.reads
  go_wp2_with fail
  exact bodyPost_ret (v := dk ⟨#[]⟩ 0) (by simp [results, Try.results33, go_sem, dk, p0, p1]) rfl ⟨rfl, tb⟩

/-- How many bytes are looked at. -/
def crN (s : ByteArray) (y k : Int) : Nat := min s.size (y.toNat + k.toNat)
/-- What LogCrash answers. -/
def crO (s : ByteArray) (y k : Int) : Value := if Vd s y ∧ 0 ≤ k then dk (s.extract 0 (used (bl (s.extract 0 (crN s y k))))) (used (bl (s.extract 0 (crN s y k))) : Nat) else dk ⟨#[]⟩ 0

theorem crN_le (s : ByteArray) (y k : Int) : crN s y k ≤ s.size := Nat.min_le_left _ _
theorem crU_le (s : ByteArray) (n : Nat) : used (bl (s.extract 0 n)) ≤ s.size := by
  have h := used_le (bl (s.extract 0 n))
  rw [bl_size, ByteArray.size_extract] at h
  omega
set_option maxHeartbeats 4000000 in
theorem implLogCrash_yes (s : ByteArray) (y k : Int) (w : World) (h : Vd s y) (hk : 0 ≤ k) (hk2 : k ≤ 9223372036854775807) (n u : Nat) (hn : crN s y k = n) (hu : used (bl (s.extract 0 n)) = u) :
    Calls Try.prog 30 #[dk s y, .int .i64 k] w (Ret (dk (s.extract 0 u) (u : Nat)) w) := by
  have hs : s.size ≤ maxLen := by have := h.1; unfold maxLen; omega
  obtain ⟨h1, h2, h3⟩ := id h
  have ek : decide (k < 0) = false := by simp; omega
  have hul : u ≤ s.size := by rw [← hu]; exact crU_le s n
  have q1 : (y + min k ((s.size : Int) - y)).toNat = n := by rw [← hn]; unfold crN; omega
  have HU := hid hu
  have hx : (s.extract 0 n).size ≤ 1048576 := by rw [ByteArray.size_extract]; omega
  have hy : (s.extract 0 u).size ≤ 1048576 := by rw [ByteArray.size_extract]; omega
  clear hn hu
  unfold dk
  have T := Two.new_ w s y
  go_enter Try.func30, Try.ntmps30
  go_wp2_with fail
  refine (implValid_is true s y _ hs (decide_eq_true h)).mono ?_
  rintro e w2 ⟨rfl, hb2⟩
  have T2 := T.later hb2
  clear T hb2
  obtain ⟨r0, r1, r2, r3, r4, r5⟩ := T2.reads
  go_wp2_with fail
  refine (implLogScan_any (s.extract 0 n) _ hx).mono ?_
  rintro e w3 ⟨v, rfl, -, hb3⟩
  rw [HU.out]
  have T3 := T2.later hb3
  clear T2 hb3 r0 r1 r2 r3 r4 r5
  obtain ⟨r0, r1, r2, r3, r4, r5⟩ := T3.reads
  go_wp2_with fail
  refine (clone_any (s.extract 0 u) _ hy).mono ?_
  rintro e w4 ⟨rfl, hb4⟩
  have T4 := T3.later hb4
  clear T3 hb4 r0 r1 r2 r3 r4 r5
  obtain ⟨r0, r1, r2, r3, r4, r5⟩ := T4.reads
  obtain ⟨tp, tb⟩ := T4.put (s.extract 0 u) (u : Nat)
  obtain ⟨p0, p1, -⟩ := tp.reads
  go_wp2_with fail
  exact bodyPost_ret (v := dk (s.extract 0 u) (u : Nat)) (by simp [results, Try.results30, go_sem, dk, p0, p1]) rfl ⟨rfl, tb⟩
set_option maxHeartbeats 4000000 in
theorem specLogCrash_yes (s : ByteArray) (y k : Int) (w : World) (h : Vd s y) (hk : 0 ≤ k) (hk2 : k ≤ 9223372036854775807) (n u : Nat) (hn : crN s y k = n) (hu : used (bl (s.extract 0 n)) = u) :
    Calls Try.prog 33 #[dk s y, .int .i64 k] w (Ret (dk (s.extract 0 u) (u : Nat)) w) := by
  have hs : s.size ≤ maxLen := by have := h.1; unfold maxLen; omega
  obtain ⟨h1, h2, h3⟩ := id h
  have ek : decide (k < 0) = false := by simp; omega
  have hul : u ≤ s.size := by rw [← hu]; exact crU_le s n
  have q1 : (min (s.size : Int) (y + min k 120)).toNat = n := by rw [← hn]; unfold crN; omega
  have HU := hid hu
  have hx : (s.extract 0 n).size ≤ 1048576 := by rw [ByteArray.size_extract]; omega
  clear hn hu
  unfold dk
  have T := Two.new_ w s y
  go_enter Try.func33, Try.ntmps33
  go_wp2_with fail
  refine (specDiskValid_is true s y _ hs (decide_eq_true h)).mono ?_
  rintro e w2 ⟨rfl, hb2⟩
  have T2 := T.later hb2
  clear T hb2
  obtain ⟨r0, r1, r2, r3, r4, r5⟩ := T2.reads
  go_wp2_with fail
  refine (specLogScan_any (s.extract 0 n) _ hx).mono ?_
  rintro e w3 ⟨v, rfl, -, hb3⟩
  rw [HU.out]
  have T3 := T2.later hb3
  clear T2 hb3 r0 r1 r2 r3 r4 r5
  obtain ⟨r0, r1, r2, r3, r4, r5⟩ := T3.reads
  obtain ⟨tp, tb⟩ := T3.put (s.extract 0 u) (u : Nat)
  obtain ⟨p0, p1, -⟩ := tp.reads
  go_wp2_with fail
  exact bodyPost_ret (v := dk (s.extract 0 u) (u : Nat)) (by simp [results, Try.results33, go_sem, dk, p0, p1]) rfl ⟨rfl, tb⟩

theorem implLogCrash_any (s : ByteArray) (y k : Int) (w : World) (hs : s.size ≤ maxLen) (hk2 : k ≤ 9223372036854775807) : Calls Try.prog 30 #[dk s y, .int .i64 k] w (Ret (crO s y k) w) := by
  unfold crO
  by_cases h : Vd s y
  · by_cases hk : 0 ≤ k
    · rw [if_pos ⟨h, hk⟩]; exact implLogCrash_yes s y k w h hk hk2 _ _ rfl rfl
    · rw [if_neg (fun e => hk e.2)]; exact implLogCrash_neg s y k w h (by omega)
  · rw [if_neg (fun e => h e.1)]; exact implLogCrash_bad s y k w hs h
theorem specLogCrash_any (s : ByteArray) (y k : Int) (w : World) (hs : s.size ≤ maxLen) (hk2 : k ≤ 9223372036854775807) : Calls Try.prog 33 #[dk s y, .int .i64 k] w (Ret (crO s y k) w) := by
  unfold crO
  by_cases h : Vd s y
  · by_cases hk : 0 ≤ k
    · rw [if_pos ⟨h, hk⟩]; exact specLogCrash_yes s y k w h hk hk2 _ _ rfl rfl
    · rw [if_neg (fun e => hk e.2)]; exact specLogCrash_neg s y k w h (by omega)
  · rw [if_neg (fun e => h e.1)]; exact specLogCrash_bad s y k w hs h
end Go.Proofs.Ytclonfhpabdpgaa
