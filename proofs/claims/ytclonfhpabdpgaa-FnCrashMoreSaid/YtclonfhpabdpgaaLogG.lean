/-
  Walks: the first record of bytes, of the program.
-/
import Derived.Test.YtclonfhpabdpgaaLogF
import Derived.Outline
namespace Go.Proofs.Ytclonfhpabdpgaa
open Go.RowKit Wo Pu Lg

def mk (r : List UInt8) : ByteArray := ⟨r.toArray⟩
theorem bl_mk (r : List UInt8) : bl (mk r) = r := by simp [bl, mk]
theorem mk_bl (s : ByteArray) : mk (bl s) = s := bl_inj (bl_mk _)
theorem mk_size (r : List UInt8) : (mk r).size = r.length := by rw [← bl_size, bl_mk]
theorem bl_get (s : ByteArray) {k : Nat} (h : k < s.size) : (bl s)[k]? = some s[k] := by
  rw [List.getElem?_eq_getElem (by rw [bl_size]; exact h)]
  rfl

/-- What first says, in the walk's words. -/
theorem first_no {s : ByteArray} (h : first (bl s) = none) (h0 : 0 < s.size) {n : Nat} (hn : s[0].toNat = n) (h1 : 1 ≤ n) (h2 : n ≤ 12) (h3 : n + 2 ≤ s.size) : s[1 + n]'(by omega) ≠ chB (bl (s.extract 1 (1 + n))) := by
  have e : bl s = s[0] :: (bl s).drop 1 := List.drop_eq_getElem_cons (l := bl s) (i := 0) (by rw [bl_size]; exact h0)
  rw [e] at h
  unfold first at h
  simp only [hn] at h
  intro hc
  rw [if_pos] at h
  · cases h
  refine ⟨h1, h2, by rw [List.length_drop, bl_size]; omega, ?_⟩
  rw [List.getElem?_drop, bl_get s (by omega), hc, bl_extract, show 1 + n - 1 = n from by omega]
theorem first_yes {s : ByteArray} {r : List UInt8} (h : first (bl s) = some r) : ∃ (h0 : 0 < s.size) (h3 : r.length + 2 ≤ s.size), Fits r ∧ s[0].toNat = r.length ∧ s.extract 1 (1 + r.length) = mk r ∧ s[1 + r.length] = chB r := by
  have hl := first_len h
  rw [bl_size] at hl
  obtain ⟨hf, t, e⟩ := first_some h
  have g0 := bl_get s (k := 0) (by omega)
  have g1 := bl_get s (k := 1 + r.length) (by omega)
  rw [e] at g0 g1
  refine ⟨by omega, hl, hf, ?_, ?_, ?_⟩
  · have : lenB r = s[0] := by simpa [fr] using g0
    rw [← this, lenB_toNat hf.2]
  · apply bl_inj
    rw [bl_extract, bl_mk, e]
    simp [fr]
  · have : some (chB r) = some s[1 + r.length] := by
      rw [← g1, List.getElem?_append_left (by rw [fr_length]; omega), Nat.add_comm]
      simp [fr]
    injection this with this
    exact this.symm

theorem recordCheck_val (x : Int) (s : ByteArray) (w : World) (hs : s.size ≤ 12) (hx : chk (bl s) = x) :
    Calls Try.prog 37 #[.string s] w (Ret (.int .u8 x) w) := by subst hx; exact recordCheck_any s w hs
theorem l4Check_val (x : Int) (s : ByteArray) (w : World) (hs : s.size ≤ 12) (hx : chk (bl s) = x) :
    Calls Try.prog 44 #[.string s] w (Same (.int .u8 x) w) := by subst hx; exact l4Check_any s w hs

set_option maxHeartbeats 4000000 in
theorem firstRec_yes (s : ByteArray) (r : List UInt8) (w : World) (hs : s.size ≤ maxLen) (h : first (bl s) = some r) :
    Calls Try.prog 47 #[.string s] w (Ret (.tuple #[.string (mk r), .bool true]) w) := by
  obtain ⟨h0, h3, ⟨f1, f2⟩, e0, e1, e2⟩ := first_yes h
  clear h
  unfold maxLen at hs
  have q0 : s.toList.isEmpty = false := (emp_ s).trans (decide_eq_false (by omega))
  have q1 : 1 + (r.length : Int) ≤ (s.size : Int) := by omega
  have q2 : 1 + (r.length : Int) < (s.size : Int) := by omega
  have q3 : (1 + (r.length : Int)).toNat = 1 + r.length := by omega
  have q4 : IntKind.i64.wrap (1 + (r.length : Int)) = 1 + (r.length : Int) := IntWalk.i64_in _ (by omega)
  have q5 : 0 ≤ 1 + (r.length : Int) := by omega
  have q6 : decide ((s.size : Int) < (r.length : Int) + 2) = false := by simp; omega
  have ex : (s.extract 1 (1 + r.length)).size ≤ 12 := by rw [ByteArray.size_extract]; omega
  have ec : chk (bl (s.extract 1 (1 + r.length))) = ((s[1 + r.length]).toNat : Int) := by rw [e1, bl_mk, e2, chB_toNat f2]
  have E1 := hid e1
  have EC := hid ec
  clear e1 e2 ec
  go_enter Try.func47, Try.ntmps47
  go_wp2_with (go_at_call 36; refine (recordFits_yes _ _ (by omega) (by omega)).mono ?_; rintro e w' ⟨rfl, rfl⟩)
  refine wp_region_later w.heap.size (by kernel_rfl) (by kernel_rfl) ?_
  repeat (go_big_quiet_step ((go_at_call 37; exact Later.call (Nat.le_refl _) _ (recordCheck_val _ _ _ ex EC.out))))
  refine wpQuiet_nil ?_
  intro _ hw'
  obtain ⟨xx, hxx⟩ := hw'
  have hbx := xx.b
  subst hxx
  go_wp2
  go_ret2
  rw [E1.out]
  exact .mk_ hbx

set_option maxHeartbeats 4000000 in
theorem firstRec_no (s : ByteArray) (w : World) (hs : s.size ≤ maxLen) (h : first (bl s) = none) :
    Calls Try.prog 47 #[.string s] w (Ret (.tuple #[.string ⟨#[]⟩, .bool false]) w) := by
  unfold maxLen at hs
  by_cases hz : s.size = 0
  · have q0 : s.toList.isEmpty = true := (emp_ s).trans (decide_eq_true hz)
    clear hz h
    go_enter Try.func47, Try.ntmps47
    go_wp2
    go_ret2
    exact .mk_ (Below.refl _ _)
  have h0 : 0 < s.size := by omega
  have q0 : s.toList.isEmpty = false := (emp_ s).trans (decide_eq_false hz)
  clear hz
  obtain ⟨n, hn⟩ : ∃ n, s[0].toNat = n := ⟨_, rfl⟩
  have hn9 : n < 256 := by rw [← hn]; exact s[0].toNat_lt
  have HNO := fun a b c => hid (first_no h h0 hn a b c)
  clear h
  by_cases hf : 1 ≤ n ∧ n ≤ 12
  · obtain ⟨f1, f2⟩ := hf
    by_cases h3 : n + 2 ≤ s.size
    · have q1 : 1 + (n : Int) ≤ (s.size : Int) := by omega
      have q2 : 1 + (n : Int) < (s.size : Int) := by omega
      have q3 : (1 + (n : Int)).toNat = 1 + n := by omega
      have q4 : IntKind.i64.wrap (1 + (n : Int)) = 1 + (n : Int) := IntWalk.i64_in _ (by omega)
      have q5 : 0 ≤ 1 + (n : Int) := by omega
      have q6 : decide ((s.size : Int) < (n : Int) + 2) = false := by simp; omega
      have ex : (s.extract 1 (1 + n)).size ≤ 12 := by rw [ByteArray.size_extract]; omega
      obtain ⟨x, hx⟩ : ∃ x, chk (bl (s.extract 1 (1 + n))) = x := ⟨_, rfl⟩
      have q7 : (((s[1 + n]).toNat : Int) != x) = true := by
        rw [bne_iff_ne, ← hx, ← chB_toNat (by rw [bl_size]; exact ex)]
        intro e
        exact (HNO f1 f2 h3).out (UInt8.toNat_inj.1 (by omega))
      have HX := hid hx
      clear HNO hx
      go_enter Try.func47, Try.ntmps47
      go_wp2_with (go_at_call 36; refine (recordFits_yes _ _ (by omega) (by omega)).mono ?_; rintro e w' ⟨rfl, rfl⟩)
      refine wp_region_later w.heap.size (by kernel_rfl) (by kernel_rfl) ?_
      repeat (go_big_quiet_step ((go_at_call 37; exact Later.call (Nat.le_refl _) _ (recordCheck_val _ _ _ ex HX.out))))
      refine wpQuiet_nil ?_
      intro _ hw'
      obtain ⟨xx, hxx⟩ := hw'
      have hbx := xx.b
      subst hxx
      go_wp2
      go_ret2
      exact .mk_ hbx
    · have q6 : decide ((s.size : Int) < (n : Int) + 2) = true := by simp; omega
      clear HNO
      go_enter Try.func47, Try.ntmps47
      go_wp2_with (go_at_call 36; refine (recordFits_yes _ _ (by omega) (by omega)).mono ?_; rintro e w' ⟨rfl, rfl⟩)
      go_ret2
      exact .mk_ (Below.refl _ _)
  · clear HNO
    go_enter Try.func47, Try.ntmps47
    go_wp2_with (go_at_call 36; refine (recordFits_no _ _ (by omega)).mono ?_; rintro e w' ⟨rfl, rfl⟩)
    go_ret2
    exact .mk_ (Below.refl _ _)
end Go.Proofs.Ytclonfhpabdpgaa
