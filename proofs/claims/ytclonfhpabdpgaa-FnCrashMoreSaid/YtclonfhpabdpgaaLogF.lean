/-
  Walks: the check of a record, the first record of bytes, of the program and of the model.
-/
import Derived.Test.YtclonfhpabdpgaaKitD
import Derived.Test.YtclonfhpabdpgaaLogP
import Derived.Test.YtclonfhpabdpgaaClone
import Derived.Lib.ConvBytes
import Derived.IntWalk
namespace Go.Proofs.Ytclonfhpabdpgaa
open Go.RowKit Wo Pu Lg

theorem Ret.int_ {a b : Int} {w w' : World} (h : b = a) (hb : Below w.heap.size w w') : Ret (.int .i64 a) w (.returned (.int .i64 b)) w' := by subst h; exact ⟨rfl, hb⟩
theorem Ret.byte_ {a b : Int} {w w' : World} (h : b = a) (hb : Below w.heap.size w w') : Ret (.int .u8 a) w (.returned (.int .u8 b)) w' := by subst h; exact ⟨rfl, hb⟩
theorem Ret.val_ {a b : Value} {w w' : World} (h : b = a) (hb : Below w.heap.size w w') : Ret a w (.returned b) w' := by subst h; exact ⟨rfl, hb⟩
theorem byte_lt (b : UInt8) : (b.toNat : Int) < 256 := by have := b.toNat_lt; omega
theorem bytes_of (w : World) (s : ByteArray) : ∃ (w' : World) (cap : Nat), (convert 9 22 (.string s)).run Try.prog w = .ok (.slice (some ⟨w.heap.size, 0, none⟩) s.size cap) w' ∧
    Below w.heap.size w w' ∧ Hid (∀ j (hj : j < s.size), w'.cell? ⟨w.heap.size, j, none⟩ = some (.int .u8 (s[j].toNat : Int))) := by
  refine ⟨_, _, Lib.run_convert_string_bytes w 9 22 5 s Try.underlying9 Try.underlying22 Try.underlying5, ⟨?_, ?_, ?_, ?_, ?_⟩, fun j hj => ?_⟩
  · simp [Lib.bytesWorld, World.freeze]
    rfl
  · simp [Lib.bytesWorld, World.freeze]
  · simp [Lib.bytesWorld, World.freeze]
    rfl
  · rw [Lib.bytesWorld_size]; omega
  · intro k hk
    exact Lib.bytesWorld_at_old w _ s k hk
  · rw [Lib.bytesWorld_cell w 5 s j hj]
    have e : s.data.toList.getD j 0 = s[j] := by
      rw [List.getD_eq_getElem?_getD, List.getElem?_eq_getElem (by simpa using hj)]
      rfl
    rw [e]

theorem l6In_yes (n lo hi : Int) (w : World) (h1 : lo ≤ n) (h2 : n ≤ hi) : Calls Try.prog 38 #[.int .i64 n, .int .i64 lo, .int .i64 hi] w (Same (.bool true) w) := by
  go_enter Try.func38, Try.ntmps38
  go_wp2
  go_ret
  exact ⟨rfl, rfl⟩
theorem l6In_no (n lo hi : Int) (w : World) (h : n < lo ∨ hi < n) : Calls Try.prog 38 #[.int .i64 n, .int .i64 lo, .int .i64 hi] w (Same (.bool false) w) := by
  by_cases h1 : lo ≤ n
  · have h2 : hi < n := by omega
    clear h
    have e1 : decide (lo ≤ n) = true := by simp [h1]
    have e2 : decide (n ≤ hi) = false := by simp; omega
    go_enter Try.func38, Try.ntmps38
    go_wp2
    go_ret
    exact ⟨rfl, rfl⟩
  · have h2 : n < lo := by omega
    clear h
    have e1 : decide (lo ≤ n) = false := by simp; omega
    go_enter Try.func38, Try.ntmps38
    go_wp2
    go_ret
    exact ⟨rfl, rfl⟩
theorem recordFits_yes (n : Int) (w : World) (h1 : 1 ≤ n) (h2 : n ≤ 12) : Calls Try.prog 36 #[.int .i64 n] w (Same (.bool true) w) := by
  go_enter Try.func36, Try.ntmps36
  go_wp2
  go_ret
  exact ⟨rfl, rfl⟩
theorem recordFits_no (n : Int) (w : World) (h : n < 1 ∨ 12 < n) : Calls Try.prog 36 #[.int .i64 n] w (Same (.bool false) w) := by
  by_cases h1 : 1 ≤ n
  · have h2 : 12 < n := by omega
    clear h
    have e1 : decide (1 ≤ n) = true := by simp [h1]
    have e2 : decide (n ≤ 12) = false := by simp; omega
    go_enter Try.func36, Try.ntmps36
    go_wp2
    go_ret
    exact ⟨rfl, rfl⟩
  · have h2 : n < 1 := by omega
    clear h
    have e1 : decide (1 ≤ n) = false := by simp; omega
    go_enter Try.func36, Try.ntmps36
    go_wp2
    go_ret
    exact ⟨rfl, rfl⟩

/-- The check as it grows, k bytes on. -/
def AtC (s : ByteArray) (k : Nat) (n : Int) : Prop := chk (bl s) = chkL n ((bl s).drop k)
theorem AtC.zero (s : ByteArray) : AtC s 0 (7 + 3 * (s.size : Int)) := by unfold AtC chk; rw [bl_size]; rfl
theorem AtC.step {s : ByteArray} {k : Nat} {n : Int} (h : AtC s k n) (hk : k < s.size) {m : Int} (hm : m = (n * 29 + (s[k].toNat : Int) + 1) % 251) : AtC s (k + 1) m := by
  subst hm
  exact h.trans (chkL_drop (k := k) (bs := bl s) (by rw [bl_size]; exact hk))
theorem AtC.last {s : ByteArray} {n : Int} (h : AtC s s.size n) : chk (bl s) = n := by
  unfold AtC at h
  rw [h, ← bl_size, List.drop_length]
  rfl

set_option maxHeartbeats 1000000 in
theorem recordCheck_any (s : ByteArray) (w : World) (hs : s.size ≤ 12) :
    Calls Try.prog 37 #[.string s] w (Ret (.int .u8 (chk (bl s))) w) := by
  obtain ⟨w2, cap, hrun, hb2, hcell⟩ := bytes_of w s
  have hz2 := hb2.size
  obtain ⟨bc, bf⟩ := bcell hb2
  have HR := hid (chk_range (r := bl s) (by rw [bl_size]; exact hs))
  go_enter Try.func37, Try.ntmps37
  go_wp2
  go_loop [3, 13] (fun m i => ∃ (k : Nat) (n : Int), k ≤ s.size ∧ i = .int .i64 k ∧ m = .int .i64 n ∧ 0 ≤ n ∧ n < 251 ∧ AtC s k n) (fun _ i => s.size - (intOf i).toNat)
  case atStart => exact ⟨0, _, Nat.zero_le _, rfl, rfl, by omega, by omega, .zero s⟩
  case round =>
    obtain ⟨k, n, hk, rfl, rfl, hn0, hn1, H⟩ := hrel
    by_cases hls : k < s.size
    · have hb0 := byte_lt s[k]
      have hc := hcell.out k hls
      go_wp2
      go_round
      case rel => exact ⟨k + 1, _, by omega, by go_num, rfl, by omega, by omega, H.step hls (by omega)⟩
      case measure => simp [intOf]; omega
    · have hk' : k = s.size := by omega
      subst hk'
      have HF := hid H.last
      clear H
      go_wp2
      go_ret
      rw [HF.out]
      exact .mk_ hb2

set_option maxHeartbeats 1000000 in
theorem l4Check_any (s : ByteArray) (w : World) (hs : s.size ≤ 12) :
    Calls Try.prog 44 #[.string s] w (Same (.int .u8 (chk (bl s))) w) := by
  go_enter Try.func44, Try.ntmps44
  go_wp2
  go_loop [3, 4] (fun m i => ∃ (k : Nat) (n : Int), k ≤ s.size ∧ i = .int .i64 k ∧ m = .int .i64 n ∧ 0 ≤ n ∧ n < 251 ∧ AtC s k n) (fun _ i => s.size - (intOf i).toNat)
  case atStart => exact ⟨0, _, Nat.zero_le _, rfl, rfl, by omega, by omega, .zero s⟩
  case round =>
    obtain ⟨k, n, hk, rfl, rfl, hn0, hn1, H⟩ := hrel
    by_cases hls : k < s.size
    · have hb0 := byte_lt s[k]
      go_wp2
      go_round
      case rel => exact ⟨k + 1, _, by omega, by go_num, rfl, by omega, by omega, H.step hls (by omega)⟩
      case measure => simp [intOf]; omega
    · have hk' : k = s.size := by omega
      subst hk'
      have HF := hid H.last
      clear H
      go_wp2
      go_ret
      rw [HF.out]
      exact ⟨rfl, rfl⟩
end Go.Proofs.Ytclonfhpabdpgaa
