/-
  Walk: the text of a mark.
-/
import Derived.Test.YtkekbobnbipmoaaMark
namespace Go.Proofs.Ytkekbobnbipmoaa
open Go.RowKit Wo Pu

def dig (m : Nat) : UInt8 := UInt8.ofNat (48 + m % 10)
/-- The digits of m ahead of s. -/
def mtx : Nat → Nat → ByteArray → ByteArray
  | 0, _, s => s
  | f + 1, m, s => if m = 0 then s else mtx f (m / 10) (⟨#[dig m]⟩ ++ s)
theorem mtx_zero (f : Nat) (s : ByteArray) : mtx f 0 s = s := by
  cases f with
  | zero => rfl
  | succ f => rw [mtx, if_pos rfl]
theorem mtx_succ {f m : Nat} (s : ByteArray) (h : ¬ m = 0) : mtx (f + 1) m s = mtx f (m / 10) (⟨#[dig m]⟩ ++ s) := by rw [mtx, if_neg h]
def mtext (k : Nat) : ByteArray := (⟨#[109]⟩ : ByteArray) ++ mtx k k ⟨#[]⟩
theorem conv_dig (w : World) (m : Nat) : (convert 22 9 (.slice (some ⟨w.heap.size, 0, none⟩) 1 1)).run Try.prog (w.alloc (.cells #[.int .u8 (48 + (m : Int) % 10)] 5)) = .ok (.string ⟨#[dig m]⟩) (w.alloc (.cells #[.int .u8 (48 + (m : Int) % 10)] 5)) := by
  have e : 48 + (m : Int) % 10 = ((dig m).toNat : Int) := by
    unfold dig
    rw [UInt8.toNat_ofNat']
    omega
  rw [e]
  refine run_convert_bytes_back (P := Try.prog) (w.alloc (.cells #[.int .u8 ((dig m).toNat : Int)] 5)) 22 9 5 ⟨w.heap.size, 0, none⟩ 1 [dig m] Try.underlying22 Try.underlying5 Try.underlying9 ?_
  intro j hj
  simp only [List.length_cons, List.length_nil] at hj
  obtain rfl : j = 0 := by omega
  rw [add_zero]
  simp [go_sem]

set_option maxHeartbeats 1000000 in
theorem markText_is (k : Nat) (w : World) (h0 : 1 ≤ k) (h1 : k ≤ 100000) :
    Calls Try.prog 59 #[.int .i64 k] w (Ret (.string (mtext k)) w) := by
  go_enter Try.func59, Try.ntmps59
  go_wp2_with fail
  go_loopw [0, 3] (fun n t wr => ∃ (m f : Nat) (s : ByteArray), n = .int .i64 m ∧ t = .string s ∧ s.size + m ≤ k ∧ m ≤ f ∧ Hid (mtx k k ⟨#[]⟩ = mtx f m s) ∧ Below w.heap.size w wr) (fun n _ _ => (intOf n).toNat)
  case atStart => exact ⟨k, k, ⟨#[]⟩, rfl, rfl, by show 0 + k ≤ k; omega, Nat.le_refl _, rfl, Below.refl _ _⟩
  case round =>
    obtain ⟨m, f, s, rfl, rfl, hs, hf, HM, hb⟩ := hrel
    by_cases hlt : 0 < m
    · obtain ⟨f, rfl⟩ : ∃ f', f = f' + 1 := ⟨f - 1, by omega⟩
      have hcv := conv_dig wr m
      have H2 := hid ((HM.out).trans (mtx_succ s (by omega)))
      clear HM
      go_wp2_with fail
      go_roundw
      case rel =>
        refine ⟨m / 10, f, _, by congr 1, rfl, ?_, by omega, H2, hb.alloc hb.size _⟩
        rw [ByteArray.size_append]
        show 1 + s.size + _ ≤ k
        omega
      case measure => simp [intOf]; omega
    · have hm : m = 0 := by omega
      subst hm
      have H2 : Hid ((⟨#[109]⟩ : ByteArray) ++ s = mtext k) := by show _ = _; unfold mtext; rw [HM.out, mtx_zero]
      clear HM
      go_wp2
      go_ret
      rw [← H2.out]
      exact .mk_ hb
theorem markText_at (x : Int) (k : Nat) (w : World) (hx : x = k) (h0 : 1 ≤ k) (h1 : k ≤ 100000) :
    Calls Try.prog 59 #[.int .i64 x] w (Ret (.string (mtext k)) w) := by
  subst hx; exact markText_is k w h0 h1
end Go.Proofs.Ytkekbobnbipmoaa
