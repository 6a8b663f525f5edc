/-
  Walks: marks written into texts of the call's own, and read again.
-/
import Derived.Test.YtclonfhpabdpgabLogU
import Derived.Test.YtclonfhpabdpgabLogC
namespace Go.Proofs.Ytclonfhpabdpgab
open Go.RowKit Wo Pu Lg

def dig (m : Nat) : UInt8 := UInt8.ofNat (48 + m % 10)
/-- The digits of m ahead of s. -/
def mtx : Nat → Nat → ByteArray → ByteArray
  | 0, _, s => s
  | f + 1, m, s => if m = 0 then s else mtx f (m / 10) (mk [dig m] ++ s)
theorem mtx_zero (f : Nat) (s : ByteArray) : mtx f 0 s = s := by
  cases f with
  | zero => rfl
  | succ f => rw [mtx, if_pos rfl]
theorem mtx_succ {f m : Nat} (s : ByteArray) (h : ¬ m = 0) : mtx (f + 1) m s = mtx f (m / 10) (mk [dig m] ++ s) := by rw [mtx, if_neg h]
def mtext (k : Nat) : ByteArray := (⟨#[109]⟩ : ByteArray) ++ mtx k k ⟨#[]⟩
theorem dig_val (m : Nat) : 48 + (m : Int) % 10 = ((dig m).toNat : Int) := by
  unfold dig
  rw [UInt8.toNat_ofNat']
  omega

set_option maxHeartbeats 1000000 in
theorem markText_is (k : Nat) (w : World) (h0 : 1 ≤ k) (h1 : k ≤ 1048577) :
    Calls Try.prog 47 #[.int .i64 k] w (Ret (.string (mtext k)) w) := by
  go_enter Try.func47, Try.ntmps47
  go_wp2_with fail
  go_loopw [0, 3] (fun n t wr => ∃ (m f : Nat) (s : ByteArray), n = .int .i64 m ∧ t = .string s ∧ s.size + m ≤ k ∧ m ≤ f ∧ Hid (mtx k k ⟨#[]⟩ = mtx f m s) ∧ Below w.heap.size w wr) (fun n _ _ => (intOf n).toNat)
  case atStart => exact ⟨k, k, ⟨#[]⟩, rfl, rfl, by show 0 + k ≤ k; omega, Nat.le_refl _, rfl, Below.refl _ _⟩
  case round =>
    obtain ⟨m, f, s, rfl, rfl, hs, hf, HM, hb⟩ := hrel
    by_cases hlt : 0 < m
    · obtain ⟨f, rfl⟩ : ∃ f', f = f' + 1 := ⟨f - 1, by omega⟩
      have hcv := conv_at _ (dig m) (dig_val m)
      have H2 := hid ((HM.out).trans (mtx_succ s (by omega)))
      have hd1 : (mk [dig m]).size = 1 := rfl
      clear HM
      go_wp2_with fail
      go_roundw
      case rel =>
        refine ⟨m / 10, f, _, by congr 1, rfl, ?_, by omega, H2, hb.alloc hb.size _⟩
        rw [ByteArray.size_append, hd1]
        omega
      case measure => simp [intOf]; omega
    · have hm : m = 0 := by omega
      subst hm
      have H2 : Hid ((⟨#[109]⟩ : ByteArray) ++ s = mtext k) := by show _ = _; unfold mtext; rw [HM.out, mtx_zero]
      clear HM
      go_wp2
      go_ret
      rw [← H2.out]
      exact .mk_ hb
theorem markText_at (x : Int) (k : Nat) (w : World) (hx : x = k) (h0 : 1 ≤ k) (h1 : k ≤ 1048577) :
    Calls Try.prog 47 #[.int .i64 x] w (Ret (.string (mtext k)) w) := by
  subst hx; exact markText_is k w h0 h1

/-- The marks 1, 2, .. -/
def mks (n : Nat) : List ByteArray := (List.range n).map (fun i => mtext (i + 1))
theorem mks_length (n : Nat) : (mks n).length = n := by simp [mks]
theorem mks_get (n i : Nat) (h : i < (mks n).length) : (mks n)[i] = mtext (i + 1) := by simp [mks]
theorem txts_set {ts : List ByteArray} {m : Nat} (t : ByteArray) : (txts ts).set m (.string t) = txts (ts.set m t) := by unfold txts; rw [List.map_set]
theorem set_take {os : List ByteArray} {n m : Nat} (h : os.take m = (mks n).take m) (hl : os.length = n) (hm : m < n) : (os.set m (mtext (m + 1))).take (m + 1) = (mks n).take (m + 1) := by
  rw [List.take_succ_eq_append_getElem (by simpa using (by omega : m < os.length)), List.take_succ_eq_append_getElem (by rw [mks_length]; exact hm), List.take_set_of_le (Nat.le_refl m), h, mks_get]
  simp
theorem grown_below {w w' : World} {row : Option Nat} (h : Below w.heap.size w w') : w.grownBy w' row := ⟨h.os, h.tape, h.output, h.size, fun k hk _ => h.block k hk⟩

set_option maxHeartbeats 4000000 in
theorem markStringS_own (B g c n : Nat) (ts : List ByteArray) (w : World) (ho : w.ownsRow B 9 1 (.slice (some ⟨g, 0, none⟩) n c) n (txts ts)) (hn : n ≤ 1048576) :
    Calls Try.prog 28 #[.slice (some ⟨g, 0, none⟩) n c, .int .i64 1] w (fun e w' => e = .returned (.int .i64 ((n + 1 : Nat) : Int)) ∧ w.grownBy w' (some g) ∧ w'.ownsRow B 9 1 (.slice (some ⟨g, 0, none⟩) n c) n (txts (mks n))) := by
  have hx0 : Hid (∃ ys : List ByteArray, ys.length = n ∧ w.ownsRow B 9 1 (.slice (some ⟨g, 0, none⟩) n c) n (txts ys) ∧ ys.take 0 = (mks n).take 0) := ⟨ts, by have := ho.1; rw [txts_length] at this; omega, ho, by simp⟩
  clear ho
  go_enter Try.func28, Try.ntmps28
  go_wp2_with fail
  go_loopw [1, 5] (fun q i wr => ∃ m : Nat, m ≤ n ∧ i = .int .i64 m ∧ q = .int .i64 ((m + 1 : Nat) : Int) ∧ w.grownBy wr (some g) ∧ Hid (∃ ys : List ByteArray, ys.length = n ∧ wr.ownsRow B 9 1 (.slice (some ⟨g, 0, none⟩) n c) n (txts ys) ∧ ys.take m = (mks n).take m)) (fun _ i _ => n - (intOf i).toNat)
  case atStart => exact ⟨0, Nat.zero_le _, rfl, rfl, World.grownBy.refl _ _, hx0⟩
  case round =>
    obtain ⟨m, hm, rfl, rfl, hw, HX⟩ := hrel
    clear hx0
    obtain ⟨ys, hyl, hy, ht⟩ := HX.out
    clear HX
    by_cases hlt : m < n
    · have HT := hid (set_take ht hyl hlt)
      have HYL := hid hyl
      have hxl := txts_length ys
      clear ht
      go_wp2_with fail
      refine (markText_at _ (m + 1) _ (by omega) (by omega) (by omega)).mono ?_
      rintro e w2 ⟨rfl, b2⟩
      have hy2 := own_below hy b2 (Nat.le_refl _)
      have hw2 := hw.trans (grown_below b2)
      obtain ⟨u2, q2⟩ : ∃ v0, w2.cell? ⟨g, m, none⟩ = some v0 := ⟨_, (World.ownsRow.cellAt hy2 m (by omega)).trans (List.getElem?_eq_getElem (by omega))⟩
      have f2 := World.ownsRow.frozenAt hy2 m
      have hy3 := (World.ownsRow.stored hy2 m (.string (mtext (m + 1)))).1
      rw [txts_set] at hy3
      have hw3 := hw2.trans (but_set w2 g m (.string (mtext (m + 1))))
      have HYS : Hid ((ys.set m (mtext (m + 1))).length = n) := by show _ = _; rw [List.length_set, HYL.out]
      clear hy hy2 hw hw2 b2 hxl hyl
      go_wp2_with fail
      go_roundw
      case rel => exact ⟨m + 1, by omega, by go_num, by go_num, hw3, _, HYS.out, hy3, HT.out⟩
      case measure => simp [intOf]; omega
    · have hm' : m = n := by omega
      subst hm'
      have e : ys = mks m := by
        rw [List.take_of_length_le (by omega), List.take_of_length_le (by rw [mks_length]; omega)] at ht
        exact ht
      subst e
      clear ht hyl
      go_wp2
      go_ret
      exact ⟨rfl, hw, hy⟩

set_option maxHeartbeats 4000000 in
theorem heldStringS_yes (A : Option Addr) (c n : Nat) (w : World) (hr : Row w w.heap.size A (txts (mks n))) (hn : n ≤ 1048576) :
    Calls Try.prog 29 #[.slice A n c, .int .i64 1] w (Ret (.int .i64 ((n + 1 : Nat) : Int)) w) := by
  go_enter Try.func29, Try.ntmps29
  go_wp2_with fail
  go_loopw [1, 5] (fun q i wr => ∃ m : Nat, m ≤ n ∧ i = .int .i64 m ∧ q = .int .i64 ((m + 1 : Nat) : Int) ∧ Below w.heap.size w wr) (fun _ i _ => n - (intOf i).toNat)
  case atStart => exact ⟨0, Nat.zero_le _, rfl, rfl, Below.refl _ _⟩
  case round =>
    obtain ⟨m, hm, rfl, rfl, hb⟩ := hrel
    by_cases hlt : m < n
    · obtain ⟨ad, rfl, ha, g0⟩ := (hr.below hb (Nat.le_refl _)).str_ (k := m) (by rw [mks_length]; exact hlt)
      rw [mks_get] at g0
      have hz := hb.size
      have G2 := Later.cell (p := ad.add m) g0 (by rw [add_block]; exact Nat.lt_of_lt_of_le ha hz)
      have k0 : 0 ≤ (m : Int) := by omega
      have k1 : (m : Int) < (n : Int) := by omega
      have hxx : Hid ((m : Int) + 1 = ((m + 1 : Nat) : Int)) := by show _ = _; omega
      have hmm : Hid (1 ≤ m + 1 ∧ m + 1 ≤ 1048577) := by show _ ∧ _; omega
      clear g0
      go_wp2_with fail
      refine wp_region_later wr.heap.size (by kernel_rfl) (by kernel_rfl) ?_
      repeat (go_big_quiet_step ((go_at_call 47; exact Later.call (Nat.le_refl _) _ (markText_at _ (m + 1) _ hxx.out hmm.out.1 hmm.out.2))))
      refine wpQuiet_nil ?_
      intro _ hw'
      obtain ⟨xx, hxx⟩ := hw'
      have hbx := xx.b
      subst hxx
      go_wp2
      go_roundw
      case rel => exact ⟨m + 1, by omega, by go_num, by go_num, hb.trans (hbx.mono hz)⟩
      case measure => simp [intOf]; omega
    · have hm' : m = n := by omega
      subst hm'
      go_wp2
      go_ret
      exact .mk_ hb
end Go.Proofs.Ytclonfhpabdpgab
