/-
  Walks: lists of texts compared; what the laws on logs ask of frames and scans.
-/
import Derived.Test.YtclonfhpabdpgaaLogT
import Derived.Test.YtclonfhpabdpgaaLogR
namespace Go.Proofs.Ytclonfhpabdpgaa
open Go.RowKit Wo Pu Lg

theorem OwnT.form {w : World} {B : Nat} {v : Value} {ts : List ByteArray} (h : OwnT w B v ts) : ∃ (A : Option Addr) (c : Nat), v = .slice A ts.length c ∧ Row w w.heap.size A (txts ts) := by
  have h' := h
  obtain ⟨h1, h2⟩ := h
  rcases h2 with ⟨rfl, h0⟩ | ⟨g, cap, cur, rfl, _⟩
  · refine ⟨none, 0, by rw [h0], ?_⟩
    have : ts = [] := List.eq_nil_of_length_eq_zero h0
    subst this
    exact .inl rfl
  · refine ⟨_, _, rfl, Row.of_own h' (fun hx => ?_)⟩
    rcases Nat.eq_zero_or_pos ts.length with h0 | h0
    · have : ts = [] := List.eq_nil_of_length_eq_zero h0
      subst this
      exact absurd rfl hx
    · exact h0
theorem txts_length (ts : List ByteArray) : (txts ts).length = ts.length := List.length_map _
theorem Wo.Row.str_ {w : World} {B : Nat} {A : Option Addr} {ts : List ByteArray} (h : Row w B A (txts ts)) {k : Nat} (hk : k < ts.length) :
    ∃ ad, A = some ad ∧ ad.block < B ∧ w.cell? (ad.add k) = some (.string ts[k]) := by
  obtain ⟨ad, e, hb, hc⟩ := h.get (k := k) (by rw [txts_length]; exact hk)
  exact ⟨ad, e, hb, by rw [hc]; simp [txts]⟩
theorem row_one (w : World) (s : ByteArray) (t : TypeId) : Row (w.alloc (.cells #[.string s] t)) (w.alloc (.cells #[.string s] t)).heap.size (some ⟨w.heap.size, 0, none⟩) (txts [s]) := by
  refine .inr ⟨_, rfl, by simp, fun j u hu => ?_⟩
  rw [add_lit]
  match j with
  | 0 => simp [txts] at hu; subst hu; simp [go_sem]
  | j + 1 => simp [txts] at hu

set_option maxHeartbeats 1000000 in
theorem sameTexts_same (B C : Nat) (A A' : Option Addr) (c c' : Nat) (ts : List ByteArray) (w : World) (hr : Row w B A (txts ts)) (hr' : Row w C A' (txts ts)) (hm : ts.length ≤ maxLen) :
    Calls Try.prog 19 #[.slice A ts.length c, .slice A' ts.length c'] w (Quiet (.bool true) w) := by
  unfold maxLen at hm
  go_enter Try.func19, Try.ntmps19
  go_wp2
  go_loopw [5] (fun i wr => ∃ k : Nat, k ≤ ts.length ∧ i = .int .i64 k ∧ Dr w wr) (fun i _ => ts.length - (intOf i).toNat)
  case atStart => exact ⟨0, Nat.zero_le _, rfl, .refl _⟩
  case round =>
    obtain ⟨k, hk, rfl, HW⟩ := hrel
    by_cases hlt : k < ts.length
    · obtain ⟨ad, rfl, hb, hc⟩ := (HW.row hr).str_ hlt
      obtain ⟨ad', rfl, hb', hc'⟩ := (HW.row hr').str_ hlt
      have q0 : (0 : Int) ≤ (k : Int) := by omega
      have q1 : (k : Int) < (ts.length : Int) := by omega
      go_wp2
      go_quiet (fail)
      go_wp2
      go_roundw
      case rel => exact ⟨k + 1, by omega, by go_num, HW.drewN _⟩
      case measure => simp [intOf]; omega
    · have hk' : k = ts.length := by omega
      subst hk'
      go_wp2
      go_ret
      exact HW.quiet _
theorem sameTexts_ret (A A' : Option Addr) (c c' : Nat) (ts : List ByteArray) (w : World) (hr : Row w w.heap.size A (txts ts)) (hr' : Row w w.heap.size A' (txts ts)) (hm : ts.length ≤ maxLen) :
    Calls Try.prog 19 #[.slice A ts.length c, .slice A' ts.length c'] w (Ret (.bool true) w) :=
  (sameTexts_same _ _ A A' c c' ts w hr hr' hm).mono fun _ _ ⟨he, d, hd⟩ => ⟨he, by subst hd; exact Wo.Below.drewN (Below.refl _ _) d⟩

/-- A drawn text. -/
def TextMade (m : Nat) (w : World) (e : Ending) (w' : World) : Prop := ∃ s : ByteArray, e = .returned (.string s) ∧ s.size ≤ m ∧ Below w.heap.size w w'
theorem DrawLogFrame_any (A : Option Addr) (c : Nat) (bs : List Int) (w : World) (h : Code_ w A c bs) :
    Calls Try.prog 15 #[.slice A bs.length c] w (TextMade 13 w) := by
  go_enter Try.func15, Try.ntmps15
  go_wp2_with fail
  refine (l6Open_any A c bs w h).mono ?_
  rintro e w1 ⟨rfl, R1, b1⟩
  go_wp2_with fail
  refine (l91Record_any w.heap.size 0 w1 R1 (by omega)).mono ?_
  rintro e w2 ⟨s, rfl, hs, R2, T2⟩
  go_wp2
  go_ret
  exact ⟨s, rfl, hs, b1.trans (T2.below b1.size (Nat.le_refl _))⟩

theorem fits_of {s : ByteArray} (h : 1 ≤ s.size ∧ s.size ≤ 12) : Fits (bl s) := by unfold Fits; rw [bl_size]; exact h
theorem frameB_size {s : ByteArray} (h : 1 ≤ s.size ∧ s.size ≤ 12) : (frameB s).size = s.size + 2 := by rw [frameB_yes h, mk_size, fr_length, bl_size]
theorem bl_frameB {s : ByteArray} (h : 1 ≤ s.size ∧ s.size ≤ 12) : bl (frameB s) = fr (bl s) := by rw [frameB_yes h, bl_mk]
theorem scan_one {r : List UInt8} (h : Fits r) : scan (fr r) = [r] := by
  have := scan_flat_self [r] (fun x hx => by rw [List.mem_singleton.1 hx]; exact h)
  rwa [flat_cons, flat_nil, List.append_nil] at this
theorem frameB_scan {s : ByteArray} (h : 1 ≤ s.size ∧ s.size ≤ 12) : texts (bl (frameB s)) = [s] ∧ used (bl (frameB s)) = s.size + 2 := by
  rw [bl_frameB h, texts_eq]
  unfold used
  rw [scan_one (fits_of h), flat_cons, flat_nil, List.append_nil, fr_length, bl_size]
  exact ⟨by rw [List.map_cons, mk_bl]; rfl, rfl⟩
end Go.Proofs.Ytclonfhpabdpgaa
