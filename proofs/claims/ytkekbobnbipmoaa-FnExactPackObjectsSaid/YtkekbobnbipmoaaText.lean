/-
  Walks: a text, an id, a list of ids, as the draws make them.
-/
import Derived.Test.YtkekbobnbipmoaaPick
import Derived.Laws.BytesString
namespace Go.Proofs.Ytkekbobnbipmoaa
open Go.RowKit Wo Pu


theorem conv_one (w : World) (x : Int) (h0 : 0 ≤ x) (h1 : x < 256) : ∃ b : UInt8, (convert 22 9 (.slice (some ⟨w.heap.size, 0, none⟩) 1 1)).run Try.prog (w.alloc (.cells #[.int .u8 x] 5)) = .ok (.string ⟨#[b]⟩) (w.alloc (.cells #[.int .u8 x] 5)) := by
  refine ⟨UInt8.ofNat x.toNat, ?_⟩
  have hb : ((UInt8.ofNat x.toNat).toNat : Int) = x := by
    rw [UInt8.toNat_ofNat']
    omega
  refine run_convert_bytes_back (P := Try.prog) (w.alloc (.cells #[.int .u8 x] 5)) 22 9 5 ⟨w.heap.size, 0, none⟩ 1 [UInt8.ofNat x.toNat] Try.underlying22 Try.underlying5 Try.underlying9 ?_
  intro j hj
  simp only [List.length_cons, List.length_nil] at hj
  obtain rfl : j = 0 := by omega
  simp only [List.getElem_cons_zero, hb, add_zero]
  simp [go_sem]
theorem app_size (s : ByteArray) (b : UInt8) (k : Nat) (h : s.size ≤ k) : (s ++ (⟨#[b]⟩ : ByteArray)).size ≤ k + 1 := by
  rw [ByteArray.size_append]
  have : (⟨#[b]⟩ : ByteArray).size = 1 := rfl
  omega

set_option maxHeartbeats 4000000 in
theorem l91Text_any (R : Nat) (q : Int) (w : World) (hR : Rd w R q) (hq : q ≤ 900000000) :
    Calls Try.prog 76 #[.pointer (some ⟨R, 0, none⟩)] w (TextDrawn R q 20 9 w) := by
  go_enter Try.func76, Try.ntmps76
  go_wp2_with fail
  refine (pick_any R q 9 w hR (by omega) (by omega) (by omega)).mono ?_
  rintro e w1 ⟨n1, rfl, a0, a1, hR1, hT1⟩
  go_wp2_with fail
  refine (pick_any R (q + 1) 24 w1 hR1 (by omega) (by omega) (by omega)).mono ?_
  rintro e w2 ⟨n2, rfl, b0, b1, hR2, hT2⟩
  have hT := hT1.trans hT2
  clear hT1 hT2 hR1 hR
  by_cases h0 : n2 = 0
  · have e0 : (n2 == 0) = true := by rw [h0]; rfl
    clear h0
    go_wp2_with fail
    refine (pick_any R (q + 1 + 1) 2 w2 hR2 (by omega) (by omega) (by omega)).mono ?_
    rintro e w3 ⟨n3, rfl, c0, c1, hR3, hT3⟩
    have hT4 := hT.trans hT3
    clear hT hT3 hR2
    go_wp2_with fail
    go_loopw [3, 5] (fun t i wr => ∃ (k : Nat) (s : ByteArray), (k : Int) ≤ (8 + n3) ∧ i = .int .i64 k ∧ t = .string s ∧ s.size ≤ k ∧ Rd wr R ((q + 1 + 1 + 1) + k) ∧ But R w wr) (fun _ i _ => ((8 + n3)).toNat - (intOf i).toNat)
    case atStart => exact ⟨0, ⟨#[]⟩, by omega, rfl, rfl, Nat.le_refl _, by simpa using hR3, hT4⟩
    case round =>
      clear hT4 hR3
      obtain ⟨k, s, hk, rfl, rfl, hs, hRk, hTk⟩ := hrel
      by_cases hlt : (k : Int) < (8 + n3)
      · go_wp2_with fail
        refine (pick_any R _ 3 _ hRk (by omega) (by omega) (by omega)).mono ?_
        rintro e w9 ⟨x, rfl, x0, x1, hR9, hT9⟩
        obtain ⟨b, hcv⟩ := conv_one w9 (97 + x) (by omega) (by omega)
        have hz := Rd.lt hR9
        go_wp2_with fail
        go_roundw
        case rel => exact ⟨k + 1, _, by omega, by go_num, rfl, app_size s b k hs, (hR9.below ((Below.refl w9.heap.size w9).alloc (Nat.le_refl _) _) hz).more (by omega), (hTk.trans hT9).trans (.of_below ((Below.refl w9.heap.size w9).alloc (Nat.le_refl _) _))⟩
        case measure => simp [intOf]; omega
      · go_wp2
        go_ret
        exact ⟨s, rfl, by omega, hRk.more (by omega), hTk⟩
  · have e0 : (n2 == 0) = false := by rw [beq_eq_false_iff_ne]; omega
    clear h0
    go_wp2_with fail
    go_loopw [3, 5] (fun t i wr => ∃ (k : Nat) (s : ByteArray), (k : Int) ≤ n1 ∧ i = .int .i64 k ∧ t = .string s ∧ s.size ≤ k ∧ Rd wr R ((q + 1 + 1) + k) ∧ But R w wr) (fun _ i _ => (n1).toNat - (intOf i).toNat)
    case atStart => exact ⟨0, ⟨#[]⟩, by omega, rfl, rfl, Nat.le_refl _, by simpa using hR2, hT⟩
    case round =>
      clear hT hR2
      obtain ⟨k, s, hk, rfl, rfl, hs, hRk, hTk⟩ := hrel
      by_cases hlt : (k : Int) < n1
      · go_wp2_with fail
        refine (pick_any R _ 3 _ hRk (by omega) (by omega) (by omega)).mono ?_
        rintro e w9 ⟨x, rfl, x0, x1, hR9, hT9⟩
        obtain ⟨b, hcv⟩ := conv_one w9 (97 + x) (by omega) (by omega)
        have hz := Rd.lt hR9
        go_wp2_with fail
        go_roundw
        case rel => exact ⟨k + 1, _, by omega, by go_num, rfl, app_size s b k hs, (hR9.below ((Below.refl w9.heap.size w9).alloc (Nat.le_refl _) _) hz).more (by omega), (hTk.trans hT9).trans (.of_below ((Below.refl w9.heap.size w9).alloc (Nat.le_refl _) _))⟩
        case measure => simp [intOf]; omega
      · go_wp2
        go_ret
        exact ⟨s, rfl, by omega, hRk.more (by omega), hTk⟩


/-- A number has been drawn. -/
def NumDrawn (R : Nat) (q d : Int) (w : World) (e : Ending) (w' : World) : Prop := ∃ x : Int, e = .returned (.int .i64 x) ∧ -1 ≤ x ∧ x ≤ 999 ∧ Rd w' R (q + d) ∧ But R w w'

set_option maxHeartbeats 4000000 in
theorem l91Id_any (R : Nat) (q : Int) (w : World) (hR : Rd w R q) (hq : q ≤ 900000000) :
    Calls Try.prog 88 #[.pointer (some ⟨R, 0, none⟩)] w (NumDrawn R q 3 w) := by
  go_enter Try.func88, Try.ntmps88
  go_wp2_with fail
  refine (pick_any R q 30 w hR (by omega) (by omega) (by omega)).mono ?_
  rintro e w1 ⟨n1, rfl, a0, a1, hR1, hT1⟩
  by_cases h0 : n1 = 0
  · have e0 : (n1 == 0) = true := by rw [h0]; rfl
    clear h0
    go_wp2_with fail
    have hbA := (Below.refl w1.heap.size w1).alloc (Nat.le_refl _) (.cells #[.int .i64 (-1), .int .i64 990, .int .i64 991] 3)
    have hz := hR1.lt
    refine (pick_any R (q + 1) 3 _ (hR1.below hbA hz) (by omega) (by omega) (by omega)).mono ?_
    rintro e w2 ⟨n2, rfl, b0, b1, hR2, hT2⟩
    have bx : Box3 w2 w1.heap.size (.int .i64 (-1)) (.int .i64 990) (.int .i64 991) := hT2.box (Box3.new_ w1 _ _ _ _) (by omega)
    have hTT := (hT1.trans (.of_below hbA)).trans hT2
    obtain ⟨_, p0, p1, p2⟩ := bx
    have key : n2 = 0 ∨ n2 = 1 ∨ n2 = 2 := by omega
    rcases key with rfl | rfl | rfl
    · go_wp2
      go_ret
      exact ⟨_, rfl, by omega, by omega, hR2.more (by omega), hTT⟩
    · go_wp2
      go_ret
      exact ⟨_, rfl, by omega, by omega, hR2.more (by omega), hTT⟩
    · go_wp2
      go_ret
      exact ⟨_, rfl, by omega, by omega, hR2.more (by omega), hTT⟩
  · have e0 : (n1 == 0) = false := by rw [beq_eq_false_iff_ne]; omega
    go_wp2_with fail
    refine (pick_any R (q + 1) 99 _ hR1 (by omega) (by omega) (by omega)).mono ?_
    rintro e w2 ⟨n2, rfl, b0, b1, hR2, hT2⟩
    go_wp2_with fail
    refine (pick_any R (q + 1 + 1) 10 _ hR2 (by omega) (by omega) (by omega)).mono ?_
    rintro e w3 ⟨n3, rfl, c0, c1, hR3, hT3⟩
    go_wp2
    go_ret
    exact ⟨_, rfl, by omega, by omega, hR3.more (by omega), (hT1.trans hT2).trans hT3⟩

set_option maxHeartbeats 1000000 in
theorem l1Has_any (B : Nat) (A : Option Addr) (c : Nat) (zs : List Int) (x : Int) (w : World) (hr : Row w B A (ints zs)) (hm : zs.length ≤ maxLen) :
    Calls Try.prog 100 #[.slice A zs.length c, .int .i64 x] w (Same (.bool (decide (x ∈ zs))) w) := by
  unfold maxLen at hm
  go_enter Try.func100, Try.ntmps100
  go_wp2
  go_loop [5] (fun i => ∃ k : Nat, k ≤ zs.length ∧ i = .int .i64 k ∧ Hid (x ∉ zs.take k)) (fun i => zs.length - (intOf i).toNat)
  case atStart => exact ⟨0, Nat.zero_le _, rfl, by show x ∉ zs.take 0; simp⟩
  case round =>
    obtain ⟨k, hk, rfl, H⟩ := hrel
    by_cases hlt : k < zs.length
    · obtain ⟨ad, rfl, hb, hc⟩ := hr.int_ hlt
      by_cases he : zs[k] = x
      · have e0 : (zs[k] == x) = true := by rw [beq_iff_eq]; exact he
        have F := hid (decide_eq_true (show x ∈ zs by rw [← he]; exact List.getElem_mem hlt))
        clear he
        go_wp2
        go_ret
        rw [F.out]
        exact ⟨rfl, rfl⟩
      · have e0 : (zs[k] == x) = false := by rw [beq_eq_false_iff_ne]; exact he
        have H2 : Hid (x ∉ zs.take (k + 1)) := by
          show x ∉ zs.take (k + 1)
          rw [List.take_succ_eq_append_getElem hlt, List.mem_append]
          rintro (h | h)
          · exact H.out h
          · exact he (List.mem_singleton.1 h).symm
        clear he H
        go_wp2
        go_round
        case rel => exact ⟨k + 1, by omega, by go_num, H2⟩
        case measure => simp [intOf]; omega
    · have hk' : k = zs.length := by omega
      have F := hid (decide_eq_false (show x ∉ zs by have := H.out; rwa [hk', List.take_length] at this))
      clear H
      subst hk'
      go_wp2
      go_ret
      rw [F.out]
      exact ⟨rfl, rfl⟩
end Go.Proofs.Ytkekbobnbipmoaa
