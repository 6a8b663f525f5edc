/-
  Walks: are two objects the same?
-/
import Derived.Test.YtblknnifccmpkaaG5C
namespace Go.Proofs.Ytblknnifccmpkaa
open Go.RowKit Wo Pu

set_option maxHeartbeats 2000000 in
theorem l1Same_any (B B' : Nat) (A A' : Option Addr) (c c' : Nat) (kd : Int) (zs : List Int) (s : ByteArray) (kd' : Int) (zs' : List Int) (s' : ByteArray) (w : World) (hr : Row w B A (ints zs)) (hr' : Row w B' A' (ints zs')) (hB : B ≤ w.heap.size) (hB' : B' ≤ w.heap.size) (hm : zs.length ≤ 1048576) (b : Bool) (hb : Hid (b = true ↔ kd = kd' ∧ s.toList = s'.toList ∧ zs = zs')) :
    Calls Try.prog 120 #[ob kd A zs.length c s, ob kd' A' zs'.length c' s'] w (Ret (.bool b) w) := by
  have q1 := (hr.alloc hB (.cells #[.int .i64 kd, .slice A zs.length c, .string s] 38)).alloc (by simp; omega) (.cells #[.int .i64 kd', .slice A' zs'.length c', .string s'] 38)
  have q2 := (hr'.alloc hB' (.cells #[.int .i64 kd, .slice A zs.length c, .string s] 38)).alloc (by simp; omega) (.cells #[.int .i64 kd', .slice A' zs'.length c', .string s'] 38)
  unfold ob
  by_cases h1 : kd = kd'
  · by_cases h2 : s.toList = s'.toList
    · by_cases h3 : zs.length = zs'.length
      · have H3 := hid h3
        have e3 : (((zs.length : Nat) : Int) != ((zs'.length : Nat) : Int)) = false := by rw [h3]; simp
        subst h1
        clear h3
        have hz0 : w.heap.size < ((w.alloc (.cells #[.int .i64 kd, .slice A zs.length c, .string s] 38)).alloc (.cells #[.int .i64 kd, .slice A' zs'.length c', .string s'] 38)).heap.size := by simp; omega
        have s1 : ((w.alloc (.cells #[.int .i64 kd, .slice A zs.length c, .string s] 38)).alloc (.cells #[.int .i64 kd, .slice A' zs'.length c', .string s'] 38)).cell? ⟨w.heap.size, 1, none⟩ = some (.slice A zs.length c) := by simp [go_sem]
        have s2 : ((w.alloc (.cells #[.int .i64 kd, .slice A zs.length c, .string s] 38)).alloc (.cells #[.int .i64 kd, .slice A' zs'.length c', .string s'] 38)).cell? ⟨w.heap.size + 1, 1, none⟩ = some (.slice A' zs'.length c') := by simp [go_sem]
        have hbW : Below w.heap.size w ((w.alloc (.cells #[.int .i64 kd, .slice A zs.length c, .string s] 38)).alloc (.cells #[.int .i64 kd, .slice A' zs'.length c', .string s'] 38)) := ((Below.refl _ _).alloc (Nat.le_refl _) _).alloc (by simp) _
        go_enter Try.func120, Try.ntmps120
        go_wp2_with fail
        generalize (w.alloc (.cells #[.int .i64 kd, .slice A zs.length c, .string s] 38)).alloc (.cells #[.int .i64 kd, .slice A' zs'.length c', .string s'] 38) = W at *
        go_loopw [5] (fun i wr => ∃ k : Nat, k ≤ zs.length ∧ i = .int .i64 k ∧ Dr W wr ∧ Hid (zs.take k = zs'.take k)) (fun i _ => zs.length - (intOf i).toNat)
        case atStart => exact ⟨0, Nat.zero_le _, rfl, .refl _, by show zs.take 0 = zs'.take 0; simp⟩
        case round =>
          obtain ⟨k, hk, rfl, HW, H⟩ := hrel
          obtain ⟨d, rfl⟩ := id HW
          by_cases hlt : k < zs.length
          · have hlt2 : k < zs'.length := by have := H3.out; omega
            obtain ⟨ad, rfl, _, hc⟩ := q1.int_ hlt
            obtain ⟨ad', rfl, _, hc'⟩ := q2.int_ hlt2
            by_cases he : zs[k] = zs'[k]
            · have H2 : Hid (zs.take (k + 1) = zs'.take (k + 1)) := by
                show zs.take (k + 1) = zs'.take (k + 1)
                rw [List.take_succ_eq_append_getElem hlt, List.take_succ_eq_append_getElem hlt2, H.out, he]
              clear H
              go_wp2
              go_quiet (fail)
              go_wp2
              go_roundw
              case rel => exact ⟨k + 1, by omega, by go_num, ⟨_, rfl⟩, H2⟩
              case measure => simp [intOf]; omega
            · have F : Hid (b = false) := by
                show b = false
                cases b
                · rfl
                · refine absurd ?_ he
                  have := (hb.out.1 rfl).2.2
                  simp only [this]
              clear H
              go_wp2
              go_quiet (fail)
              go_wp2
              go_ret
              rw [F.out]
              exact .mk_ (Wo.Below.drewN (Wo.Below.drewN hbW _) _)
          · have hk' : k = zs.length := by omega
            have F : Hid (b = true) := hb.out.2 ⟨trivial, h2, by have := H.out; rw [hk', List.take_length, H3.out, List.take_length] at this; exact this⟩
            subst hk'
            clear H
            go_wp2
            go_ret
            rw [F.out]
            exact .mk_ (Wo.Below.drewN hbW _)
      · have F : Hid (b = false) := by
          show b = false
          cases b
          · rfl
          · exact absurd (congrArg List.length (hb.out.1 rfl).2.2) h3
        go_enter Try.func120, Try.ntmps120
        go_wp2
        go_ret
        rw [F.out]
        exact .mk_ (((Below.refl _ _).alloc (Nat.le_refl _) _).alloc (by simp) _)
    · have F : Hid (b = false) := by
        show b = false
        cases b
        · rfl
        · exact absurd (hb.out.1 rfl).2.1 h2
      go_enter Try.func120, Try.ntmps120
      go_wp2
      go_ret
      rw [F.out]
      exact .mk_ (((Below.refl _ _).alloc (Nat.le_refl _) _).alloc (by simp) _)
  · have F : Hid (b = false) := by
      show b = false
      cases b
      · rfl
      · exact absurd (hb.out.1 rfl).1 h1
    go_enter Try.func120, Try.ntmps120
    go_wp2
    go_ret
    rw [F.out]
    exact .mk_ (((Below.refl _ _).alloc (Nat.le_refl _) _).alloc (by simp) _)

set_option maxHeartbeats 2000000 in
theorem slicesEqual_any (B B' : Nat) (A A' : Option Addr) (c c' : Nat) (zs zs' : List Int) (w : World) (hr : Row w B A (ints zs)) (hr' : Row w B' A' (ints zs')) (hm : zs.length ≤ 1048576) (b : Bool) (hb : Hid (b = true ↔ zs = zs')) :
    Calls Try.prog 126 #[.slice A zs.length c, .slice A' zs'.length c'] w (Quiet (.bool b) w) := by
  by_cases h3 : zs.length = zs'.length
  · have H3 := hid h3
    have e3 : (((zs.length : Nat) : Int) != ((zs'.length : Nat) : Int)) = false := by rw [h3]; simp
    clear h3
    go_enter Try.func126, Try.ntmps126
    go_wp2_with fail
    go_loopw [13] (fun i wr => ∃ k : Nat, k ≤ zs.length ∧ i = .int .i64 k ∧ Dr w wr ∧ Hid (zs.take k = zs'.take k)) (fun i _ => zs.length - (intOf i).toNat)
    case atStart => exact ⟨0, Nat.zero_le _, rfl, .refl _, by show zs.take 0 = zs'.take 0; simp⟩
    case round =>
      obtain ⟨k, hk, rfl, HW, H⟩ := hrel
      obtain ⟨d, rfl⟩ := id HW
      by_cases hlt : k < zs.length
      · have hlt2 : k < zs'.length := by have := H3.out; omega
        obtain ⟨ad, rfl, _, hc⟩ := hr.int_ hlt
        obtain ⟨ad', rfl, _, hc'⟩ := hr'.int_ hlt2
        by_cases he : zs[k] = zs'[k]
        · have H2 : Hid (zs.take (k + 1) = zs'.take (k + 1)) := by
            show zs.take (k + 1) = zs'.take (k + 1)
            rw [List.take_succ_eq_append_getElem hlt, List.take_succ_eq_append_getElem hlt2, H.out, he]
          clear H
          go_wp2
          go_quiet (fail)
          go_wp2
          go_roundw
          case rel => exact ⟨k + 1, by omega, by go_num, ⟨_, rfl⟩, H2⟩
          case measure => simp [intOf]; omega
        · have F : Hid (b = false) := by
            show b = false
            cases b
            · rfl
            · refine absurd ?_ he
              have := hb.out.1 rfl
              simp only [this]
          clear H
          go_wp2
          go_quiet (fail)
          go_wp2
          go_ret
          rw [F.out]
          exact (HW.drewN _).quiet _
      · have hk' : k = zs.length := by omega
        have F : Hid (b = true) := hb.out.2 (by have := H.out; rw [hk', List.take_length, H3.out, List.take_length] at this; exact this)
        subst hk'
        clear H
        go_wp2
        go_ret
        rw [F.out]
        exact HW.quiet _
  · have F : Hid (b = false) := by
      show b = false
      cases b
      · rfl
      · exact absurd (congrArg List.length (hb.out.1 rfl)) h3
    go_enter Try.func126, Try.ntmps126
    go_wp2
    go_ret
    rw [F.out]
    exact (Dr.refl _).quiet _

set_option maxHeartbeats 2000000 in
theorem equals_any (B B' : Nat) (A A' : Option Addr) (c c' : Nat) (kd : Int) (zs : List Int) (s : ByteArray) (kd' : Int) (zs' : List Int) (s' : ByteArray) (w : World) (hr : Row w B A (ints zs)) (hr' : Row w B' A' (ints zs')) (hB : B ≤ w.heap.size) (hB' : B' ≤ w.heap.size) (hm : zs.length ≤ 1048576) (b : Bool) (hb : Hid (b = true ↔ kd = kd' ∧ s.toList = s'.toList ∧ zs = zs')) :
    Calls Try.prog 121 #[ob kd A zs.length c s, ob kd' A' zs'.length c' s'] w (Ret (.bool b) w) := by
  have q1 := (hr.alloc hB (.cells #[.int .i64 kd, .slice A zs.length c, .string s] 38)).alloc (by simp; omega) (.cells #[.int .i64 kd', .slice A' zs'.length c', .string s'] 38)
  have q2 := (hr'.alloc hB' (.cells #[.int .i64 kd, .slice A zs.length c, .string s] 38)).alloc (by simp; omega) (.cells #[.int .i64 kd', .slice A' zs'.length c', .string s'] 38)
  have hbW : Below w.heap.size w ((w.alloc (.cells #[.int .i64 kd, .slice A zs.length c, .string s] 38)).alloc (.cells #[.int .i64 kd', .slice A' zs'.length c', .string s'] 38)) := ((Below.refl _ _).alloc (Nat.le_refl _) _).alloc (by simp) _
  unfold ob
  by_cases h1 : kd = kd'
  · by_cases h2 : s.toList = s'.toList
    · have HB : Hid (b = true ↔ zs = zs') := ⟨fun e => (hb.out.1 e).2.2, fun e => hb.out.2 ⟨h1, h2, e⟩⟩
      subst h1
      go_enter Try.func121, Try.ntmps121
      go_wp2_with fail
      refine (slicesEqual_any B B' A A' c c' zs zs' _ q1 q2 hm b HB).mono ?_
      rintro e w1 ⟨rfl, d, rfl⟩
      go_wp2
      go_ret
      exact .mk_ (Wo.Below.drewN hbW _)
    · have F : Hid (b = false) := by
        show b = false
        cases b
        · rfl
        · exact absurd (hb.out.1 rfl).2.1 h2
      clear hb
      subst h1
      go_enter Try.func121, Try.ntmps121
      go_wp2
      go_ret
      rw [F.out]
      exact .mk_ hbW
  · have F : Hid (b = false) := by
      show b = false
      cases b
      · rfl
      · exact absurd (hb.out.1 rfl).1 h1
    go_enter Try.func121, Try.ntmps121
    go_wp2
    go_ret
    rw [F.out]
    exact .mk_ hbW
end Go.Proofs.Ytblknnifccmpkaa
