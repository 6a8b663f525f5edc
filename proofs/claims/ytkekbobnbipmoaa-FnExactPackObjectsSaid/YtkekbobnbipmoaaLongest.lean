/-
  Walks: the longest part of a base with which a text begins.
-/
import Derived.Test.YtkekbobnbipmoaaSizes
import Derived.IntWalk
namespace Go.Proofs.Ytkekbobnbipmoaa
open Go.RowKit Wo Pu

theorem bl_at (s : ByteArray) {k : Nat} (h : k < s.size) : (bl s)[k]'(by rw [bl_size]; exact h) = s[k] := rfl
theorem Quiet.int_ {a b : Int} {w w' : World} (h : b = a) (hd : Dr w w') : Quiet (.int .i64 a) w (.returned (.int .i64 b)) w' := by subst h; exact ⟨rfl, hd⟩
theorem bl_tail (s : ByteArray) (k : Nat) : bl (s.extract k s.size) = (bl s).drop k := by
  rw [bl_extract, List.take_of_length_le (by rw [List.length_drop, bl_size]; exact Nat.le_refl _)]

set_option maxHeartbeats 2000000 in
theorem common_any (a b : ByteArray) (w : World) (ha : a.size ≤ 1048576) :
    Calls Try.prog 101 #[.string a, .string b] w (Quiet (.int .i64 (cpl (bl a) (bl b) : Nat)) w) := by
  have la := bl_size a
  have lb := bl_size b
  go_enter Try.func101, Try.ntmps101
  go_wp2_with fail
  go_loopw [5] (fun i wr => ∃ k : Nat, k ≤ a.size ∧ k ≤ b.size ∧ i = .int .i64 k ∧ Dr w wr ∧ Hid ((bl a).take k = (bl b).take k)) (fun i _ => a.size - (intOf i).toNat)
  case atStart => exact ⟨0, Nat.zero_le _, Nat.zero_le _, rfl, .refl _, rfl⟩
  case round =>
    obtain ⟨k, hka, hkb, rfl, HW, HT⟩ := hrel
    have k0 : 0 ≤ (k : Int) := by omega
    by_cases h1 : k < a.size
    · have q1 : decide ((k : Int) < (a.size : Int)) = true := by simpa using h1
      have q1' : decide (k < a.size) = true := by simpa using h1
      by_cases h2 : k < b.size
      · have q2 : decide ((k : Int) < (b.size : Int)) = true := by simpa using h2
        have q2' : decide (k < b.size) = true := by simpa using h2
        by_cases h3 : a[k] = b[k]
        · have q3 : (((a[k]).toNat : Int) == ((b[k]).toNat : Int)) = true := by rw [h3]; simp
          have HT2 := hid (take_more HT.out (by omega) (by omega) (show (bl a)[k] = (bl b)[k] from h3))
          clear HT h3 la lb
          go_wp2_with fail
          go_quiet (fail)
          clear q1 q1' q2 q2' q3
          go_wp2
          go_roundw
          case rel => exact ⟨k + 1, by omega, by omega, by go_num, HW.drewN _, HT2⟩
          case measure => simp [intOf]; omega
        · have q3 : (((a[k]).toNat : Int) == ((b[k]).toNat : Int)) = false := by
            rw [beq_eq_false_iff_ne]
            intro e
            exact h3 (UInt8.toNat_inj.1 (by omega))
          have F := hid (cpl_stop HT.out (by omega) (by omega) (fun ⟨_, _, e⟩ => h3 e))
          clear HT h3 la lb
          go_wp2_with fail
          go_quiet (fail)
          clear q1 q1' q2 q2' q3
          go_wp2
          go_ret
          exact .int_ (by rw [F.out]) (HW.drewN _)
      · have q2 : decide ((k : Int) < (b.size : Int)) = false := by simpa using h2
        have q2' : decide (k < b.size) = false := by simpa using h2
        have F := hid (cpl_stop HT.out (by omega) (by omega) (fun ⟨_, h, _⟩ => absurd h (by omega)))
        clear HT la lb
        go_wp2_with fail
        go_quiet (fail)
        clear q1 q1' q2 q2'
        go_wp2
        go_ret
        exact .int_ (by rw [F.out]) (HW.drewN _)
    · have q1 : decide ((k : Int) < (a.size : Int)) = false := by simpa using h1
      have q1' : decide (k < a.size) = false := by simpa using h1
      have F := hid (cpl_stop HT.out (by omega) (by omega) (fun ⟨h, _, _⟩ => absurd h (by omega)))
      clear HT la lb
      go_wp2_with fail
      go_quiet (fail)
      clear q1 q1'
      go_wp2
      go_ret
      exact .int_ (by rw [F.out]) (HW.drewN _)

/-- The place and the size of the longest part. -/
def Long (B T : ByteArray) (w : World) (e : Ending) (w' : World) : Prop := e = .returned (.tuple #[.int .i64 ((best (bl B) (bl T)).1 : Nat), .int .i64 ((best (bl B) (bl T)).2 : Nat)]) ∧ Dr w w'

theorem Long.mk_ {B T : ByteArray} {x y : Nat} {w w' : World} (F : best (bl B) (bl T) = (x, y)) (h : Dr w w') : Long B T w (.returned (.tuple #[.int .i64 x, .int .i64 y])) w' := by unfold Long; rw [F]; exact ⟨rfl, h⟩

set_option maxHeartbeats 2000000 in
theorem implLongest_any (B T : ByteArray) (w : World) (hB : B.size ≤ 8) (hT : T.size ≤ 8) :
    Calls Try.prog 89 #[.string B, .string T] w (Long B T w) := by
  have lB := bl_size B
  have lT := bl_size T
  go_enter Try.func89, Try.ntmps89
  go_wp2_with fail
  go_loopw [6, 7, 12] (fun p q i wr => ∃ (k x y : Nat), k ≤ B.size ∧ i = .int .i64 k ∧ p = .int .i64 x ∧ q = .int .i64 y ∧ x ≤ 8 ∧ y ≤ 8 ∧ Hid (bestN (bl B) (bl T) k = (x, y)) ∧ Dr w wr) (fun _ _ i _ => B.size - (intOf i).toNat)
  case atStart => exact ⟨0, 0, 0, Nat.zero_le _, rfl, rfl, rfl, by omega, by omega, rfl, .refl _⟩
  case round =>
    obtain ⟨k, x, y, hk, rfl, rfl, rfl, hx, hy, HB, HW⟩ := hrel
    by_cases hlt : k < B.size
    · have hsz : (B.extract k B.size).size ≤ 1048576 := by rw [ByteArray.size_extract]; omega
      have E : Hid (cpl (bl (B.extract k B.size)) (bl T) = cpl ((bl B).drop k) (bl T)) := by show _ = _; rw [bl_tail]
      obtain ⟨n, hn⟩ : ∃ n, Hid (n = cpl ((bl B).drop k) (bl T)) := ⟨_, rfl⟩
      have hnl : n ≤ 8 := by have := cpl_le ((bl B).drop k) (bl T); rw [hn.out]; omega
      go_wp2_with fail
      refine (common_any (B.extract k B.size) T _ hsz).mono ?_
      rintro e w2 ⟨rfl, h2⟩
      rw [E.out, ← hn.out]
      have HW2 : Dr w w2 := by obtain ⟨d, rfl⟩ := h2; exact HW.drewN d
      clear h2 E hsz
      by_cases hlt2 : y < n
      · have H2 : Hid (bestN (bl B) (bl T) (k + 1) = (k, n)) := by
          show _ = _
          rw [bestN_up (by rw [HB.out, ← hn.out]; exact hlt2), ← hn.out]
        clear HB
        go_wp2
        go_roundw
        case rel => exact ⟨k + 1, k, n, by omega, by go_num, rfl, rfl, by omega, hnl, H2, HW2⟩
        case measure => simp [intOf]; omega
      · have H2 : Hid (bestN (bl B) (bl T) (k + 1) = (x, y)) := by
          show _ = _
          rw [bestN_as (by rw [HB.out, ← hn.out]; exact hlt2), HB.out]
        clear HB
        go_wp2
        go_roundw
        case rel => exact ⟨k + 1, x, y, by omega, by go_num, rfl, rfl, hx, hy, H2, HW2⟩
        case measure => simp [intOf]; omega
    · have hk' : k = B.size := by omega
      have F : Hid (best (bl B) (bl T) = (x, y)) := by show best (bl B) (bl T) = (x, y); unfold best; rw [lB, ← hk', HB.out]
      clear HB
      subst hk'
      go_wp2
      go_ret2
      exact .mk_ F.out HW

theorem drop_at {l : List UInt8} {k n : Nat} (h : k + n < l.length) : (l.drop k)[n]'(by rw [List.length_drop]; omega) = l[k + n] := by rw [List.getElem_drop]

theorem Dr.trans {a b c : World} (h : Dr a b) (k : Dr b c) : Dr a c := by
  obtain ⟨d, rfl⟩ := k
  exact h.drewN d

set_option maxHeartbeats 4000000 in
theorem specLongest_any (B T : ByteArray) (w : World) (hB : B.size ≤ 8) (hT : T.size ≤ 8) :
    Calls Try.prog 74 #[.string B, .string T] w (Long B T w) := by
  have lB := bl_size B
  have lT := bl_size T
  go_enter Try.func74, Try.ntmps74
  go_wp2_with fail
  go_loopw [6, 7, 8] (fun p q i wr => ∃ (k x y : Nat), k ≤ B.size ∧ i = .int .i64 k ∧ p = .int .i64 x ∧ q = .int .i64 y ∧ x ≤ 8 ∧ y ≤ 8 ∧ Hid (bestN (bl B) (bl T) k = (x, y)) ∧ Dr w wr) (fun _ _ i _ => B.size - (intOf i).toNat)
  case atStart => exact ⟨0, 0, 0, Nat.zero_le _, rfl, rfl, rfl, by omega, by omega, rfl, .refl _⟩
  case round =>
    obtain ⟨k, x, y, hk, rfl, rfl, rfl, hx, hy, HB, HW⟩ := hrel
    by_cases hlt : k < B.size
    · go_wp2_with fail
      go_loopw [9] (fun i wq => ∃ n : Nat, k + n ≤ B.size ∧ n ≤ T.size ∧ i = .int .i64 n ∧ Dr wr wq ∧ Hid (((bl B).drop k).take n = (bl T).take n)) (fun i _ => T.size - (intOf i).toNat)
      case atStart => exact ⟨0, by omega, Nat.zero_le _, rfl, .refl _, rfl⟩
      case round =>
        obtain ⟨n, hn1, hn2, rfl, HV, HT⟩ := hrel
        have la : ((bl B).drop k).length = B.size - k := by rw [List.length_drop, lB]
        have lb := lT
        have n0 : 0 ≤ (n : Int) := by omega
        have n1 : 0 ≤ (k : Int) + (n : Int) := by omega
        have N2 : Hid (IntKind.i64.wrap ((k : Int) + (n : Int)) = (k : Int) + (n : Int)) := IntWalk.i64_in _ (by omega)
        have N3 : Hid (((k : Int) + (n : Int)).toNat = k + n) := by show _ = _; omega
        by_cases h1 : n < T.size
        · have q1 : decide ((n : Int) < (T.size : Int)) = true := by simpa using h1
          have q1' : decide (n < T.size) = true := by simpa using h1
          by_cases h2 : k + n < B.size
          · have q2 : decide ((k : Int) + (n : Int) < (B.size : Int)) = true := by simp; omega
            have q2' : (k : Int) + (n : Int) < (B.size : Int) := by omega
            by_cases h3 : B[k + n] = T[n]
            · have q3 : (((B[k + n]).toNat : Int) == ((T[n]).toNat : Int)) = true := by rw [h3]; simp
              have HT2 := hid (take_more HT.out (by omega) (by omega) ((drop_at (l := bl B) (k := k) (n := n) (by omega)).trans (show (bl B)[k + n] = (bl T)[n] from h3)))
              clear HT h3 la lb lB lT
              go_wp2_with fail
              have n2 := N2.out
              have n3 := N3.out
              go_quiet (fail)
              clear q1 q1' q2 q3 n2
              go_wp2
              go_roundw
              case rel => exact ⟨n + 1, by omega, by omega, by go_num, HV.drewN _, HT2⟩
              case measure => simp [intOf]; omega
            · have q3 : (((B[k + n]).toNat : Int) == ((T[n]).toNat : Int)) = false := by
                rw [beq_eq_false_iff_ne]
                intro e
                exact h3 (UInt8.toNat_inj.1 (by omega))
              have F := hid (cpl_stop HT.out (by omega) (by omega) (fun ⟨_, _, e⟩ => h3 ((show B[k + n] = ((bl B).drop k)[n]'(by omega) from (drop_at (l := bl B) (k := k) (n := n) (by omega)).symm).trans e)))
              clear h3
              clear HT la lb lB lT
              go_wp2_with fail
              have n2 := N2.out
              have n3 := N3.out
              go_quiet (fail)
              clear q1 q1' q2 q3 n2
              by_cases hlt2 : y < n
              · have H2 : Hid (bestN (bl B) (bl T) (k + 1) = (k, n)) := by
                  show _ = _
                  rw [bestN_up (by rw [HB.out, F.out]; exact hlt2), F.out]
                clear HB F
                go_wp2
                go_roundw
                case rel => exact ⟨k + 1, k, n, by omega, by go_num, rfl, rfl, by omega, by omega, H2, (HW.trans HV).drewN _⟩
                case measure => simp [intOf]; omega
              · have H2 : Hid (bestN (bl B) (bl T) (k + 1) = (x, y)) := by
                  show _ = _
                  rw [bestN_as (by rw [HB.out, F.out]; exact hlt2), HB.out]
                clear HB F
                go_wp2
                go_roundw
                case rel => exact ⟨k + 1, x, y, by omega, by go_num, rfl, rfl, hx, hy, H2, (HW.trans HV).drewN _⟩
                case measure => simp [intOf]; omega
          · have q2 : decide ((k : Int) + (n : Int) < (B.size : Int)) = false := by simp; omega
            have F := hid (cpl_stop HT.out (by omega) (by omega) (fun ⟨h, _, _⟩ => absurd h (by omega)))
            clear HT la lb lB lT
            go_wp2_with fail
            have n2 := N2.out
            have n3 := N3.out
            go_quiet (fail)
            clear q1 q1' q2  n2
            by_cases hlt2 : y < n
            · have H2 : Hid (bestN (bl B) (bl T) (k + 1) = (k, n)) := by
                show _ = _
                rw [bestN_up (by rw [HB.out, F.out]; exact hlt2), F.out]
              clear HB F
              go_wp2
              go_roundw
              case rel => exact ⟨k + 1, k, n, by omega, by go_num, rfl, rfl, by omega, by omega, H2, (HW.trans HV).drewN _⟩
              case measure => simp [intOf]; omega
            · have H2 : Hid (bestN (bl B) (bl T) (k + 1) = (x, y)) := by
                show _ = _
                rw [bestN_as (by rw [HB.out, F.out]; exact hlt2), HB.out]
              clear HB F
              go_wp2
              go_roundw
              case rel => exact ⟨k + 1, x, y, by omega, by go_num, rfl, rfl, hx, hy, H2, (HW.trans HV).drewN _⟩
              case measure => simp [intOf]; omega
        · have q1 : decide ((n : Int) < (T.size : Int)) = false := by simpa using h1
          have q1' : decide (n < T.size) = false := by simpa using h1
          have F := hid (cpl_stop HT.out (by omega) (by omega) (fun ⟨_, h, _⟩ => absurd h (by omega)))
          clear HT la lb lB lT
          go_wp2_with fail
          have n2 := N2.out
          have n3 := N3.out
          go_quiet (fail)
          clear q1 q1'   n2
          by_cases hlt2 : y < n
          · have H2 : Hid (bestN (bl B) (bl T) (k + 1) = (k, n)) := by
              show _ = _
              rw [bestN_up (by rw [HB.out, F.out]; exact hlt2), F.out]
            clear HB F
            go_wp2
            go_roundw
            case rel => exact ⟨k + 1, k, n, by omega, by go_num, rfl, rfl, by omega, by omega, H2, (HW.trans HV).drewN _⟩
            case measure => simp [intOf]; omega
          · have H2 : Hid (bestN (bl B) (bl T) (k + 1) = (x, y)) := by
              show _ = _
              rw [bestN_as (by rw [HB.out, F.out]; exact hlt2), HB.out]
            clear HB F
            go_wp2
            go_roundw
            case rel => exact ⟨k + 1, x, y, by omega, by go_num, rfl, rfl, hx, hy, H2, (HW.trans HV).drewN _⟩
            case measure => simp [intOf]; omega
    · have hk' : k = B.size := by omega
      have F : Hid (best (bl B) (bl T) = (x, y)) := by show best (bl B) (bl T) = (x, y); unfold best; rw [lB, ← hk', HB.out]
      clear HB
      subst hk'
      go_wp2
      go_ret2
      exact .mk_ F.out HW
end Go.Proofs.Ytkekbobnbipmoaa
