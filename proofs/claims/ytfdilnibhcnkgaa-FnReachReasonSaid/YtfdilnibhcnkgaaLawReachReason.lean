/-
  Walk of the law that each id that is reached has a reason.
-/
import Derived.Test.YtfdilnibhcnkgaaRchC
import Derived.Test.YtfdilnibhcnkgaaLawGet
namespace Go.Proofs.Ytfdilnibhcnkgaa
open Go.RowKit Wo Pu

theorem FnReachReason_no (A : Option Addr) (c : Nat) (bs : List Int) (w : World) (h : Code_ w A c bs) (hl : ¬ bs.length ≤ 1048576) :
    Calls Try.prog 4 #[.slice A bs.length c] w (Ret (.bool true) w) := by
  have hc := h.2.1
  have hm := h.2.2.1
  unfold maxLen at hm
  go_enter Try.func4, Try.ntmps4
  go_wp2
  go_ret
  exact .mk_ (Below.refl _ _)
set_option maxHeartbeats 8000000 in
theorem FnReachReason_yes (A : Option Addr) (c : Nat) (bs : List Int) (w : World) (h : Code_ w A c bs) (hl : bs.length ≤ 1048576) :
    Calls Try.prog 4 #[.slice A bs.length c] w (Ret (.bool true) w) := by
  go_enter Try.func4, Try.ntmps4
  go_wp2_with fail
  refine (DrawStoreReach_any A c bs _ h).mono ?_
  rintro e w1 ⟨A1, c1, os, A2, c2, fr, rfl, h1, hc1, hl22, hv, hfr1, hl2, b1⟩
  have hn : os.length ≤ maxLen := by unfold maxLen; omega
  have hm : fr.length ≤ maxLen := by unfold maxLen; omega
  have hf := fit_of hv
  have HV := hid hv
  clear hv
  go_wp2_with fail
  refine (implStoreReach_any A1 A2 c1 c2 os fr w1 h1 hf hn hfr1 hm).mono ?_
  rintro e w2 ⟨L2, ha2, v2, rfl, o2, bb2⟩
  obtain ⟨A3, c3, rfl, q2⟩ := o2.form
  have h2 := (h1.below bb2 (Nat.le_refl _)).more bb2.size
  have hfr2 := (hfr1.below bb2 (Nat.le_refl _)).more bb2.size
  have b2 := b1.trans (bb2.mono b1.size)
  clear h1 hfr1 bb2 b1 o2
  go_wp2_with fail
  refine (specStoreReach_any A1 A2 c1 c2 os fr w2 h2 hf hn hfr2 hm).mono ?_
  rintro e w3 ⟨L3, ha3, v3, rfl, o3, bb3⟩
  rw [ha3.reach ha2] at o3
  have HI : Hid (IsR os fr (reachL os L2)) := ha2.isreach
  have hRl : (reachL os L2).length ≤ 991 := (Ans.few (os := os) (L := L2)).1
  have HA2 := hid ha2
  clear ha2 ha3
  obtain ⟨R, hRR⟩ : ∃ R, reachL os L2 = R := ⟨_, rfl⟩
  rw [hRR] at o3 q2 HI hRl ⊢
  clear hRR HA2
  obtain ⟨A4, c4, rfl, s3⟩ := o3.form
  have h3 := (h2.below bb3 (Nat.le_refl _)).more bb3.size
  have hfr3 := (hfr2.below bb3 (Nat.le_refl _)).more bb3.size
  have q3 := (q2.below bb3 (Nat.le_refl _)).more bb3.size
  have b3 := b2.trans (bb3.mono b2.size)
  clear h2 hfr2 bb3 b2 o3 q2
  have hRm : R.length ≤ maxLen := by unfold maxLen; omega
  go_wp2_with fail
  refine (sameIntsR_same _ _ A3 A4 c3 c4 R w3 q3 s3 hRm).mono ?_
  rintro e w4 ⟨rfl, bb4⟩
  have h4 := (h3.below bb4 (Nat.le_refl _)).more bb4.size
  have hfr4 := (hfr3.below bb4 (Nat.le_refl _)).more bb4.size
  have q4 := (q3.below bb4 (Nat.le_refl _)).more bb4.size
  have s4 := (s3.below bb4 (Nat.le_refl _)).more bb4.size
  have b4 := b3.trans (bb4.mono b3.size)
  clear h3 hfr3 q3 s3 b3 bb4
  go_wp2_with fail
  go_loopw [7] (fun i wr => ∃ k : Nat, k ≤ R.length ∧ i = .int .i64 k ∧ Below w4.heap.size w4 wr) (fun i _ => R.length - (intOf i).toNat)
  case atStart => exact ⟨0, Nat.zero_le _, rfl, Below.refl _ _⟩
  case round =>
    obtain ⟨k, hk, rfl, hb⟩ := hrel
    have hz := hb.size
    have h5 := (h4.below hb (Nat.le_refl _)).more hz
    have q5 := (q4.below hb (Nat.le_refl _)).more hz
    have hfr5 := (hfr4.below hb (Nat.le_refl _)).more hz
    by_cases hlt : k < R.length
    · have hR0 : R ≠ [] := fun e => by rw [e] at hlt; simp at hlt
      have HOK := hid (HI.out.ok hR0)
      have HS : Hid (storeB os = true) := HOK.out.1.1
      clear hR0
      obtain ⟨ad, rfl, hba, hc⟩ := q5.int_ hlt
      obtain ⟨x, hx⟩ : ∃ x, R[k] = x := ⟨_, rfl⟩
      rw [hx] at hc
      have HXE := hid hx
      have HX : Hid (x ∈ R) := by rw [← hx]; exact List.getElem_mem hlt
      clear hx
      have k0 : 0 ≤ (k : Int) := by omega
      have k1 : (k : Int) < (R.length : Int) := by omega
      have HW0 : Hid (decide (x ∈ fr) = why os fr R x 0) := (why_zero os fr R x).symm
      go_wp2_with (go_at_call 17; refine (hasInt_any _ A2 c2 fr x _ hfr5 hm).mono ?_; rintro e w' ⟨rfl, rfl⟩; rw [HW0.out])
      go_loopw [8, 9] (fun f j wq => ∃ m : Nat, m ≤ R.length ∧ j = .int .i64 m ∧ f = .bool (why os fr R x m) ∧ Below wr.heap.size wr wq) (fun _ j _ => R.length - (intOf j).toNat)
      case atStart => exact ⟨0, Nat.zero_le _, rfl, rfl, Below.refl _ _⟩
      case round =>
        obtain ⟨m, hm2, rfl, rfl, hq⟩ := hrel
        have h8 := (h5.below hq (Nat.le_refl _)).more hq.size
        have q8 := (q5.below hq (Nat.le_refl _)).more hq.size
        have hb8 := hb.trans (hq.mono hb.size)
        by_cases hlm : m < R.length
        · obtain ⟨ad2, he2, _, hc2⟩ := q8.int_ hlm
          obtain rfl : ad = ad2 := by injection he2
          obtain ⟨y, hy⟩ : ∃ y, R[m] = y := ⟨_, rfl⟩
          rw [hy] at hc2
          have HYE := hid hy
          have HY : Hid (y ∈ R) := by rw [← hy]; exact List.getElem_mem hlm
          clear hy he2
          have m0 : 0 ≤ (m : Int) := by omega
          have m1 : (m : Int) < (R.length : Int) := by omega
          cases hwhy : why os fr R x m
          · go_wp2_with fail
            refine (get_any A1 c1 os y _ h8 hf hn HS).mono ?_
            rintro e w9 ⟨A9, c9, o9, rfl, o9', bb9, ho9⟩
            have HO := hid (ho9.1 ((HOK.out.2 y).1 HY.out).2)
            have hz4 := ho9.few HS.out
            have r9 : Row w9 w9.heap.size A9 (ints o9.zs) := o9'.row
            have q9 := (q8.below bb9 (Nat.le_refl _)).more bb9.size
            have hq9 := hq.trans (bb9.mono hq.size)
            clear h8 q8 hb8 hc2 bb9 hq ho9 o9'
            have HN : Hid (decide (x ∈ o9.zs) = why os fr R x (m + 1)) := (why_no HS.out HO.out.1 hlm (HO.out.2.trans HYE.out.symm) hwhy).symm
            clear hwhy
            unfold ob
            obtain ⟨p9, d9, z9⟩ := putOb_facts w9 o9 A9 c9
            have r10 := (r9.below d9 (Nat.le_refl _)).more d9.size
            have q10 := (q9.below d9 (Nat.le_refl _)).more d9.size
            have hq10 := hq9.trans (d9.mono hq9.size)
            obtain ⟨y0, y1, y2, -⟩ := id p9.reads
            obtain ⟨ad3, he3, _, hc3⟩ := q10.int_ hlt
            obtain rfl : ad = ad3 := by injection he3
            clear he3
            rw [HXE.out] at hc3
            unfold putOb at y0 y1 y2 hc3 r10 hq10
            clear p9 d9 z9 r9 q9 hq9 q10
            have hmz : o9.zs.length ≤ maxLen := by unfold maxLen; omega
            go_wp2_with fail
            generalize w9.alloc (.cells #[.int .i64 o9.kd, .slice A9 o9.zs.length c9, .string o9.s] 30) = W at *
            go_quiet ((go_at_call 17; exact Calls.quiet_of_same ((hasInt_any _ A9 c9 o9.zs x _ (r10.drewN _) hmz).mono (by rintro e w' ⟨rfl, rfl⟩; exact ⟨rfl, rfl⟩))))
            go_wp2_with fail
            go_roundw
            case rel => exact ⟨m + 1, by omega, by go_num, by rw [HN.out], Wo.Below.drewN hq10 _⟩
            case measure => simp [intOf]; omega
          · go_wp2_with fail
            refine (get_any A1 c1 os y _ h8 hf hn HS).mono ?_
            rintro e w9 ⟨A9, c9, o9, rfl, _, bb9, _⟩
            have hq9 := hq.trans (bb9.mono hq.size)
            clear h8 q8 hb8 hc2 bb9 hq
            have HN : Hid (why os fr R x (m + 1) = true) := why_yes hlm hwhy
            clear hwhy
            unfold ob
            obtain ⟨-, d9, z9⟩ := putOb_facts w9 o9 A9 c9
            have hq10 := hq9.trans (d9.mono hq9.size)
            unfold putOb at hq10
            clear d9 z9 hq9
            go_wp2_with fail
            generalize w9.alloc (.cells #[.int .i64 o9.kd, .slice A9 o9.zs.length c9, .string o9.s] 30) = W at *
            go_quiet (fail)
            go_wp2_with fail
            go_roundw
            case rel => exact ⟨m + 1, by omega, by go_num, by rw [HN.out], Wo.Below.drewN hq10 _⟩
            case measure => simp [intOf]; omega
        · have hm' : m = R.length := by omega
          subst hm'
          have HT : Hid (why os fr R x R.length = true) := why_all HOK.out.2 ((HOK.out.2 x).1 HX.out).1
          rw [HT.out]
          go_wp2_with fail
          go_roundw
          case rel => exact ⟨k + 1, by omega, by go_num, hb8⟩
          case measure => simp [intOf]; omega
    · go_wp2_with fail
      go_ret
      exact .mk_ (b4.trans (hb.mono b4.size))
theorem FnReachReason_any (A : Option Addr) (c : Nat) (bs : List Int) (w : World) (f1 : Row w w.heap.size A (bs.map (Value.int .u8))) (f2 : bs.length ≤ c) (f3 : c ≤ maxLen) (f4 : ∀ n ∈ bs, 0 ≤ n ∧ n < 256) :
    Calls Try.prog 4 #[.slice A bs.length c] w (Ret (.bool true) w) := by
  by_cases hl : bs.length ≤ 1048576
  · exact FnReachReason_yes A c bs w ⟨f1, f2, f3, f4⟩ hl
  · exact FnReachReason_no A c bs w ⟨f1, f2, f3, f4⟩ hl
end Go.Proofs.Ytfdilnibhcnkgaa
