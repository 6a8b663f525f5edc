/-
  Walk of the law that what is reached is closed.
-/
import Derived.Test.YtfdilnibhcnkgaaRchC
import Derived.Test.YtfdilnibhcnkgaaLawGet
namespace Go.Proofs.Ytfdilnibhcnkgaa
open Go.RowKit Wo Pu

theorem FnReach_no (A : Option Addr) (c : Nat) (bs : List Int) (w : World) (h : Code_ w A c bs) (hl : ¬ bs.length ≤ 1048576) :
    Calls Try.prog 3 #[.slice A bs.length c] w (Ret (.bool true) w) := by
  have hc := h.2.1
  have hm := h.2.2.1
  unfold maxLen at hm
  go_enter Try.func3, Try.ntmps3
  go_wp2
  go_ret
  exact .mk_ (Below.refl _ _)
set_option maxHeartbeats 8000000 in
theorem FnReach_yes (A : Option Addr) (c : Nat) (bs : List Int) (w : World) (h : Code_ w A c bs) (hl : bs.length ≤ 1048576) :
    Calls Try.prog 3 #[.slice A bs.length c] w (Ret (.bool true) w) := by
  go_enter Try.func3, Try.ntmps3
  go_wp2_with fail
  refine (DrawStoreReach_any A c bs _ h).mono ?_
  rintro e w1 ⟨A1, c1, os, A2, c2, fr, rfl, h1, hc1, hl22, hv, hfr1, hl2, b1⟩
  have hn : os.length ≤ maxLen := by unfold maxLen; omega
  have hm : fr.length ≤ maxLen := by unfold maxLen; omega
  have hf := fit_of hv
  have HV := hid hv
  clear hv
  go_wp2_with fail
  refine (implStoreReach_any A1 A2 c1 c2 os fr w1 h1 hf hn hfr1 hm).mono ?_
  rintro e w2 ⟨L2, ha2, v2, rfl, o2, bb2⟩
  obtain ⟨A3, c3, rfl, q2⟩ := o2.form
  have h2 := (h1.below bb2 (Nat.le_refl _)).more bb2.size
  have hfr2 := (hfr1.below bb2 (Nat.le_refl _)).more bb2.size
  have b2 := b1.trans (bb2.mono b1.size)
  clear h1 hfr1 bb2 b1 o2
  go_wp2_with fail
  refine (specStoreReach_any A1 A2 c1 c2 os fr w2 h2 hf hn hfr2 hm).mono ?_
  rintro e w3 ⟨L3, ha3, v3, rfl, o3, bb3⟩
  rw [ha3.reach ha2] at o3
  have HI : Hid (IsR os fr (reachL os L2)) := ha2.isreach
  have hRl : (reachL os L2).length ≤ 991 := (Ans.few (os := os) (L := L2)).1
  have HA2 := hid ha2
  clear ha2 ha3
  obtain ⟨R, hRR⟩ : ∃ R, reachL os L2 = R := ⟨_, rfl⟩
  rw [hRR] at o3 q2 HI hRl ⊢
  clear hRR HA2
  obtain ⟨A4, c4, rfl, s3⟩ := o3.form
  have h3 := (h2.below bb3 (Nat.le_refl _)).more bb3.size
  have hfr3 := (hfr2.below bb3 (Nat.le_refl _)).more bb3.size
  have q3 := (q2.below bb3 (Nat.le_refl _)).more bb3.size
  have b3 := b2.trans (bb3.mono b2.size)
  clear h2 hfr2 bb3 b2 o3 q2
  have hRm : R.length ≤ maxLen := by unfold maxLen; omega
  go_wp2_with fail
  refine (sameIntsR_same _ _ A3 A4 c3 c4 R w3 q3 s3 hRm).mono ?_
  rintro e w4 ⟨rfl, bb4⟩
  have h4 := (h3.below bb4 (Nat.le_refl _)).more bb4.size
  have hfr4 := (hfr3.below bb4 (Nat.le_refl _)).more bb4.size
  have q4 := (q3.below bb4 (Nat.le_refl _)).more bb4.size
  have s4 := (s3.below bb4 (Nat.le_refl _)).more bb4.size
  have b4 := b3.trans (bb4.mono b3.size)
  clear h3 hfr3 q3 s3 b3 bb4
  by_cases hR0 : R = []
  · subst hR0
    go_wp2_with fail
    refine (sameIntsR_same _ _ A3 A4 c3 c4 [] w4 q4 s4 hRm).mono ?_
    rintro e w5 ⟨rfl, bb5⟩
    go_wp2
    go_ret
    exact .mk_ (b4.trans (bb5.mono b4.size))
  · have HOK := hid (HI.out.ok hR0)
    have HS : Hid (storeB os = true) := HOK.out.1.1
    have hl0 : 0 < R.length := List.length_pos_iff.2 hR0
    have hne : ((R.length : Int) == 0) = false := by rw [beq_eq_false_iff_ne]; omega
    clear hR0
    go_wp2_with fail
    go_loopw [7] (fun i wr => ∃ k : Nat, k ≤ R.length ∧ i = .int .i64 k ∧ Below w4.heap.size w4 wr) (fun i _ => R.length - (intOf i).toNat)
    case atStart => exact ⟨0, Nat.zero_le _, rfl, Below.refl _ _⟩
    case round =>
      obtain ⟨k, hk, rfl, hb⟩ := hrel
      have hz := hb.size
      have h5 := (h4.below hb (Nat.le_refl _)).more hz
      have q5 := (q4.below hb (Nat.le_refl _)).more hz
      have hfr5 := (hfr4.below hb (Nat.le_refl _)).more hz
      by_cases hlt : k < R.length
      · obtain ⟨ad, rfl, hba, hc⟩ := q5.int_ hlt
        obtain ⟨x, hx⟩ : ∃ x, R[k] = x := ⟨_, rfl⟩
        rw [hx] at hc
        have HX : Hid (x ∈ R) := by rw [← hx]; exact List.getElem_mem hlt
        clear hx
        have k0 : 0 ≤ (k : Int) := by omega
        have k1 : (k : Int) < (R.length : Int) := by omega
        go_wp2_with fail
        refine (get_any A1 c1 os x wr h5 hf hn HS).mono ?_
        rintro e w6 ⟨A6, c6, o, rfl, o6, bb6, ho6⟩
        have hin := ((HOK.out.2 x).1 HX.out).2
        rw [hin]
        have HO := hid (ho6.1 hin)
        have hz4 := ho6.few HS.out
        have r6 : Row w6 w6.heap.size A6 (ints o.zs) := o6.row
        have h6 := (h5.below bb6 (Nat.le_refl _)).more bb6.size
        have q6 := (q5.below bb6 (Nat.le_refl _)).more bb6.size
        have hb6 := hb.trans (bb6.mono hz)
        clear hin ho6 o6 h5 q5 hfr5 hc hba bb6 hb hz
        unfold ob
        obtain ⟨p6, d6, z6⟩ := putOb_facts w6 o A6 c6
        have r7 := (r6.below d6 (Nat.le_refl _)).more d6.size
        have h7 := (h6.below d6 (Nat.le_refl _)).more d6.size
        have q7 := (q6.below d6 (Nat.le_refl _)).more d6.size
        have hb7 := hb6.trans (d6.mono hb6.size)
        clear r6 h6 q6 hb6 d6
        unfold putOb at p6 z6 r7 h7 q7 hb7
        go_wp2_with fail
        generalize w6.alloc (.cells #[.int .i64 o.kd, .slice A6 o.zs.length c6, .string o.s] 30) = W at *
        go_loopw [10] (fun j wq => ∃ m : Nat, m ≤ o.zs.length ∧ j = .int .i64 m ∧ Below W.heap.size W wq) (fun j _ => o.zs.length - (intOf j).toNat)
        case atStart => exact ⟨0, Nat.zero_le _, rfl, Below.refl _ _⟩
        case round =>
          obtain ⟨m, hm2, rfl, hq⟩ := hrel
          have p8 := p6.below hq p6.lt
          have r8 := (r7.below hq (Nat.le_refl _)).more hq.size
          have h8 := (h7.below hq (Nat.le_refl _)).more hq.size
          have q8 := (q7.below hq (Nat.le_refl _)).more hq.size
          have hb8 := hb7.trans (hq.mono hb7.size)
          obtain ⟨y0, y1, y2, -⟩ := id p8.reads
          by_cases hlm : m < o.zs.length
          · obtain ⟨ad2, rfl, _, hc2⟩ := r8.int_ hlm
            obtain ⟨y, hy⟩ : ∃ y, o.zs[m] = y := ⟨_, rfl⟩
            rw [hy] at hc2
            have HYE := hid hy
            have HY : Hid (y ∈ o.zs) := by rw [← hy]; exact List.getElem_mem hlm
            clear hy
            have m0 : 0 ≤ (m : Int) := by omega
            have m1 : (m : Int) < (o.zs.length : Int) := by omega
            go_wp2_with fail
            refine (get_any A1 c1 os y wr h8 hf hn HS).mono ?_
            rintro e w9 ⟨A9, c9, o9, rfl, _, bb9, _⟩
            have p9 := p8.below bb9 p8.lt
            have r9 := (r8.below bb9 (Nat.le_refl _)).more bb9.size
            have q9 := (q8.below bb9 (Nat.le_refl _)).more bb9.size
            have hq9 := hq.trans (bb9.mono hq.size)
            clear y0 y1 y2 p8 r8 h8 q8 hb8 hc2 bb9 hq
            unfold ob
            obtain ⟨-, d9, z9⟩ := putOb_facts w9 o9 A9 c9
            have p10 := p9.below d9 p9.lt
            have r10 := (r9.below d9 (Nat.le_refl _)).more d9.size
            have q10 := (q9.below d9 (Nat.le_refl _)).more d9.size
            have hq10 := hq9.trans (d9.mono hq9.size)
            obtain ⟨y0, y1, y2, -⟩ := id p10.reads
            obtain ⟨ad3, he3, _, hc3⟩ := r10.int_ hlm
            obtain rfl : ad2 = ad3 := by injection he3
            clear he3
            rw [HYE.out] at hc3
            unfold putOb at y0 y1 y2 hc3 q10 hq10
            clear p10 r10 d9 z9 p9 r9 q9 hq9
            cases hin : isIn os y
            · go_wp2_with fail
              go_roundw
              case rel => exact ⟨m + 1, by omega, by go_num, hq10⟩
              case measure => simp [intOf]; omega
            · have HT : Hid (decide (y ∈ R) = true) := decide_eq_true ((HOK.out.2 y).2 ⟨.link HO.out.1 (by rw [HO.out.2]; exact ((HOK.out.2 x).1 HX.out).1) HY.out, hin⟩)
              clear hin
              go_wp2_with (go_at_call 17; refine (hasInt_any _ (some ad) c3 R y _ q10 hRm).mono ?_; rintro e w' ⟨rfl, rfl⟩; rw [HT.out])
              go_roundw
              case rel => exact ⟨m + 1, by omega, by go_num, hq10⟩
              case measure => simp [intOf]; omega
          · go_wp2_with fail
            go_roundw
            case rel => exact ⟨k + 1, by omega, by go_num, hb8⟩
            case measure => simp [intOf]; omega
      · have b5 := b4.trans (hb.mono b4.size)
        clear h4 hfr4 q4 s4 b4 hb
        have HS1 := HOK.out.1
        go_wp2_with fail
        go_loopw [13] (fun j wq => ∃ m : Nat, m ≤ fr.length ∧ j = .int .i64 m ∧ Below wr.heap.size wr wq) (fun j _ => fr.length - (intOf j).toNat)
        case atStart => exact ⟨0, Nat.zero_le _, rfl, Below.refl _ _⟩
        case round =>
          obtain ⟨m, hm2, rfl, hq⟩ := hrel
          have h8 := (h5.below hq (Nat.le_refl _)).more hq.size
          have q8 := (q5.below hq (Nat.le_refl _)).more hq.size
          have hfr8 := (hfr5.below hq (Nat.le_refl _)).more hq.size
          have b8 := b5.trans (hq.mono b5.size)
          by_cases hlm : m < fr.length
          · obtain ⟨ad2, rfl, _, hc2⟩ := hfr8.int_ hlm
            obtain ⟨y, hy⟩ : ∃ y, fr[m] = y := ⟨_, rfl⟩
            rw [hy] at hc2
            have HYE := hid hy
            have HY : Hid (y ∈ fr) := by rw [← hy]; exact List.getElem_mem hlm
            clear hy
            have m0 : 0 ≤ (m : Int) := by omega
            have m1 : (m : Int) < (fr.length : Int) := by omega
            go_wp2_with fail
            refine (get_any A1 c1 os y wr h8 hf hn HS).mono ?_
            rintro e w9 ⟨A9, c9, o9, rfl, _, bb9, _⟩
            have q9 := (q8.below bb9 (Nat.le_refl _)).more bb9.size
            have hfr9 := (hfr8.below bb9 (Nat.le_refl _)).more bb9.size
            have hq9 := hq.trans (bb9.mono hq.size)
            clear h8 q8 hfr8 b8 hc2 bb9 hq
            unfold ob
            obtain ⟨-, d9, z9⟩ := putOb_facts w9 o9 A9 c9
            have q10 := (q9.below d9 (Nat.le_refl _)).more d9.size
            have hfr10 := (hfr9.below d9 (Nat.le_refl _)).more d9.size
            have hq10 := hq9.trans (d9.mono hq9.size)
            obtain ⟨ad3, he3, _, hc3⟩ := hfr10.int_ hlm
            obtain rfl : ad2 = ad3 := by injection he3
            clear he3
            rw [HYE.out] at hc3
            unfold putOb at hc3 q10 hq10
            clear hfr10 d9 z9 q9 hfr9 hq9
            have HT : Hid (decide (y ∈ R) = isIn os y) := by
              show decide (y ∈ R) = isIn os y
              rw [Bool.eq_iff_iff, decide_eq_true_eq, HOK.out.2 y]
              exact ⟨fun e => e.2, fun e => ⟨.base HY.out, e⟩⟩
            go_wp2_with (go_at_call 17; refine (hasInt_any _ A3 c3 R y _ q10 hRm).mono ?_; rintro e w' ⟨rfl, rfl⟩; rw [HT.out])
            go_roundw
            case rel => exact ⟨m + 1, by omega, by go_num, hq10⟩
            case measure => simp [intOf]; omega
          · go_wp2_with fail
            refine (ascending_yes _ A3 c3 R wr q8 (by omega) HI.out.1).mono ?_
            rintro e w9 ⟨rfl, bb9⟩
            go_wp2
            go_ret
            exact .mk_ (b8.trans (bb9.mono b8.size))
theorem FnReach_any (A : Option Addr) (c : Nat) (bs : List Int) (w : World) (f1 : Row w w.heap.size A (bs.map (Value.int .u8))) (f2 : bs.length ≤ c) (f3 : c ≤ maxLen) (f4 : ∀ n ∈ bs, 0 ≤ n ∧ n < 256) :
    Calls Try.prog 3 #[.slice A bs.length c] w (Ret (.bool true) w) := by
  by_cases hl : bs.length ≤ 1048576
  · exact FnReach_yes A c bs w ⟨f1, f2, f3, f4⟩ hl
  · exact FnReach_no A c bs w ⟨f1, f2, f3, f4⟩ hl
end Go.Proofs.Ytfdilnibhcnkgaa
