/-
  Walk of the law that what is reached reaches nothing more.
-/
import Derived.Test.YtfdilnibhcnkgaaRchC
import Derived.Test.YtfdilnibhcnkgaaLawGet
namespace Go.Proofs.Ytfdilnibhcnkgaa
open Go.RowKit Wo Pu

theorem Rc.more {os : List Ob} {fr gr : List Int} {x : Int} (h : Rc os gr x) (hg : ∀ y ∈ gr, Rc os fr y) : Rc os fr x := by
  induction h with
  | base h => exact hg _ h
  | link ho _ hy ih => exact .link ho ih hy

theorem FnReachAgain_no (A : Option Addr) (c : Nat) (bs : List Int) (A' : Option Addr) (c' : Nat) (bs' : List Int) (w : World) (h : Code_ w A c bs) (h' : Code_ w A' c' bs') (hl : ¬ (bs.length ≤ 1048576 ∧ bs'.length ≤ 1048576)) :
    Calls Try.prog 8 #[.slice A bs.length c, .slice A' bs'.length c'] w (Ret (.bool true) w) := by
  have hc := h.2.1
  have hm := h.2.2.1
  have hc' := h'.2.1
  have hm' := h'.2.2.1
  unfold maxLen at hm hm'
  by_cases h1 : bs.length ≤ 1048576
  · have h2 : ¬ bs'.length ≤ 1048576 := fun e => hl ⟨h1, e⟩
    clear hl
    go_enter Try.func8, Try.ntmps8
    go_wp2
    go_ret
    exact .mk_ (Below.refl _ _)
  · clear hl
    go_enter Try.func8, Try.ntmps8
    go_wp2
    go_ret
    exact .mk_ (Below.refl _ _)
set_option maxHeartbeats 4000000 in
theorem FnReachAgain_yes (A : Option Addr) (c : Nat) (bs : List Int) (A' : Option Addr) (c' : Nat) (bs' : List Int) (w : World) (h : Code_ w A c bs) (_ : Code_ w A' c' bs') (hl : bs.length ≤ 1048576) (hl' : bs'.length ≤ 1048576) :
    Calls Try.prog 8 #[.slice A bs.length c, .slice A' bs'.length c'] w (Ret (.bool true) w) := by
  go_enter Try.func8, Try.ntmps8
  go_wp2_with fail
  refine (DrawStoreReach_any A c bs _ h).mono ?_
  rintro e w1 ⟨A1, c1, os, A2, c2, fr, rfl, h1, hc1, hl22, hv, hfr1, hl2, b1⟩
  have hn : os.length ≤ maxLen := by unfold maxLen; omega
  have hm : fr.length ≤ maxLen := by unfold maxLen; omega
  have hf := fit_of hv
  have HV := hid hv
  clear hv
  go_wp2_with fail
  refine (implStoreReach_any A1 A2 c1 c2 os fr w1 h1 hf hn hfr1 hm).mono ?_
  rintro e w2 ⟨L2, ha2, v2, rfl, o2, bb2⟩
  obtain ⟨A3, c3, rfl, q2⟩ := o2.form
  have h2 := (h1.below bb2 (Nat.le_refl _)).more bb2.size
  have hfr2 := (hfr1.below bb2 (Nat.le_refl _)).more bb2.size
  have b2 := b1.trans (bb2.mono b1.size)
  clear h1 hfr1 bb2 b1 o2
  go_wp2_with fail
  refine (specStoreReach_any A1 A2 c1 c2 os fr w2 h2 hf hn hfr2 hm).mono ?_
  rintro e w3 ⟨L3, ha3, v3, rfl, o3, bb3⟩
  rw [ha3.reach ha2] at o3
  have HI : Hid (IsR os fr (reachL os L2)) := ha2.isreach
  have hRl : (reachL os L2).length ≤ 991 := (Ans.few (os := os) (L := L2)).1
  have HA2 := hid ha2
  clear ha2 ha3
  obtain ⟨R, hRR⟩ : ∃ R, reachL os L2 = R := ⟨_, rfl⟩
  rw [hRR] at o3 q2 HI hRl ⊢
  clear hRR HA2
  obtain ⟨A4, c4, rfl, s3⟩ := o3.form
  have h3 := (h2.below bb3 (Nat.le_refl _)).more bb3.size
  have hfr3 := (hfr2.below bb3 (Nat.le_refl _)).more bb3.size
  have q3 := (q2.below bb3 (Nat.le_refl _)).more bb3.size
  have b3 := b2.trans (bb3.mono b2.size)
  clear h2 hfr2 bb3 b2 o3 q2
  have hRm : R.length ≤ maxLen := by unfold maxLen; omega
  go_wp2_with fail
  refine (sameIntsR_same _ _ A3 A4 c3 c4 R w3 q3 s3 hRm).mono ?_
  rintro e w4 ⟨rfl, bb4⟩
  have h4 := (h3.below bb4 (Nat.le_refl _)).more bb4.size
  have q4 := (q3.below bb4 (Nat.le_refl _)).more bb4.size
  have s4 := (s3.below bb4 (Nat.le_refl _)).more bb4.size
  have b4 := b3.trans (bb4.mono b3.size)
  clear h3 hfr3 q3 s3 b3 bb4
  by_cases hR0 : R = []
  · subst hR0
    go_wp2_with fail
    refine (sameIntsR_same _ _ A3 A4 c3 c4 [] w4 q4 s4 hRm).mono ?_
    rintro e w5 ⟨rfl, bb5⟩
    go_wp2
    go_ret
    exact .mk_ (b4.trans (bb5.mono b4.size))
  · have HOK := hid (HI.out.ok hR0)
    have HST : Hid (storeB os = true) := HOK.out.1.1
    have hl0 : 0 < R.length := List.length_pos_iff.2 hR0
    have hne : ((R.length : Int) == 0) = false := by rw [beq_eq_false_iff_ne]; omega
    clear hR0
    obtain ⟨k, hk⟩ : ∃ k : Nat, (bs'.length : Int) % (R.length : Int) = (k : Int) := ⟨bs'.length % R.length, by simp⟩
    have hkl : k < R.length := by have := Int.emod_lt_of_pos (bs'.length : Int) (show (0 : Int) < R.length by omega); omega
    obtain ⟨ad, rfl, hba, hc⟩ := q4.int_ hkl
    obtain ⟨id, hx⟩ : ∃ id, R[k] = id := ⟨_, rfl⟩
    rw [hx] at hc
    have HX : Hid (id ∈ R) := by rw [← hx]; exact List.getElem_mem hkl
    clear hx
    have k0 : 0 ≤ (k : Int) := by omega
    have k1 : (k : Int) < (R.length : Int) := by omega
    obtain ⟨hrc, hin⟩ := (HOK.out.2 id).1 HX.out
    have hID := hrc.range HOK.out.1.1 HOK.out.1.2
    have HRC := hid hrc
    have HIN := hid hin
    clear hrc hin
    have al := (Below.refl w4.heap.size w4).alloc (Nat.le_refl _) (.cells #[.int .i64 id] 3)
    have ho5 := (h4.below al (Nat.le_refl _)).more al.size
    have q5 := (q4.below al (Nat.le_refl _)).more al.size
    have hrow : Row (w4.alloc (.cells #[.int .i64 id] 3)) (w4.alloc (.cells #[.int .i64 id] 3)).heap.size (some ⟨w4.heap.size, 0, none⟩) (ints [id]) := by
      refine .inr ⟨_, rfl, by simp, fun j u hu => ?_⟩
      exact cell_one_new _ _ _ j u hu
    have b5 := b4.trans (al.mono b4.size)
    go_wp2_with fail
    refine (implStoreReach_any A1 (some ⟨w4.heap.size, 0, none⟩) c1 1 os [id] _ ho5 hf hn hrow (by unfold maxLen; simp)).mono ?_
    rintro e w6 ⟨L, ha, v6, rfl, o6, hb6⟩
    have hmem : (∀ x, x ∈ reachL os L → x ∈ R) ∧ id ∈ reachL os L := by
      have hl1 := one_links hID.1 hID.2
      rcases ha with ⟨h1, h2⟩ | ⟨h1, _⟩
      · refine ⟨fun x hx => ?_, (mem_reach HST.out hl1 h2).2 ⟨.base (by simp), HIN.out⟩⟩
        obtain ⟨e1, e2⟩ := (mem_reach HST.out hl1 h2).1 hx
        refine (HOK.out.2 x).2 ⟨e1.more (fun y hy => ?_), e2⟩
        rw [List.mem_singleton.1 hy]
        exact HRC.out
      · rw [HST.out, hl1] at h1; cases h1
    have HT := hid hmem
    have hrl := (Ans.few (os := os) (L := L)).1
    clear hmem ha
    obtain ⟨X, hX⟩ : ∃ X, reachL os L = X := ⟨_, rfl⟩
    rw [hX] at o6 HT hrl
    clear hX
    obtain ⟨A6, c6, rfl, r6⟩ := o6.form
    have q6 := (q5.below hb6 (Nat.le_refl _)).more hb6.size
    have b6 := b5.trans (hb6.mono b5.size)
    have hXp : 0 < X.length := List.length_pos_of_mem HT.out.2
    clear hc hba hk al ho5 hrow h4 q4 s4 q5 b4 b5 hb6 o6
    go_wp2_with fail
    go_loop [10] (fun i => ∃ m : Nat, m ≤ X.length ∧ i = .int .i64 m) (fun i => X.length - (intOf i).toNat)
    case atStart => exact ⟨0, Nat.zero_le _, rfl⟩
    case round =>
      obtain ⟨m, hm2, rfl⟩ := hrel
      by_cases hlm : m < X.length
      · obtain ⟨ad2, rfl, _, hc2⟩ := r6.int_ hlm
        obtain ⟨y, hy⟩ : ∃ y, X[m] = y := ⟨_, rfl⟩
        rw [hy] at hc2
        have HY : Hid (decide (y ∈ R) = true) := decide_eq_true (HT.out.1 y (by rw [← hy]; exact List.getElem_mem hlm))
        clear hy
        have m0 : 0 ≤ (m : Int) := by omega
        have m1 : (m : Int) < (X.length : Int) := by omega
        go_wp2_with (go_at_call 17; refine (hasInt_any _ (some ad) c3 R y _ q6 hRm).mono ?_; rintro e w' ⟨rfl, rfl⟩; rw [HY.out])
        go_round
        case rel => exact ⟨m + 1, by omega, by go_num⟩
        case measure => simp [intOf]; omega
      · have hX1 : 0 < (X.length : Int) := by omega
        go_wp2
        go_ret
        exact .mk_ b6
theorem FnReachAgain_any (A : Option Addr) (c : Nat) (bs : List Int) (A' : Option Addr) (c' : Nat) (bs' : List Int) (w : World) (f1 : Row w w.heap.size A (bs.map (Value.int .u8))) (f2 : bs.length ≤ c) (f3 : c ≤ maxLen) (f4 : ∀ n ∈ bs, 0 ≤ n ∧ n < 256) (g1 : Row w w.heap.size A' (bs'.map (Value.int .u8))) (g2 : bs'.length ≤ c') (g3 : c' ≤ maxLen) (g4 : ∀ n ∈ bs', 0 ≤ n ∧ n < 256) :
    Calls Try.prog 8 #[.slice A bs.length c, .slice A' bs'.length c'] w (Ret (.bool true) w) := by
  by_cases hl : bs.length ≤ 1048576 ∧ bs'.length ≤ 1048576
  · exact FnReachAgain_yes A c bs A' c' bs' w ⟨f1, f2, f3, f4⟩ ⟨g1, g2, g3, g4⟩ hl.1 hl.2
  · exact FnReachAgain_no A c bs A' c' bs' w ⟨f1, f2, f3, f4⟩ ⟨g1, g2, g3, g4⟩ hl
end Go.Proofs.Ytfdilnibhcnkgaa
