/-
  Walk of the law that a complete object links to nothing missing.
-/
import Derived.Test.YtfdilnibhcnkgaaRchC
import Derived.Test.YtfdilnibhcnkgaaLawGet
namespace Go.Proofs.Ytfdilnibhcnkgaa
open Go.RowKit Wo Pu

theorem FnMissingNone_no (A : Option Addr) (c : Nat) (bs : List Int) (w : World) (h : Code_ w A c bs) (hl : ¬ bs.length ≤ 1048576) :
    Calls Try.prog 6 #[.slice A bs.length c] w (Ret (.bool true) w) := by
  have hc := h.2.1
  have hm := h.2.2.1
  unfold maxLen at hm
  go_enter Try.func6, Try.ntmps6
  go_wp2
  go_ret
  exact .mk_ (Below.refl _ _)
set_option maxHeartbeats 8000000 in
theorem FnMissingNone_yes (A : Option Addr) (c : Nat) (bs : List Int) (w : World) (h : Code_ w A c bs) (hl : bs.length ≤ 1048576) :
    Calls Try.prog 6 #[.slice A bs.length c] w (Ret (.bool true) w) := by
  go_enter Try.func6, Try.ntmps6
  go_wp2_with fail
  refine (DrawStoreMissing_any A c bs _ h).mono ?_
  rintro e w1 ⟨A1, c1, os, A2, c2, fr, rfl, h1, hc1, hl22, hv, hfr1, hl2, b1⟩
  have hn : os.length ≤ maxLen := by unfold maxLen; omega
  have hm : fr.length ≤ maxLen := by unfold maxLen; omega
  have hf := fit_of hv
  have HV := hid hv
  clear hv
  go_wp2_with fail
  refine (implStoreMissing_any A1 A2 c1 c2 os fr w1 h1 hf hn hfr1 hm).mono ?_
  rintro e w2 ⟨L2, ha2, v2, rfl, o2, bb2⟩
  obtain ⟨A3, c3, rfl, q2⟩ := o2.form
  have h2 := (h1.below bb2 (Nat.le_refl _)).more bb2.size
  have hfr2 := (hfr1.below bb2 (Nat.le_refl _)).more bb2.size
  have b2 := b1.trans (bb2.mono b1.size)
  clear h1 hfr1 bb2 b1 o2
  go_wp2_with fail
  refine (specStoreMissing_any A1 A2 c1 c2 os fr w2 h2 hf hn hfr2 hm).mono ?_
  rintro e w3 ⟨L3, ha3, v3, rfl, o3, bb3⟩
  rw [ha3.miss ha2] at o3
  have HI : Hid (IsM os fr (missL os L2)) := ha2.ismiss
  have hRl : (missL os L2).length ≤ 991 := (Ans.few (os := os) (L := L2)).2
  have HA2 := hid ha2
  clear ha2 ha3
  obtain ⟨R, hRR⟩ : ∃ R, missL os L2 = R := ⟨_, rfl⟩
  rw [hRR] at o3 q2 HI hRl ⊢
  clear hRR HA2
  obtain ⟨A4, c4, rfl, s3⟩ := o3.form
  have h3 := (h2.below bb3 (Nat.le_refl _)).more bb3.size
  have hfr3 := (hfr2.below bb3 (Nat.le_refl _)).more bb3.size
  have q3 := (q2.below bb3 (Nat.le_refl _)).more bb3.size
  have b3 := b2.trans (bb3.mono b2.size)
  clear h2 hfr2 bb3 b2 o3 q2
  have hRm : R.length ≤ maxLen := by unfold maxLen; omega
  go_wp2_with fail
  refine (sameIntsR_same _ _ A3 A4 c3 c4 R w3 q3 s3 hRm).mono ?_
  rintro e w4 ⟨rfl, bb4⟩
  have h4 := (h3.below bb4 (Nat.le_refl _)).more bb4.size
  have hfr4 := (hfr3.below bb4 (Nat.le_refl _)).more bb4.size
  have q4 := (q3.below bb4 (Nat.le_refl _)).more bb4.size
  have s4 := (s3.below bb4 (Nat.le_refl _)).more bb4.size
  have b4 := b3.trans (bb4.mono b3.size)
  clear h3 hfr3 q3 s3 b3 bb4
  by_cases hR0 : R = []
  · subst hR0
    have HM0 : Hid ((storeB os && linksB fr) = true → ∀ x, Rc os fr x → isIn os x = true) := fun hok x hx => by
      rcases HI.out.2 with h | h
      · cases hi : isIn os x
        · have := (h.2 x).2 ⟨hx, hi⟩; cases this
        · rfl
      · rw [h.1] at hok; cases hok
    go_wp2_with fail
    refine (implStoreReach_any A1 A2 c1 c2 os fr w4 h4 hf hn hfr4 hm).mono ?_
    rintro e w5 ⟨L5, ha5, v5, rfl, o5, bb5⟩
    have HJ : Hid (IsR os fr (reachL os L5)) := ha5.isreach
    have hQl : (reachL os L5).length ≤ 991 := (Ans.few (os := os) (L := L5)).1
    clear ha5
    obtain ⟨Q, hQQ⟩ : ∃ Q, reachL os L5 = Q := ⟨_, rfl⟩
    rw [hQQ] at o5 HJ hQl
    clear hQQ
    obtain ⟨A5, c5, rfl, t5⟩ := o5.form
    have h5 := (h4.below bb5 (Nat.le_refl _)).more bb5.size
    have hfr5 := (hfr4.below bb5 (Nat.le_refl _)).more bb5.size
    have q5 := (q4.below bb5 (Nat.le_refl _)).more bb5.size
    have b5 := b4.trans (bb5.mono b4.size)
    clear h4 hfr4 q4 s4 b4 bb5 o5
    go_wp2_with fail
    go_loopw [8] (fun i wr => ∃ k : Nat, k ≤ Q.length ∧ i = .int .i64 k ∧ Below w5.heap.size w5 wr) (fun i _ => Q.length - (intOf i).toNat)
    case atStart => exact ⟨0, Nat.zero_le _, rfl, Below.refl _ _⟩
    case round =>
      obtain ⟨k, hk, rfl, hb⟩ := hrel
      have hz := hb.size
      have h6 := (h5.below hb (Nat.le_refl _)).more hz
      have t6 := (t5.below hb (Nat.le_refl _)).more hz
      by_cases hlt : k < Q.length
      · have hQ0 : Q ≠ [] := fun e => by rw [e] at hlt; simp at hlt
        have HOK := hid (HJ.out.ok hQ0)
        have HS : Hid (storeB os = true) := HOK.out.1.1
        clear hQ0
        obtain ⟨ad, rfl, hba, hc⟩ := t6.int_ hlt
        obtain ⟨x, hx⟩ : ∃ x, Q[k] = x := ⟨_, rfl⟩
        rw [hx] at hc
        have HX : Hid (x ∈ Q) := by rw [← hx]; exact List.getElem_mem hlt
        clear hx
        have k0 : 0 ≤ (k : Int) := by omega
        have k1 : (k : Int) < (Q.length : Int) := by omega
        go_wp2_with fail
        refine (get_any A1 c1 os x wr h6 hf hn HS).mono ?_
        rintro e w6 ⟨A6, c6, o, rfl, o6, bb6, ho6⟩
        have hin := ((HOK.out.2 x).1 HX.out).2
        rw [hin]
        have HO := hid (ho6.1 hin)
        have hz4 := ho6.few HS.out
        have r6 : Row w6 w6.heap.size A6 (ints o.zs) := o6.row
        have t7 := (t6.below bb6 (Nat.le_refl _)).more bb6.size
        have hb6 := hb.trans (bb6.mono hz)
        clear hin ho6 o6 h6 t6 hc hba bb6 hb hz
        unfold ob
        obtain ⟨p6, d6, z6⟩ := putOb_facts w6 o A6 c6
        have r7 := (r6.below d6 (Nat.le_refl _)).more d6.size
        have t8 := (t7.below d6 (Nat.le_refl _)).more d6.size
        have hb7 := hb6.trans (d6.mono hb6.size)
        clear r6 t7 hb6 d6
        unfold putOb at p6 z6 r7 t8 hb7
        go_wp2_with fail
        generalize w6.alloc (.cells #[.int .i64 o.kd, .slice A6 o.zs.length c6, .string o.s] 30) = W at *
        obtain ⟨y0, y1, y2, -⟩ := id p6.reads
        go_loopw [11] (fun j wq => ∃ m : Nat, m ≤ o.zs.length ∧ j = .int .i64 m ∧ wq = W) (fun j _ => o.zs.length - (intOf j).toNat)
        case atStart => exact ⟨0, Nat.zero_le _, rfl, rfl⟩
        case round =>
          obtain ⟨m, hm2, rfl, rfl⟩ := hrel
          by_cases hlm : m < o.zs.length
          · obtain ⟨ad2, rfl, _, hc2⟩ := r7.int_ hlm
            obtain ⟨y, hy⟩ : ∃ y, o.zs[m] = y := ⟨_, rfl⟩
            rw [hy] at hc2
            have HY : Hid (y ∈ o.zs) := by rw [← hy]; exact List.getElem_mem hlm
            clear hy
            have m0 : 0 ≤ (m : Int) := by omega
            have m1 : (m : Int) < (o.zs.length : Int) := by omega
            have hQm : Q.length ≤ maxLen := by unfold maxLen; omega
            have HT : Hid (decide (y ∈ Q) = true) := by
              have hrc : Rc os fr y := .link HO.out.1 (by rw [HO.out.2]; exact ((HOK.out.2 x).1 HX.out).1) HY.out
              exact decide_eq_true ((HOK.out.2 y).2 ⟨hrc, HM0.out (by rw [HOK.out.1.1, HOK.out.1.2]; rfl) y hrc⟩)
            go_wp2_with (go_at_call 17; refine (hasInt_any _ (some ad) c5 Q y _ t8 hQm).mono ?_; rintro e w' ⟨rfl, rfl⟩; rw [HT.out])
            go_roundw
            case rel => exact ⟨m + 1, by omega, by go_num, by first | rfl | trivial⟩
            case measure => simp [intOf]; omega
          · go_wp2_with fail
            go_roundw
            case rel => exact ⟨k + 1, by omega, by go_num, hb7⟩
            case measure => simp [intOf]; omega
      · go_wp2_with fail
        go_ret
        exact .mk_ (b5.trans (hb.mono b5.size))
  · have hl0 : 0 < R.length := List.length_pos_iff.2 hR0
    have hle : ¬ (R.length : Int) ≤ 0 := by omega
    clear hR0
    go_wp2_with fail
    refine (sameIntsR_same _ _ A3 A4 c3 c4 R w4 q4 s4 hRm).mono ?_
    rintro e w5 ⟨rfl, bb5⟩
    go_wp2
    go_ret
    exact .mk_ (b4.trans (bb5.mono b4.size))
theorem FnMissingNone_any (A : Option Addr) (c : Nat) (bs : List Int) (w : World) (f1 : Row w w.heap.size A (bs.map (Value.int .u8))) (f2 : bs.length ≤ c) (f3 : c ≤ maxLen) (f4 : ∀ n ∈ bs, 0 ≤ n ∧ n < 256) :
    Calls Try.prog 6 #[.slice A bs.length c] w (Ret (.bool true) w) := by
  by_cases hl : bs.length ≤ 1048576
  · exact FnMissingNone_yes A c bs w ⟨f1, f2, f3, f4⟩ hl
  · exact FnMissingNone_no A c bs w ⟨f1, f2, f3, f4⟩ hl
end Go.Proofs.Ytfdilnibhcnkgaa
