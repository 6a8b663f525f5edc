/-
  Walk of the law that what is missing is not stored.
-/
import Derived.Test.YtfdilnibhcnkgaaRchC
import Derived.Test.YtfdilnibhcnkgaaLawGet
namespace Go.Proofs.Ytfdilnibhcnkgaa
open Go.RowKit Wo Pu

theorem FnMissing_no (A : Option Addr) (c : Nat) (bs : List Int) (w : World) (h : Code_ w A c bs) (hl : ¬ bs.length ≤ 1048576) :
    Calls Try.prog 5 #[.slice A bs.length c] w (Ret (.bool true) w) := by
  have hc := h.2.1
  have hm := h.2.2.1
  unfold maxLen at hm
  go_enter Try.func5, Try.ntmps5
  go_wp2
  go_ret
  exact .mk_ (Below.refl _ _)
set_option maxHeartbeats 8000000 in
theorem FnMissing_yes (A : Option Addr) (c : Nat) (bs : List Int) (w : World) (h : Code_ w A c bs) (hl : bs.length ≤ 1048576) :
    Calls Try.prog 5 #[.slice A bs.length c] w (Ret (.bool true) w) := by
  go_enter Try.func5, Try.ntmps5
  go_wp2_with fail
  refine (DrawStoreMissing_any A c bs _ h).mono ?_
  rintro e w1 ⟨A1, c1, os, A2, c2, fr, rfl, h1, hc1, hl22, hv, hfr1, hl2, b1⟩
  have hn : os.length ≤ maxLen := by unfold maxLen; omega
  have hm : fr.length ≤ maxLen := by unfold maxLen; omega
  have hf := fit_of hv
  have HV := hid hv
  clear hv
  go_wp2_with fail
  refine (implStoreMissing_any A1 A2 c1 c2 os fr w1 h1 hf hn hfr1 hm).mono ?_
  rintro e w2 ⟨L2, ha2, v2, rfl, o2, bb2⟩
  obtain ⟨A3, c3, rfl, q2⟩ := o2.form
  have h2 := (h1.below bb2 (Nat.le_refl _)).more bb2.size
  have hfr2 := (hfr1.below bb2 (Nat.le_refl _)).more bb2.size
  have b2 := b1.trans (bb2.mono b1.size)
  clear h1 hfr1 bb2 b1 o2
  go_wp2_with fail
  refine (specStoreMissing_any A1 A2 c1 c2 os fr w2 h2 hf hn hfr2 hm).mono ?_
  rintro e w3 ⟨L3, ha3, v3, rfl, o3, bb3⟩
  rw [ha3.miss ha2] at o3
  have HI : Hid (IsM os fr (missL os L2)) := ha2.ismiss
  have hRl : (missL os L2).length ≤ 991 := (Ans.few (os := os) (L := L2)).2
  have HA2 := hid ha2
  clear ha2 ha3
  obtain ⟨R, hRR⟩ : ∃ R, missL os L2 = R := ⟨_, rfl⟩
  rw [hRR] at o3 q2 HI hRl ⊢
  clear hRR HA2
  obtain ⟨A4, c4, rfl, s3⟩ := o3.form
  have h3 := (h2.below bb3 (Nat.le_refl _)).more bb3.size
  have hfr3 := (hfr2.below bb3 (Nat.le_refl _)).more bb3.size
  have q3 := (q2.below bb3 (Nat.le_refl _)).more bb3.size
  have b3 := b2.trans (bb3.mono b2.size)
  clear h2 hfr2 bb3 b2 o3 q2
  have hRm : R.length ≤ maxLen := by unfold maxLen; omega
  go_wp2_with fail
  refine (sameIntsR_same _ _ A3 A4 c3 c4 R w3 q3 s3 hRm).mono ?_
  rintro e w4 ⟨rfl, bb4⟩
  have h4 := (h3.below bb4 (Nat.le_refl _)).more bb4.size
  have hfr4 := (hfr3.below bb4 (Nat.le_refl _)).more bb4.size
  have q4 := (q3.below bb4 (Nat.le_refl _)).more bb4.size
  have s4 := (s3.below bb4 (Nat.le_refl _)).more bb4.size
  have b4 := b3.trans (bb4.mono b3.size)
  clear h3 hfr3 q3 s3 b3 bb4
  go_wp2_with fail
  refine (implStoreReach_any A1 A2 c1 c2 os fr w4 h4 hf hn hfr4 hm).mono ?_
  rintro e w5 ⟨L5, ha5, v5, rfl, o5, bb5⟩
  have HJ : Hid (IsR os fr (reachL os L5)) := ha5.isreach
  have hQl : (reachL os L5).length ≤ 991 := (Ans.few (os := os) (L := L5)).1
  clear ha5
  obtain ⟨Q, hQQ⟩ : ∃ Q, reachL os L5 = Q := ⟨_, rfl⟩
  rw [hQQ] at o5 HJ hQl
  clear hQQ
  obtain ⟨A5, c5, rfl, t5⟩ := o5.form
  have h5 := (h4.below bb5 (Nat.le_refl _)).more bb5.size
  have hfr5 := (hfr4.below bb5 (Nat.le_refl _)).more bb5.size
  have q5 := (q4.below bb5 (Nat.le_refl _)).more bb5.size
  have b5 := b4.trans (bb5.mono b4.size)
  clear h4 hfr4 q4 s4 b4 bb5 o5
  go_wp2_with fail
  go_loopw [8] (fun i wr => ∃ k : Nat, k ≤ R.length ∧ i = .int .i64 k ∧ Below w5.heap.size w5 wr) (fun i _ => R.length - (intOf i).toNat)
  case atStart => exact ⟨0, Nat.zero_le _, rfl, Below.refl _ _⟩
  case round =>
    obtain ⟨k, hk, rfl, hb⟩ := hrel
    have hz := hb.size
    have h6 := (h5.below hb (Nat.le_refl _)).more hz
    have q6 := (q5.below hb (Nat.le_refl _)).more hz
    have t6 := (t5.below hb (Nat.le_refl _)).more hz
    have hfr6 := (hfr5.below hb (Nat.le_refl _)).more hz
    by_cases hlt : k < R.length
    · have hR0 : R ≠ [] := fun e => by rw [e] at hlt; simp at hlt
      have HOK := hid (HI.out.ok hR0)
      have HS : Hid (storeB os = true) := HOK.out.1.1
      have HQ : Hid (∀ x, x ∈ Q ↔ Rc os fr x ∧ isIn os x = true) := by
        rcases HJ.out.2 with h | h
        · exact h.2
        · have := h.1; rw [HOK.out.1.1, HOK.out.1.2] at this; cases this
      clear hR0
      obtain ⟨ad, rfl, hba, hc⟩ := q6.int_ hlt
      obtain ⟨x, hx⟩ : ∃ x, R[k] = x := ⟨_, rfl⟩
      rw [hx] at hc
      have HXE := hid hx
      have HX : Hid (x ∈ R) := by rw [← hx]; exact List.getElem_mem hlt
      clear hx
      have k0 : 0 ≤ (k : Int) := by omega
      have k1 : (k : Int) < (R.length : Int) := by omega
      go_wp2_with fail
      refine (get_any A1 c1 os x wr h6 hf hn HS).mono ?_
      rintro e w6 ⟨A6, c6, o, rfl, _, bb6, _⟩
      rw [((HOK.out.2 x).1 HX.out).2]
      have h7 := (h6.below bb6 (Nat.le_refl _)).more bb6.size
      have q7 := (q6.below bb6 (Nat.le_refl _)).more bb6.size
      have t7 := (t6.below bb6 (Nat.le_refl _)).more bb6.size
      have hfr7 := (hfr6.below bb6 (Nat.le_refl _)).more bb6.size
      have hb7 := hb.trans (bb6.mono hz)
      clear h6 q6 t6 hfr6 hb bb6 hc hba hz
      unfold ob
      obtain ⟨-, d8, z8⟩ := putOb_facts w6 o A6 c6
      have h8 := (h7.below d8 (Nat.le_refl _)).more d8.size
      have q8 := (q7.below d8 (Nat.le_refl _)).more d8.size
      have t8 := (t7.below d8 (Nat.le_refl _)).more d8.size
      have hfr8 := (hfr7.below d8 (Nat.le_refl _)).more d8.size
      have hb8 := hb7.trans (d8.mono hb7.size)
      obtain ⟨ad3, he3, _, hc3⟩ := q8.int_ hlt
      obtain rfl : ad = ad3 := by injection he3
      clear he3
      rw [HXE.out] at hc3
      unfold putOb at h8 q8 t8 hfr8 hb8 hc3
      clear d8 z8 h7 q7 t7 hfr7 hb7
      have HW0 : Hid (decide (x ∈ fr) = why os fr Q x 0) := (why_zero os fr Q x).symm
      go_wp2_with (go_at_call 17; refine (hasInt_any _ A2 c2 fr x _ hfr8 hm).mono ?_; rintro e w' ⟨rfl, rfl⟩; rw [HW0.out])
      generalize w6.alloc (.cells #[.int .i64 o.kd, .slice A6 o.zs.length c6, .string o.s] 30) = X at *
      clear hc3
      go_loopw [11, 12] (fun f j wq => ∃ m : Nat, m ≤ Q.length ∧ j = .int .i64 m ∧ f = .bool (why os fr Q x m) ∧ Below X.heap.size X wq) (fun _ j _ => Q.length - (intOf j).toNat)
      case atStart => exact ⟨0, Nat.zero_le _, rfl, rfl, Below.refl _ _⟩
      case round =>
        obtain ⟨m, hm2, rfl, rfl, hq⟩ := hrel
        have h9 := (h8.below hq (Nat.le_refl _)).more hq.size
        have q9 := (q8.below hq (Nat.le_refl _)).more hq.size
        have t9 := (t8.below hq (Nat.le_refl _)).more hq.size
        have hb9 := hb8.trans (hq.mono hb8.size)
        by_cases hlm : m < Q.length
        · obtain ⟨ad2, rfl, _, hc2⟩ := t9.int_ hlm
          obtain ⟨y, hy⟩ : ∃ y, Q[m] = y := ⟨_, rfl⟩
          rw [hy] at hc2
          have HYE := hid hy
          have HY : Hid (y ∈ Q) := by rw [← hy]; exact List.getElem_mem hlm
          clear hy
          have m0 : 0 ≤ (m : Int) := by omega
          have m1 : (m : Int) < (Q.length : Int) := by omega
          cases hwhy : why os fr Q x m
          · go_wp2_with fail
            refine (get_any A1 c1 os y _ h9 hf hn HS).mono ?_
            rintro e wa ⟨A9, c9, o9, rfl, o9', bb9, ho9⟩
            have HO := hid (ho9.1 ((HQ.out y).1 HY.out).2)
            have hz4 := ho9.few HS.out
            have ra : Row wa wa.heap.size A9 (ints o9.zs) := o9'.row
            have qa := (q9.below bb9 (Nat.le_refl _)).more bb9.size
            have hqa := hq.trans (bb9.mono hq.size)
            clear h9 q9 t9 hb9 hc2 bb9 hq ho9 o9'
            have HN : Hid (decide (x ∈ o9.zs) = why os fr Q x (m + 1)) := (why_no HS.out HO.out.1 hlm (HO.out.2.trans HYE.out.symm) hwhy).symm
            clear hwhy
            unfold ob
            obtain ⟨pb, db, zb⟩ := putOb_facts wa o9 A9 c9
            have rb := (ra.below db (Nat.le_refl _)).more db.size
            have qb := (qa.below db (Nat.le_refl _)).more db.size
            have hqb := hqa.trans (db.mono hqa.size)
            obtain ⟨y0, y1, y2, -⟩ := id pb.reads
            obtain ⟨ad3, he3, _, hc3⟩ := qb.int_ hlt
            obtain rfl : ad = ad3 := by injection he3
            clear he3
            rw [HXE.out] at hc3
            unfold putOb at y0 y1 y2 hc3 rb hqb
            clear pb db zb ra qa hqa qb
            have hmz : o9.zs.length ≤ maxLen := by unfold maxLen; omega
            go_wp2_with fail
            generalize wa.alloc (.cells #[.int .i64 o9.kd, .slice A9 o9.zs.length c9, .string o9.s] 30) = W at *
            go_quiet ((go_at_call 17; exact Calls.quiet_of_same ((hasInt_any _ A9 c9 o9.zs x _ (rb.drewN _) hmz).mono (by rintro e w' ⟨rfl, rfl⟩; exact ⟨rfl, rfl⟩))))
            go_wp2_with fail
            go_roundw
            case rel => exact ⟨m + 1, by omega, by go_num, by rw [HN.out], Wo.Below.drewN hqb _⟩
            case measure => simp [intOf]; omega
          · go_wp2_with fail
            refine (get_any A1 c1 os y _ h9 hf hn HS).mono ?_
            rintro e wa ⟨A9, c9, o9, rfl, _, bb9, _⟩
            have hqa := hq.trans (bb9.mono hq.size)
            clear h9 q9 t9 hb9 hc2 bb9 hq
            have HN : Hid (why os fr Q x (m + 1) = true) := why_yes hlm hwhy
            clear hwhy
            unfold ob
            obtain ⟨-, db, zb⟩ := putOb_facts wa o9 A9 c9
            have hqb := hqa.trans (db.mono hqa.size)
            unfold putOb at hqb
            clear db zb hqa
            go_wp2_with fail
            generalize wa.alloc (.cells #[.int .i64 o9.kd, .slice A9 o9.zs.length c9, .string o9.s] 30) = W at *
            go_quiet (fail)
            go_wp2_with fail
            go_roundw
            case rel => exact ⟨m + 1, by omega, by go_num, by rw [HN.out], Wo.Below.drewN hqb _⟩
            case measure => simp [intOf]; omega
        · have hm' : m = Q.length := by omega
          subst hm'
          have HT : Hid (why os fr Q x Q.length = true) := why_all HQ.out ((HOK.out.2 x).1 HX.out).1
          rw [HT.out]
          go_wp2_with fail
          go_roundw
          case rel => exact ⟨k + 1, by omega, by go_num, hb9⟩
          case measure => simp [intOf]; omega
    · go_wp2_with fail
      refine (ascending_yes _ A3 c3 R wr q6 (by omega) HI.out.1).mono ?_
      rintro e w9 ⟨rfl, bb9⟩
      go_wp2
      go_ret
      exact .mk_ ((b5.trans (hb.mono b5.size)).trans (bb9.mono (Nat.le_trans b5.size hz)))
theorem FnMissing_any (A : Option Addr) (c : Nat) (bs : List Int) (w : World) (f1 : Row w w.heap.size A (bs.map (Value.int .u8))) (f2 : bs.length ≤ c) (f3 : c ≤ maxLen) (f4 : ∀ n ∈ bs, 0 ≤ n ∧ n < 256) :
    Calls Try.prog 5 #[.slice A bs.length c] w (Ret (.bool true) w) := by
  by_cases hl : bs.length ≤ 1048576
  · exact FnMissing_yes A c bs w ⟨f1, f2, f3, f4⟩ hl
  · exact FnMissing_no A c bs w ⟨f1, f2, f3, f4⟩ hl
end Go.Proofs.Ytfdilnibhcnkgaa
