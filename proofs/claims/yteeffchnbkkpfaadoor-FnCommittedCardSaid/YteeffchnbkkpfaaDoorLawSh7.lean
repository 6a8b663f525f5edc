/- The coordinator with the slices $SA and $SB is stored as the answer, with the word $BB. -/
/-
  Walks of laws on what a shard has committed.
-/
import Derived.Test.YteeffchnbkkpfaaDoorLawSh6
import Derived.Test.YteeffchnbkkpfaaDoorHasI
namespace Go.Proofs.YteeffchnbkkpfaaDoor
open Go.RowKit Wo Pu Rf Lk Sh

/-- How many numbers of a list are below k. -/
def cntLt (zs : List Int) (k : Int) : Nat := zs.countP fun z => decide (z < k)
theorem cntLt_succ (zs : List Int) (k : Int) : cntLt zs (k + 1) = cntLt zs k + zs.count k := by
  induction zs with
  | nil => rfl
  | cons z zs ih =>
    unfold cntLt at ih ⊢
    rw [List.countP_cons, List.countP_cons, List.count_cons, ih]
    by_cases h1 : z < k
    · rw [if_pos (by simpa using (by omega : z < k + 1)), if_pos (by simpa using h1), if_neg (by simp; omega)]
      omega
    · by_cases h2 : z = k
      · subst h2
        rw [if_pos (by simp; omega), if_neg (by simp), if_pos (by simp)]
        omega
      · rw [if_neg (by simp; omega), if_neg (by simpa using h1), if_neg (by simpa using h2)]
        omega
theorem count_nodup {zs : List Int} (h : zs.Nodup) (x : Int) : zs.count x = if x ∈ zs then 1 else 0 := by
  induction zs with
  | nil => rfl
  | cons z zs ih =>
    obtain ⟨h1, h2⟩ := List.nodup_cons.1 h
    rw [List.count_cons, ih h2]
    by_cases e : z = x
    · subst e
      rw [if_neg h1, if_pos (by simp), if_pos List.mem_cons_self]
    · have e2 : ¬ x = z := fun e2 => e e2.symm
      simp [e, e2]
theorem cntLt_zero {zs : List Int} (h : ∀ z ∈ zs, TV z) : cntLt zs 0 = 0 := by
  unfold cntLt
  rw [List.countP_eq_zero]
  intro z hz
  have := (h z hz).1
  simp
  omega
theorem cntLt_all {zs : List Int} (h : ∀ z ∈ zs, TV z) : cntLt zs 12 = zs.length := by
  unfold cntLt
  rw [List.countP_eq_length]
  intro z hz
  have := (h z hz).2
  simp
  omega
theorem com_tv {rs : List Rec} {s : St} (h : Rcv rs s) : ∀ z ∈ Sh.com rs, TV z := fun z hz => by
  unfold Sh.com at hz
  obtain ⟨r, hr, rfl⟩ := List.mem_map.1 hz
  exact (h.inv.kinds r (List.mem_filter.1 hr).1).1
theorem FnCommitted_no (A : Option Addr) (c : Nat) (bs : List Int) (w : World) (h : Code_ w A c bs) (hl : ¬ bs.length ≤ 1048576) :
    Calls Tryd.prog 14 #[.slice A bs.length c] w (Ret (.bool true) w) := by
  have hc := h.2.1
  have hm := h.2.2.1
  unfold maxLen at hm
  go_enter Tryd.func14, Tryd.ntmps14
  go_wp2
  go_ret
  exact .mk_ (Below.refl _ _)
set_option linter.unusedSimpArgs false in
set_option maxRecDepth 100000 in
set_option maxHeartbeats 4000000 in
theorem FnCommitted_yes (A : Option Addr) (c : Nat) (bs : List Int) (w : World) (h : Code_ w A c bs) (hl : bs.length ≤ 1048576) (er0 er1 : Addr) (HE : Hid (Errs er0 er1 w)) :
    Calls Tryd.prog 14 #[.slice A bs.length c] w (Ret (.bool true) w) := by
  go_enter Tryd.func14, Tryd.ntmps14
  go_wp2_with fail
  refine (DrawShardCommitted_any A c bs _ h).mono ?_
  rintro e w1 ⟨v1, rs, rfl, s1, hl, hs, bw⟩
  obtain ⟨A1, c1, rfl, r1, hc1⟩ := s1
  unfold shV
  obtain ⟨zs, hv⟩ := comOf_ex rs
  have HV := hid hv
  have HSM := hid hs
  have CS := hid (specShardCommitted_is zs · rs · · (hs.fit (by omega)) hv)
  have CI := hid (implShardCommitted_is er0 er1 zs · rs · · · (hs.fit (by omega)) hv)
  have hzl : zs.length ≤ 31 := by
    rcases hv with ⟨-, h1⟩ | ⟨-, h1⟩
    · rw [h1]; have := com_len rs; omega
    · rw [h1]; exact Nat.zero_le _
  clear hv hs
  go_upto_region 4 with fail
  have al := (Below.refl (w1).heap.size w1).alloc (Nat.le_refl _) (.cells #[.slice A1 rs.length c1] 25)
  have xn := Blk1.new_ w1 25 (.slice A1 rs.length c1)
  obtain ⟨w2, hw'⟩ : ∃ x, (w1).alloc (.cells #[.slice A1 rs.length c1] 25) = x := ⟨_, rfl⟩
  rw [hw'] at al xn ⊢
  clear hw'
  have x1 := xn
  have r2 := r1.on al
  obtain ⟨y1, -⟩ := id x1.reads
  have b2 := bw.trans (al.mono bw.size)
  clear xn al r1 bw
  go_wp2_with fail
  refine (CI.out _ w2 ⟨A1, c1, rfl, r2, hc1⟩ (HE.out.below b2)).mono ?_
  rintro e w3 ⟨Ba, ca, rfl, oa, d3⟩
  have ra := oa.row
  have r3 := r2.on d3
  replace x1 := x1.later d3
  have b3 := b2.trans (d3.mono b2.size)
  clear y1
  obtain ⟨y1, -⟩ := id x1.reads
  clear r2 b2 d3 CI oa
  go_wp2_with fail
  refine (CS.out _ w3 ⟨A1, c1, rfl, r3, hc1⟩).mono ?_
  rintro e w4 ⟨Bb, cb, rfl, ob, d4⟩
  have rb := ob.row
  have r4 := r3.on d4
  have ra4 := (ra.below d4 (Nat.le_refl _)).more d4.size
  replace x1 := x1.later d4
  have bw := b3.trans (d4.mono b3.size)
  have HEx : Hid (∀ x, Below w4.heap.size w4 x → Errs er0 er1 x) := fun x hx => HE.out.below (bw.trans (hx.mono bw.size))
  have HF : Hid (∀ x, Below w4.heap.size w4 x → x.cell? ⟨w1.heap.size, 0, none⟩ = some (.slice A1 rs.length c1)) := fun x hx => (x1.later hx).reads.1
  have HS1 : Hid (∀ x, Below w4.heap.size w4 x → Shd x x.heap.size (.agg #[.slice A1 rs.length c1]) rs) := fun x hx => ⟨A1, c1, rfl, r4.on hx, hc1⟩
  have HRA : Hid (∀ x, Below w4.heap.size w4 x → Row x w4.heap.size Ba (ints zs)) := fun x hx => ra4.below hx (Nat.le_refl _)
  have HRB : Hid (∀ x, Below w4.heap.size w4 x → Row x w4.heap.size Bb (ints zs)) := fun x hx => rb.below hx (Nat.le_refl _)
  have HLT : Hid (w1.heap.size < w4.heap.size) := x1.lt
  have dx := Below.refl w4.heap.size w4
  clear y1 x1 ra rb ra4 r3 r4 b3 d4 CS ob
  have y1 := HF.out _ dx
  have CM := hid (sameInts_ret Ba Bb ca cb zs w4 _ _ (HRA.out _ dx) (HRB.out _ dx) (by unfold maxLen; omega))
  go_wp2_with fail
  refine CM.out.mono ?_
  rintro e w5 ⟨rfl, dn⟩
  clear CM
  replace dx := dx.trans ((dn).mono dx.size)
  clear y1 dn
  have y1 := HF.out _ dx
  obtain ⟨vs, hvs⟩ := bool_ofP (Vld rs)
  have CV := hid (specShardValid_is vs _ rs w5 (HS1.out _ dx) (HSM.out.fit (by omega)) hvs)
  have HVS := hid hvs
  clear hvs
  go_wp2_with fail
  refine CV.out.mono ?_
  rintro e w6 ⟨rfl, d6⟩
  replace dx := dx.trans ((d6).mono dx.size)
  clear y1 d6
  have y1 := HF.out _ dx
  clear CV
  cases vs with
  | false =>
    have CM := hid (sameInts_ret Ba Bb ca cb zs w6 _ _ (HRA.out _ dx) (HRB.out _ dx) (by unfold maxLen; omega))
    go_wp2_with fail
    refine CM.out.mono ?_
    rintro e w7 ⟨rfl, dn⟩
    clear CM
    replace dx := dx.trans ((dn).mono dx.size)
    clear y1 dn
    have y1 := HF.out _ dx
    go_wp2
    go_ret
    exact .mk_ (bw.trans (dx.mono bw.size))
  | true =>
    have HVV := hid (HVS.out.1 rfl)
    have HOK : Hid (∃ s, Rcv rs s ∧ rs.length ≤ 30 ∧ zs = Sh.com rs) := by
      obtain ⟨⟨s, hs⟩, h30⟩ := HVV.out
      rcases HV.out with ⟨-, h1⟩ | ⟨h1, -⟩
      · exact ⟨s, hs, h30, h1⟩
      · exact absurd HVV.out h1
    have HTV : Hid (∀ z ∈ zs, TV z) := by
      obtain ⟨s, hs, -, h1⟩ := HOK.out
      show ∀ z ∈ zs, TV z
      rw [h1]
      exact com_tv hs
    go_wp2_with fail
    go_loopw [6, 7] (fun q i wr => ∃ k : Nat, k ≤ 12 ∧ i = .int .i64 k ∧ q = .int .i64 (cntLt zs k) ∧ Below w6.heap.size w6 wr) (fun _ i _ => 12 - (intOf i).toNat)
    case atStart => exact ⟨0, Nat.zero_le _, rfl, by rw [show ((0 : Nat) : Int) = 0 from rfl, cntLt_zero HTV.out]; rfl, Below.refl _ _⟩
    case round =>
      obtain ⟨k, hk, rfl, rfl, hb⟩ := hrel
      clear y1
      have dk := dx.trans (hb.mono dx.size)
      have y1 := HF.out _ dk
      by_cases hlt : k < 12
      · have q1 : (k : Int) < 12 := by omega
        have tv : TV (k : Int) := ⟨by omega, by omega⟩
        obtain ⟨z, hz⟩ : ∃ z, Sh.ask rs (k : Int) = z := ⟨_, rfl⟩
        have HB : Hid ((z = 2 ↔ (k : Int) ∈ zs) ∧ cntLt zs ((k + 1 : Nat) : Int) = cntLt zs k + if (k : Int) ∈ zs then 1 else 0) := by
          obtain ⟨s, hs, -, h1⟩ := HOK.out
          refine ⟨by rw [h1, ← hz]; exact (hs.com_iff _).symm, ?_⟩
          rw [show ((k + 1 : Nat) : Int) = (k : Int) + 1 from by omega, cntLt_succ, count_nodup (by rw [h1]; exact hs.com_nodup)]
        have CA := hid (implShardAsk_is er0 er1 z _ rs (k : Int) wr (HS1.out _ dk) (HEx.out _ dk) (HSM.out.fit (by omega)) (.inl ⟨HVV.out, tv, hz.symm⟩))
        have hcl : cntLt zs (k : Int) ≤ 31 := Nat.le_trans List.countP_le_length hzl
        clear tv hz
        go_wp2_with fail
        refine CA.out.mono ?_
        rintro e w8 ⟨rfl, d8⟩
        have hb8 := hb.trans (d8.mono hb.size)
        have dk8 := dk.trans (d8.mono dk.size)
        obtain ⟨n, hn⟩ : ∃ n, cntLt zs (k : Int) = n := ⟨_, rfl⟩
        rw [hn] at hcl HB ⊢
        clear y1 d8 CA hn
        by_cases hz1 : z = 2
        · have e5 : (z == 2) = true := by rw [beq_iff_eq]; exact hz1
          have CH := hid (hasInt_is true Ba ca zs (k : Int) w8 _ (HRA.out _ dk8) (by omega) ⟨fun _ => HB.out.1.1 hz1, fun _ => rfl⟩)
          have HN : Hid (cntLt zs ((k + 1 : Nat) : Int) = n + 1) := by
            have := HB.out.2
            rw [if_pos (HB.out.1.1 hz1)] at this
            exact this
          clear hz1
          go_wp2_with fail
          refine CH.out.mono ?_
          rintro e w9 ⟨rfl, rfl⟩
          clear CH
          go_wp2
          go_roundw
          case rel => exact ⟨k + 1, by omega, by go_num, by rw [HN.out]; go_num, hb8⟩
          case measure => simp [intOf]; omega
        · have e5 : (z == 2) = false := by rw [beq_eq_false_iff_ne]; exact hz1
          have CH := hid (hasInt_is false Ba ca zs (k : Int) w8 _ (HRA.out _ dk8) (by omega) ⟨(fun e => by cases e), fun e => absurd (HB.out.1.2 e) hz1⟩)
          have HN : Hid (cntLt zs ((k + 1 : Nat) : Int) = n) := by
            have := HB.out.2
            rw [if_neg (fun e => hz1 (HB.out.1.2 e))] at this
            exact this
          clear hz1
          go_wp2_with fail
          refine CH.out.mono ?_
          rintro e w9 ⟨rfl, rfl⟩
          clear CH
          go_wp2
          go_roundw
          case rel => exact ⟨k + 1, by omega, by go_num, by rw [HN.out], hb8⟩
          case measure => simp [intOf]; omega
      · have hk' : k = 12 := by omega
        subst hk'
        have HN : Hid (cntLt zs ((12 : Nat) : Int) = zs.length) := cntLt_all HTV.out
        rw [HN.out]
        clear hk hlt
        go_wp2
        go_ret
        exact .mk_ (bw.trans (dk.mono bw.size))
theorem FnCommitted_any (A : Option Addr) (c : Nat) (bs : List Int) (w : World) (f1 : Row w w.heap.size A (bs.map (Value.int .u8))) (f2 : bs.length ≤ c) (f3 : c ≤ maxLen) (f4 : ∀ n ∈ bs, 0 ≤ n ∧ n < 256) (er0 er1 : Addr) (hE : Errs er0 er1 w) :
    Calls Tryd.prog 14 #[.slice A bs.length c] w (Ret (.bool true) w) := by
  by_cases hl : bs.length ≤ 1048576
  · exact FnCommitted_yes A c bs w ⟨f1, f2, f3, f4⟩ hl er0 er1 hE
  · exact FnCommitted_no A c bs w ⟨f1, f2, f3, f4⟩ hl
end Go.Proofs.YteeffchnbkkpfaaDoor
