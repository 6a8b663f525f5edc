/- The coordinator with the slices $SA and $SB is stored as the answer, with the word $BB. -/
/-
  Walks of laws on votes.
-/
import Derived.Test.YteeffchnbkkpfabDoorShdI
import Derived.Test.YteeffchnbkkpfabDoorDrawSv
namespace Go.Proofs.YteeffchnbkkpfabDoor
open Go.RowKit Wo Pu Rf Lk Sh

theorem FnPrepareOther_no (A : Option Addr) (c : Nat) (bs : List Int) (w : World) (h : Code_ w A c bs) (hl : ¬ bs.length ≤ 1048576) :
    Calls Tryd.prog 4 #[.slice A bs.length c] w (Ret (.bool true) w) := by
  have hc := h.2.1
  have hm := h.2.2.1
  unfold maxLen at hm
  go_enter Tryd.func4, Tryd.ntmps4
  go_wp2
  go_ret
  exact .mk_ (Below.refl _ _)
set_option linter.unusedSimpArgs false in
set_option maxRecDepth 100000 in
set_option maxHeartbeats 4000000 in
theorem FnPrepareOther_yes (A : Option Addr) (c : Nat) (bs : List Int) (w : World) (h : Code_ w A c bs) (hl : bs.length ≤ 1048576) (er0 er1 : Addr) (HE : Hid (Errs er0 er1 w)) :
    Calls Tryd.prog 4 #[.slice A bs.length c] w (Ret (.bool true) w) := by
  go_enter Tryd.func4, Tryd.ntmps4
  go_wp2_with fail
  refine (DrawShardPrepare_any A c bs _ h).mono ?_
  rintro e w1 ⟨v1, rs, t, AL, cL, us, rfl, s1, hl, hs, ht0, ht1, ru, hul, hcl, bw⟩
  obtain ⟨A1, c1, rfl, r1, hc1⟩ := s1
  unfold shV
  obtain ⟨xs, b, hv⟩ := voted_ex rs t us
  have HV := hid hv
  have HSM := hid hs
  have HSX := hid (voted_small hv hs hul)
  have hlx : xs.length ≤ 31 := Nat.le_succ_of_le (voted_valid hv).2
  have CS := hid (specShardPrepare_is xs b · rs t AL cL us · · (hs.fit (by omega)) · (by omega) hv)
  have CI := hid (implShardPrepare_is er0 er1 xs b · rs t AL cL us · · · (hs.fit (by omega)) · (by omega) hv)
  clear hv hs
  go_upto_region 4 with fail
  have al := (Below.refl (w1).heap.size w1).alloc (Nat.le_refl _) (.cells #[.slice A1 rs.length c1] 25)
  have xn := Blk1.new_ w1 25 (.slice A1 rs.length c1)
  obtain ⟨w2, hw'⟩ : ∃ x, (w1).alloc (.cells #[.slice A1 rs.length c1] 25) = x := ⟨_, rfl⟩
  rw [hw'] at al xn ⊢
  clear hw'
  have x1 := xn
  have z2 := al.size
  have r2 := r1.on al
  have u2 := (ru.below al (Nat.le_refl _)).more z2
  obtain ⟨y1, -⟩ := id x1.reads
  have b2 := bw.trans (al.mono bw.size)
  clear xn al r1 ru bw z2
  go_wp2_with fail
  refine (CI.out _ w2 ⟨A1, c1, rfl, r2, hc1⟩ (HE.out.below b2) u2).mono ?_
  rintro e w3 ⟨v3, rfl, ⟨A2, c2, rfl, o3, hc2⟩, d3⟩
  unfold shV
  go_upto_region 5 with fail
  have al := (Below.refl (w3).heap.size w3).alloc (Nat.le_refl _) (.cells #[.slice A2 xs.length c2] 25)
  have xn := Blk1.new_ w3 25 (.slice A2 xs.length c2)
  obtain ⟨w4, hw'⟩ : ∃ x, (w3).alloc (.cells #[.slice A2 xs.length c2] 25) = x := ⟨_, rfl⟩
  rw [hw'] at al xn ⊢
  clear hw'
  have d4 := d3.trans (al.mono d3.size)
  have r4 := r2.on d4
  have u4 := (u2.below d4 (Nat.le_refl _)).more d4.size
  have q4 := (OwnSh.mk_ (o3.below al)).shd
  have x2 := xn
  replace x1 := x1.later d4
  have b4 := b2.trans (d4.mono b2.size)
  clear y1
  obtain ⟨y1, -⟩ := id x1.reads
  clear xn al r2 u2 b2 d3 d4 o3 CI
  go_wp2_with fail
  refine (CS.out _ w4 ⟨A1, c1, rfl, r4, hc1⟩ u4).mono ?_
  rintro e w5 ⟨v5, rfl, ⟨A3, c3, rfl, o5, hc3⟩, d5⟩
  unfold shV
  go_upto_region 6 with fail
  have al := (Below.refl (w5).heap.size w5).alloc (Nat.le_refl _) (.cells #[.slice A3 xs.length c3] 25)
  have xn := Blk1.new_ w5 25 (.slice A3 xs.length c3)
  obtain ⟨w6, hw'⟩ : ∃ x, (w5).alloc (.cells #[.slice A3 xs.length c3] 25) = x := ⟨_, rfl⟩
  rw [hw'] at al xn ⊢
  clear hw'
  have d6 := d5.trans (al.mono d5.size)
  have r6 := r4.on d6
  have u6 := (u4.below d6 (Nat.le_refl _)).more d6.size
  have q6 := q4.on d6 d6.size
  have p6 := (OwnSh.mk_ (o5.below al)).shd
  have bw := b4.trans (d6.mono b4.size)
  have X1 := x1.later d6
  have X2 := x2.later d6
  have HEx : Hid (∀ x, Below w6.heap.size w6 x → Errs er0 er1 x) := fun x hx => HE.out.below (bw.trans (hx.mono bw.size))
  have HF : Hid (∀ x, Below w6.heap.size w6 x → x.cell? ⟨w1.heap.size, 0, none⟩ = some (.slice A1 rs.length c1) ∧ x.cell? ⟨w3.heap.size, 0, none⟩ = some (.slice A2 xs.length c2) ∧ x.cell? ⟨w5.heap.size, 0, none⟩ = some (.slice A3 xs.length c3)) := fun x hx => ⟨(X1.later hx).reads.1, (X2.later hx).reads.1, (xn.later hx).reads.1⟩
  have HR1 : Hid (∀ x, Below w6.heap.size w6 x → Recs x x.heap.size A1 rs) := fun x hx => r6.on hx
  have HS2 : Hid (∀ x, Below w6.heap.size w6 x → Shd x x.heap.size (.agg #[.slice A2 xs.length c2]) xs) := fun x hx => q6.on hx hx.size
  have HS3 : Hid (∀ x, Below w6.heap.size w6 x → Shd x x.heap.size (.agg #[.slice A3 xs.length c3]) xs) := fun x hx => p6.on hx hx.size
  have HU : Hid (∀ x, Below w6.heap.size w6 x → Row x x.heap.size AL (upsV us)) := fun x hx => (u6.below hx (Nat.le_refl _)).more hx.size
  have HS1 : Hid (∀ x, Below w6.heap.size w6 x → Shd x x.heap.size (.agg #[.slice A1 rs.length c1]) rs) := fun x hx => ⟨A1, c1, rfl, HR1.out x hx, hc1⟩
  have dx := Below.refl w6.heap.size w6
  have HLT : Hid (w1.heap.size < w6.heap.size ∧ w3.heap.size < w6.heap.size ∧ w5.heap.size < w6.heap.size) := ⟨X1.lt, X2.lt, xn.lt⟩
  clear y1 al xn x1 x2 X1 X2 r4 u4 q4 r6 u6 q6 p6 o5 d5 d6 b4 CS
  obtain ⟨y1, y2, y3⟩ := HF.out _ dx
  go_wp2_with fail
  refine (sameShard_is _ _ xs _ (HS2.out _ dx) (HS3.out _ dx) (HSX.out.fit (by omega))).mono ?_
  rintro e w7 ⟨rfl, dn⟩
  replace dx := dx.trans ((dn).mono dx.size)
  clear y1 y2 y3 dn
  obtain ⟨y1, y2, y3⟩ := HF.out _ dx
  by_cases h0 : xs.length = 0
  · have e0 : ((xs.length : Int) == 0) = true := by rw [beq_iff_eq]; omega
    clear h0
    go_wp2_with fail
    refine (sameShard_is _ _ xs _ (HS2.out _ dx) (HS3.out _ dx) (HSX.out.fit (by omega))).mono ?_
    rintro e w8 ⟨rfl, dn⟩
    replace dx := dx.trans ((dn).mono dx.size)
    clear y1 y2 y3 dn
    obtain ⟨y1, y2, y3⟩ := HF.out _ dx
    go_wp2
    go_ret
    exact .mk_ (bw.trans (dx.mono bw.size))
  · have e0 : ((xs.length : Int) == 0) = false := by rw [beq_eq_false_iff_ne]; omega
    have hx0 : xs ≠ [] := fun e => h0 (by rw [e]; rfl)
    have HOK : Hid (Vld rs ∧ Vld xs ∧ ∀ t', t' ≠ t → Sh.ask xs t' = Sh.ask rs t') := by
      refine ⟨?_, voted_valid HV.out, fun t' ht' => voted_other HV.out hx0 ht'⟩
      have hv := HV.out
      cases hv with
      | bad _ => exact absurd rfl hx0
      | known h1 _ _ _ => exact h1
      | yes h1 _ _ _ _ => exact h1
      | no h1 _ _ _ _ _ => exact h1
      | full h1 _ _ _ _ => exact h1
    clear h0 hx0
    go_wp2_with fail
    go_loopw [10] (fun i wr => ∃ k : Nat, k ≤ 12 ∧ i = .int .i64 k ∧ Below w7.heap.size w7 wr) (fun i _ => 12 - (intOf i).toNat)
    case atStart => exact ⟨0, Nat.zero_le _, rfl, Below.refl _ _⟩
    case round =>
      obtain ⟨k, hk, rfl, hb⟩ := hrel
      clear y1 y2 y3
      have dk := dx.trans (hb.mono dx.size)
      obtain ⟨y1, y2, y3⟩ := HF.out _ dk
      by_cases hlt : k < 12
      · have q1 : (k : Int) < 12 := by omega
        by_cases ht : (k : Int) = t
        · have e1 : ((k : Int) != t) = false := by rw [bne_eq_false_iff_eq]; exact ht
          clear ht
          go_wp2_with fail
          refine wp_region_later wr.heap.size (by kernel_rfl) (by kernel_rfl) ?_
          repeat (go_big_quiet_step (fail))
          refine wpQuiet_nil ?_
          intro _ hw'
          obtain ⟨xx, hxx⟩ := hw'
          have hbx := xx.b
          subst hxx
          go_wp2
          go_roundw
          case rel => exact ⟨k + 1, by omega, by go_num, hb.trans (hbx.mono hb.size)⟩
          case measure => simp [intOf]; omega
        · have e1 : ((k : Int) != t) = true := by rw [bne_iff_ne]; exact ht
          obtain ⟨z, hz⟩ : ∃ z, Sh.ask rs (k : Int) = z := ⟨_, rfl⟩
          have zk := dk.size
          have C1 := hid fun x : Later wr.heap.size wr => implShardAsk_is er0 er1 z _ xs (k : Int) x.w (HS2.out x.w (dk.trans (x.h.mono zk))) (HEx.out x.w (dk.trans (x.h.mono zk))) (HSX.out.fit (by omega)) (.inl ⟨HOK.out.2.1, ⟨by omega, by omega⟩, by rw [HOK.out.2.2 _ ht, hz]⟩)
          have C2 := hid fun x : Later wr.heap.size wr => implShardAsk_is er0 er1 z _ rs (k : Int) x.w (HS1.out x.w (dk.trans (x.h.mono zk))) (HEx.out x.w (dk.trans (x.h.mono zk))) (HSM.out.fit (by omega)) (.inl ⟨HOK.out.1, ⟨by omega, by omega⟩, hz.symm⟩)
          have G1 := Later.cell y1 (B := wr.heap.size) (Nat.lt_of_lt_of_le HLT.out.1 zk)
          have G2 := Later.cell y2 (B := wr.heap.size) (Nat.lt_of_lt_of_le HLT.out.2.1 zk)
          clear ht hz
          go_wp2_with fail
          refine wp_region_later wr.heap.size (by kernel_rfl) (by kernel_rfl) ?_
          repeat (go_big_quiet_step ((go_at_call 25; first | with_reducible exact Later.call (Nat.le_refl _) _ (C1.out _) | with_reducible exact Later.call (Nat.le_refl _) _ (C2.out _))))
          refine wpQuiet_nil ?_
          intro _ hw'
          obtain ⟨xx, hxx⟩ := hw'
          have hbx := xx.b
          subst hxx
          go_wp2
          go_roundw
          case rel => exact ⟨k + 1, by omega, by go_num, hb.trans (hbx.mono hb.size)⟩
          case measure => simp [intOf]; omega
      · go_wp2
        go_ret
        exact .mk_ (bw.trans (dk.mono bw.size))
theorem FnPrepareOther_any (A : Option Addr) (c : Nat) (bs : List Int) (w : World) (f1 : Row w w.heap.size A (bs.map (Value.int .u8))) (f2 : bs.length ≤ c) (f3 : c ≤ maxLen) (f4 : ∀ n ∈ bs, 0 ≤ n ∧ n < 256) (er0 er1 : Addr) (hE : Errs er0 er1 w) :
    Calls Tryd.prog 4 #[.slice A bs.length c] w (Ret (.bool true) w) := by
  by_cases hl : bs.length ≤ 1048576
  · exact FnPrepareOther_yes A c bs w ⟨f1, f2, f3, f4⟩ hl er0 er1 hE
  · exact FnPrepareOther_no A c bs w ⟨f1, f2, f3, f4⟩ hl
theorem prep_no {rs xs : List Rec} {t : Int} {us : List Up} (h : Voted rs t us xs false) (h1 : Vld rs) (h2 : TV t) (h3 : UV us) (ha : Sh.ask rs t = 0) :
    ∃ s, Rcv rs s ∧ Rcv xs s ∧ ((Sh.ask xs t = 3 ∧ rs.length < 30) ∨ (rs.length = 30 ∧ xs = rs)) := by
  obtain ⟨⟨s, hs⟩, hl⟩ := id h1
  rcases h.new_ h1 h2 h3 ha with ⟨_, _, e⟩ | ⟨_, _, b3, hb3, e⟩
  · cases e
  · have ab := Vld.abort_iff hs h2
    cases b3 with
    | true =>
      simp only [if_true] at e
      subst e
      refine ⟨s, hs, ?_, .inl ⟨by rw [ask_snoc, if_pos rfl], (ab.1 (hb3.1 rfl)).1⟩⟩
      have st : Rcv (rs ++ [⟨3, t, []⟩]) ⟨s.refs, freeL t s.locks⟩ := .snoc hs h2 (.abort rfl (.inl ha) rfl)
      have hn : t ∉ s.locks := fun e => by have := (hs.inv.has h2).1 e; omega
      have e9 : freeL t s.locks = s.locks := by
        unfold freeL
        refine (List.map_congr_left fun z hz => ?_).trans (List.map_id _)
        unfold free1
        rw [if_neg fun e => hn (by rw [← e]; exact hz)]
        rfl
      rw [e9] at st
      exact st
    | false =>
      simp only [Bool.false_eq_true, if_false] at e
      subst e
      have : ¬ xs.length < 30 := fun e => by have := hb3.2 (ab.2 ⟨e, .inl ha⟩); cases this
      exact ⟨s, hs, hs, .inr ⟨by omega, rfl⟩⟩
end Go.Proofs.YteeffchnbkkpfabDoor
