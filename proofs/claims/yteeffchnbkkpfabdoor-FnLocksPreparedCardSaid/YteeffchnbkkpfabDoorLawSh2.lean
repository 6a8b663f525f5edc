/- The coordinator with the slices $SA and $SB is stored as the answer, with the word $BB. -/
/-
  Walks of laws on decisions.
-/
import Derived.Test.YteeffchnbkkpfabDoorShdI
import Derived.Test.YteeffchnbkkpfabDoorDrawSv
namespace Go.Proofs.YteeffchnbkkpfabDoor
open Go.RowKit Wo Pu Rf Lk Sh

theorem decided_vld {rs xs : List Rec} {t k : Int} {b : Bool} (h : Decided rs t k xs b) (hx : xs ≠ []) : Vld rs := by
  cases h with
  | bad _ => exact absurd rfl hx
  | known h1 _ _ => exact h1
  | yes h1 _ _ _ => exact h1
  | no h1 _ _ _ => exact h1
/-- A decision taken is taken again, and its opposite is not. -/
theorem decided_twice {rs xs : List Rec} {t k k' : Int} (h : Decided rs t k xs true) (hk : k = 2 ∨ k = 3) (hk' : k' = 2 ∨ k' = 3) (hne : k' ≠ k) : Decided xs t k xs true ∧ Decided xs t k' xs false := by
  have hv := decided_valid h
  have key : TV t ∧ Sh.ask xs t = k := by
    cases h with
    | known _ h2 h3 => exact ⟨h2, h3⟩
    | yes _ h2 _ _ => exact ⟨h2, by rw [ask_snoc, if_pos rfl]⟩
  obtain ⟨ht, ha⟩ := key
  refine ⟨.known hv ht ha, .no hv ht (by rw [ha]; exact fun e => hne e.symm) ?_⟩
  obtain ⟨⟨s, hs⟩, -⟩ := hv
  exact final hs ht ha hk hk'
theorem FnDecideOther_no (A : Option Addr) (c : Nat) (bs : List Int) (w : World) (h : Code_ w A c bs) (hl : ¬ bs.length ≤ 1048576) :
    Calls Tryd.prog 5 #[.slice A bs.length c] w (Ret (.bool true) w) := by
  have hc := h.2.1
  have hm := h.2.2.1
  unfold maxLen at hm
  go_enter Tryd.func5, Tryd.ntmps5
  go_wp2
  go_ret
  exact .mk_ (Below.refl _ _)
set_option linter.unusedSimpArgs false in
set_option maxRecDepth 100000 in
set_option maxHeartbeats 4000000 in
theorem FnDecideOther_yes (A : Option Addr) (c : Nat) (bs : List Int) (w : World) (h : Code_ w A c bs) (hl : bs.length ≤ 1048576) (er0 er1 : Addr) (HE : Hid (Errs er0 er1 w)) :
    Calls Tryd.prog 5 #[.slice A bs.length c] w (Ret (.bool true) w) := by
  go_enter Tryd.func5, Tryd.ntmps5
  go_wp2_with fail
  refine (DrawShardDecide_any A c bs _ h).mono ?_
  rintro e w1 ⟨v1, rs, t, cm, rfl, s1, hl, hs, ht0, ht1, bw⟩
  obtain ⟨A1, c1, rfl, r1, hc1⟩ := s1
  unfold shV
  obtain ⟨kk, hkk⟩ : ∃ kk : Int, kk = if cm then 2 else 3 := ⟨_, rfl⟩
  obtain ⟨xs, b, hv⟩ := decided_ex rs t kk
  have HKK := hid hkk
  have HV := hid hv
  have HSM := hid hs
  have HSX := hid (decided_small hv hs)
  have hlx : xs.length ≤ 31 := Nat.le_succ_of_le (decided_valid hv).2
  have CS := hid (specShardDecide_is xs b · rs t kk cm · · (hs.fit (by omega)) hkk hv)
  have CI := hid (implShardDecide_is er0 er1 xs b · rs t kk cm · · · (hs.fit (by omega)) hkk hv)
  clear hv hs hkk
  go_upto_region 4 with fail
  have al := (Below.refl (w1).heap.size w1).alloc (Nat.le_refl _) (.cells #[.slice A1 rs.length c1] 25)
  have xn := Blk1.new_ w1 25 (.slice A1 rs.length c1)
  obtain ⟨w2, hw'⟩ : ∃ x, (w1).alloc (.cells #[.slice A1 rs.length c1] 25) = x := ⟨_, rfl⟩
  rw [hw'] at al xn ⊢
  clear hw'
  have x1 := xn
  have z2 := al.size
  have r2 := r1.on al
  obtain ⟨y1, -⟩ := id x1.reads
  have b2 := bw.trans (al.mono bw.size)
  clear xn al r1 bw z2
  go_wp2_with fail
  refine (CI.out _ w2 ⟨A1, c1, rfl, r2, hc1⟩ (HE.out.below b2)).mono ?_
  rintro e w3 ⟨v3, rfl, ⟨A2, c2, rfl, o3, hc2⟩, d3⟩
  unfold shV
  go_upto_region 5 with fail
  have al := (Below.refl (w3).heap.size w3).alloc (Nat.le_refl _) (.cells #[.slice A2 xs.length c2] 25)
  have xn := Blk1.new_ w3 25 (.slice A2 xs.length c2)
  obtain ⟨w4, hw'⟩ : ∃ x, (w3).alloc (.cells #[.slice A2 xs.length c2] 25) = x := ⟨_, rfl⟩
  rw [hw'] at al xn ⊢
  clear hw'
  have d4 := d3.trans (al.mono d3.size)
  have r4 := r2.on d4
  have q4 := (OwnSh.mk_ (o3.below al)).shd
  have x2 := xn
  replace x1 := x1.later d4
  have b4 := b2.trans (d4.mono b2.size)
  clear y1
  obtain ⟨y1, -⟩ := id x1.reads
  clear xn al r2 b2 d3 d4 o3 CI
  go_wp2_with fail
  refine (CS.out _ w4 ⟨A1, c1, rfl, r4, hc1⟩).mono ?_
  rintro e w5 ⟨v5, rfl, ⟨A3, c3, rfl, o5, hc3⟩, d5⟩
  unfold shV
  go_upto_region 6 with fail
  have al := (Below.refl (w5).heap.size w5).alloc (Nat.le_refl _) (.cells #[.slice A3 xs.length c3] 25)
  have xn := Blk1.new_ w5 25 (.slice A3 xs.length c3)
  obtain ⟨w6, hw'⟩ : ∃ x, (w5).alloc (.cells #[.slice A3 xs.length c3] 25) = x := ⟨_, rfl⟩
  rw [hw'] at al xn ⊢
  clear hw'
  have d6 := d5.trans (al.mono d5.size)
  have r6 := r4.on d6
  have q6 := q4.on d6 d6.size
  have p6 := (OwnSh.mk_ (o5.below al)).shd
  have bw := b4.trans (d6.mono b4.size)
  have X1 := x1.later d6
  have X2 := x2.later d6
  have HEx : Hid (∀ x, Below w6.heap.size w6 x → Errs er0 er1 x) := fun x hx => HE.out.below (bw.trans (hx.mono bw.size))
  have HF : Hid (∀ x, Below w6.heap.size w6 x → x.cell? ⟨w1.heap.size, 0, none⟩ = some (.slice A1 rs.length c1) ∧ x.cell? ⟨w3.heap.size, 0, none⟩ = some (.slice A2 xs.length c2) ∧ x.cell? ⟨w5.heap.size, 0, none⟩ = some (.slice A3 xs.length c3)) := fun x hx => ⟨(X1.later hx).reads.1, (X2.later hx).reads.1, (xn.later hx).reads.1⟩
  have HR1 : Hid (∀ x, Below w6.heap.size w6 x → Recs x x.heap.size A1 rs) := fun x hx => r6.on hx
  have HS2 : Hid (∀ x, Below w6.heap.size w6 x → Shd x x.heap.size (.agg #[.slice A2 xs.length c2]) xs) := fun x hx => q6.on hx hx.size
  have HS3 : Hid (∀ x, Below w6.heap.size w6 x → Shd x x.heap.size (.agg #[.slice A3 xs.length c3]) xs) := fun x hx => p6.on hx hx.size
  have HS1 : Hid (∀ x, Below w6.heap.size w6 x → Shd x x.heap.size (.agg #[.slice A1 rs.length c1]) rs) := fun x hx => ⟨A1, c1, rfl, HR1.out x hx, hc1⟩
  have dx := Below.refl w6.heap.size w6
  have HLT : Hid (w1.heap.size < w6.heap.size ∧ w3.heap.size < w6.heap.size ∧ w5.heap.size < w6.heap.size) := ⟨X1.lt, X2.lt, xn.lt⟩
  clear y1 al xn x1 x2 X1 X2 r4 q4 r6 q6 p6 o5 d5 d6 b4 CS
  obtain ⟨y1, y2, y3⟩ := HF.out _ dx
  go_wp2_with fail
  refine (sameShard_is _ _ xs _ (HS2.out _ dx) (HS3.out _ dx) (HSX.out.fit (by omega))).mono ?_
  rintro e w7 ⟨rfl, dn⟩
  replace dx := dx.trans ((dn).mono dx.size)
  clear y1 y2 y3 dn
  obtain ⟨y1, y2, y3⟩ := HF.out _ dx
  by_cases h0 : xs.length = 0
  · have e0 : ((xs.length : Int) == 0) = true := by rw [beq_iff_eq]; omega
    clear h0
    go_wp2_with fail
    refine (sameShard_is _ _ xs _ (HS2.out _ dx) (HS3.out _ dx) (HSX.out.fit (by omega))).mono ?_
    rintro e w8 ⟨rfl, dn⟩
    replace dx := dx.trans ((dn).mono dx.size)
    clear y1 y2 y3 dn
    obtain ⟨y1, y2, y3⟩ := HF.out _ dx
    go_wp2
    go_ret
    exact .mk_ (bw.trans (dx.mono bw.size))
  · have e0 : ((xs.length : Int) == 0) = false := by rw [beq_eq_false_iff_ne]; omega
    have hx0 : xs ≠ [] := fun e => h0 (by rw [e]; rfl)
    have HOK : Hid (Vld rs ∧ Vld xs ∧ ∀ t', t' ≠ t → Sh.ask xs t' = Sh.ask rs t') := ⟨decided_vld HV.out hx0, decided_valid HV.out, fun t' ht' => decided_other HV.out hx0 ht'⟩
    clear h0 hx0
    go_wp2_with fail
    go_loopw [10] (fun i wr => ∃ k : Nat, k ≤ 12 ∧ i = .int .i64 k ∧ Below w7.heap.size w7 wr) (fun i _ => 12 - (intOf i).toNat)
    case atStart => exact ⟨0, Nat.zero_le _, rfl, Below.refl _ _⟩
    case round =>
      obtain ⟨k, hk, rfl, hb⟩ := hrel
      clear y1 y2 y3
      have dk := dx.trans (hb.mono dx.size)
      obtain ⟨y1, y2, y3⟩ := HF.out _ dk
      by_cases hlt : k < 12
      · have q1 : (k : Int) < 12 := by omega
        by_cases ht : (k : Int) = t
        · have e1 : ((k : Int) != t) = false := by rw [bne_eq_false_iff_eq]; exact ht
          clear ht
          go_wp2_with fail
          refine wp_region_later wr.heap.size (by kernel_rfl) (by kernel_rfl) ?_
          repeat (go_big_quiet_step (fail))
          refine wpQuiet_nil ?_
          intro _ hw'
          obtain ⟨xx, hxx⟩ := hw'
          have hbx := xx.b
          subst hxx
          go_wp2
          go_roundw
          case rel => exact ⟨k + 1, by omega, by go_num, hb.trans (hbx.mono hb.size)⟩
          case measure => simp [intOf]; omega
        · have e1 : ((k : Int) != t) = true := by rw [bne_iff_ne]; exact ht
          obtain ⟨z, hz⟩ : ∃ z, Sh.ask rs (k : Int) = z := ⟨_, rfl⟩
          have zk := dk.size
          have C1 := hid fun x : Later wr.heap.size wr => implShardAsk_is er0 er1 z _ xs (k : Int) x.w (HS2.out x.w (dk.trans (x.h.mono zk))) (HEx.out x.w (dk.trans (x.h.mono zk))) (HSX.out.fit (by omega)) (.inl ⟨HOK.out.2.1, ⟨by omega, by omega⟩, by rw [HOK.out.2.2 _ ht, hz]⟩)
          have C2 := hid fun x : Later wr.heap.size wr => implShardAsk_is er0 er1 z _ rs (k : Int) x.w (HS1.out x.w (dk.trans (x.h.mono zk))) (HEx.out x.w (dk.trans (x.h.mono zk))) (HSM.out.fit (by omega)) (.inl ⟨HOK.out.1, ⟨by omega, by omega⟩, hz.symm⟩)
          have G1 := Later.cell y1 (B := wr.heap.size) (Nat.lt_of_lt_of_le HLT.out.1 zk)
          have G2 := Later.cell y2 (B := wr.heap.size) (Nat.lt_of_lt_of_le HLT.out.2.1 zk)
          clear ht hz
          go_wp2_with fail
          refine wp_region_later wr.heap.size (by kernel_rfl) (by kernel_rfl) ?_
          repeat (go_big_quiet_step ((go_at_call 25; first | with_reducible exact Later.call (Nat.le_refl _) _ (C1.out _) | with_reducible exact Later.call (Nat.le_refl _) _ (C2.out _))))
          refine wpQuiet_nil ?_
          intro _ hw'
          obtain ⟨xx, hxx⟩ := hw'
          have hbx := xx.b
          subst hxx
          go_wp2
          go_roundw
          case rel => exact ⟨k + 1, by omega, by go_num, hb.trans (hbx.mono hb.size)⟩
          case measure => simp [intOf]; omega
      · go_wp2
        go_ret
        exact .mk_ (bw.trans (dk.mono bw.size))
theorem FnDecideOther_any (A : Option Addr) (c : Nat) (bs : List Int) (w : World) (f1 : Row w w.heap.size A (bs.map (Value.int .u8))) (f2 : bs.length ≤ c) (f3 : c ≤ maxLen) (f4 : ∀ n ∈ bs, 0 ≤ n ∧ n < 256) (er0 er1 : Addr) (hE : Errs er0 er1 w) :
    Calls Tryd.prog 5 #[.slice A bs.length c] w (Ret (.bool true) w) := by
  by_cases hl : bs.length ≤ 1048576
  · exact FnDecideOther_yes A c bs w ⟨f1, f2, f3, f4⟩ hl er0 er1 hE
  · exact FnDecideOther_no A c bs w ⟨f1, f2, f3, f4⟩ hl
theorem decided_commit {rs xs : List Rec} {t : Int} {b : Bool} (h : Decided rs t 2 xs b) (hv : Vld rs) (ht : TV t) :
    (b = true ∧ (Sh.ask rs t = 2 ∨ Sh.ask rs t = 1 ∧ rs.length < 30)) ∨ (b = false ∧ ¬ (Sh.ask rs t = 2 ∨ Sh.ask rs t = 1 ∧ rs.length < 30) ∧ xs = rs) := by
  obtain ⟨⟨s, hs⟩, -⟩ := id hv
  have ci := Vld.commit_iff hs ht
  by_cases ha : Sh.ask rs t = 2
  · exact .inl ⟨(h.known_ hv ht ha).2, .inl ha⟩
  · obtain ⟨h1, h2⟩ := h.new_ hv ht ha
    cases b with
    | true => exact .inl ⟨rfl, .inr ⟨(ci.1 (h1.1 rfl)).2, (ci.1 (h1.1 rfl)).1⟩⟩
    | false =>
      refine .inr ⟨rfl, fun e => ?_, h2⟩
      rcases e with e | ⟨e1, e2⟩
      · exact ha e
      · have := h1.2 (ci.2 ⟨e2, e1⟩); cases this
end Go.Proofs.YteeffchnbkkpfabDoor
