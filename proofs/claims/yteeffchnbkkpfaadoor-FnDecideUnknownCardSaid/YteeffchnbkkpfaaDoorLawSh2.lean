/- The coordinator with the slices $SA and $SB is stored as the answer, with the word $BB. -/
/-
  Walks of laws on decisions.
-/
import Derived.Test.YteeffchnbkkpfaaDoorShdI
import Derived.Test.YteeffchnbkkpfaaDoorDrawSv
namespace Go.Proofs.YteeffchnbkkpfaaDoor
open Go.RowKit Wo Pu Rf Lk Sh

theorem decided_vld {rs xs : List Rec} {t k : Int} {b : Bool} (h : Decided rs t k xs b) (hx : xs ≠ []) : Vld rs := by
  cases h with
  | bad _ => exact absurd rfl hx
  | known h1 _ _ => exact h1
  | yes h1 _ _ _ => exact h1
  | no h1 _ _ _ => exact h1
/-- A decision taken is taken again, and its opposite is not. -/
theorem decided_twice {rs xs : List Rec} {t k k' : Int} (h : Decided rs t k xs true) (hk : k = 2 ∨ k = 3) (hk' : k' = 2 ∨ k' = 3) (hne : k' ≠ k) : Decided xs t k xs true ∧ Decided xs t k' xs false := by
  have hv := decided_valid h
  have key : TV t ∧ Sh.ask xs t = k := by
    cases h with
    | known _ h2 h3 => exact ⟨h2, h3⟩
    | yes _ h2 _ _ => exact ⟨h2, by rw [ask_snoc, if_pos rfl]⟩
  obtain ⟨ht, ha⟩ := key
  refine ⟨.known hv ht ha, .no hv ht (by rw [ha]; exact fun e => hne e.symm) ?_⟩
  obtain ⟨⟨s, hs⟩, -⟩ := hv
  exact final hs ht ha hk hk'
theorem FnDecideTwice_no (A : Option Addr) (c : Nat) (bs : List Int) (w : World) (h : Code_ w A c bs) (hl : ¬ bs.length ≤ 1048576) :
    Calls Tryd.prog 10 #[.slice A bs.length c] w (Ret (.bool true) w) := by
  have hc := h.2.1
  have hm := h.2.2.1
  unfold maxLen at hm
  go_enter Tryd.func10, Tryd.ntmps10
  go_wp2
  go_ret
  exact .mk_ (Below.refl _ _)
set_option linter.unusedSimpArgs false in
set_option maxRecDepth 100000 in
set_option maxHeartbeats 4000000 in
theorem FnDecideTwice_yes (A : Option Addr) (c : Nat) (bs : List Int) (w : World) (h : Code_ w A c bs) (hl : bs.length ≤ 1048576) (er0 er1 : Addr) (HE : Hid (Errs er0 er1 w)) :
    Calls Tryd.prog 10 #[.slice A bs.length c] w (Ret (.bool true) w) := by
  go_enter Tryd.func10, Tryd.ntmps10
  go_wp2_with fail
  refine (DrawShardDecide_any A c bs _ h).mono ?_
  rintro e w1 ⟨v1, rs, t, cm, rfl, s1, hl, hs, ht0, ht1, bw⟩
  obtain ⟨A1, c1, rfl, r1, hc1⟩ := s1
  unfold shV
  obtain ⟨kk, hkk⟩ : ∃ kk : Int, kk = if cm then 2 else 3 := ⟨_, rfl⟩
  obtain ⟨xs, b, hv⟩ := decided_ex rs t kk
  have HKK := hid hkk
  have HV := hid hv
  have HSM := hid hs
  have HSX := hid (decided_small hv hs)
  have hlx : xs.length ≤ 31 := Nat.le_succ_of_le (decided_valid hv).2
  have CS := hid (specShardDecide_is xs b · rs t kk cm · · (hs.fit (by omega)) hkk hv)
  have CI := hid (implShardDecide_is er0 er1 xs b · rs t kk cm · · · (hs.fit (by omega)) hkk hv)
  clear hv hs hkk
  go_upto_region 4 with fail
  have al := (Below.refl (w1).heap.size w1).alloc (Nat.le_refl _) (.cells #[.slice A1 rs.length c1] 25)
  have xn := Blk1.new_ w1 25 (.slice A1 rs.length c1)
  obtain ⟨w2, hw'⟩ : ∃ x, (w1).alloc (.cells #[.slice A1 rs.length c1] 25) = x := ⟨_, rfl⟩
  rw [hw'] at al xn ⊢
  clear hw'
  have x1 := xn
  have z2 := al.size
  have r2 := r1.on al
  obtain ⟨y1, -⟩ := id x1.reads
  have b2 := bw.trans (al.mono bw.size)
  clear xn al r1 bw z2
  go_wp2_with fail
  refine (CI.out _ w2 ⟨A1, c1, rfl, r2, hc1⟩ (HE.out.below b2)).mono ?_
  rintro e w3 ⟨v3, rfl, ⟨A2, c2, rfl, o3, hc2⟩, d3⟩
  unfold shV
  go_upto_region 5 with fail
  have al := (Below.refl (w3).heap.size w3).alloc (Nat.le_refl _) (.cells #[.slice A2 xs.length c2] 25)
  have xn := Blk1.new_ w3 25 (.slice A2 xs.length c2)
  obtain ⟨w4, hw'⟩ : ∃ x, (w3).alloc (.cells #[.slice A2 xs.length c2] 25) = x := ⟨_, rfl⟩
  rw [hw'] at al xn ⊢
  clear hw'
  have d4 := d3.trans (al.mono d3.size)
  have r4 := r2.on d4
  have q4 := (OwnSh.mk_ (o3.below al)).shd
  have x2 := xn
  replace x1 := x1.later d4
  have b4 := b2.trans (d4.mono b2.size)
  clear y1
  obtain ⟨y1, -⟩ := id x1.reads
  clear xn al r2 b2 d3 d4 o3 CI
  go_wp2_with fail
  refine (CS.out _ w4 ⟨A1, c1, rfl, r4, hc1⟩).mono ?_
  rintro e w5 ⟨v5, rfl, ⟨A3, c3, rfl, o5, hc3⟩, d5⟩
  unfold shV
  go_upto_region 6 with fail
  have al := (Below.refl (w5).heap.size w5).alloc (Nat.le_refl _) (.cells #[.slice A3 xs.length c3] 25)
  have xn := Blk1.new_ w5 25 (.slice A3 xs.length c3)
  obtain ⟨w6, hw'⟩ : ∃ x, (w5).alloc (.cells #[.slice A3 xs.length c3] 25) = x := ⟨_, rfl⟩
  rw [hw'] at al xn ⊢
  clear hw'
  have d6 := d5.trans (al.mono d5.size)
  have r6 := r4.on d6
  have q6 := q4.on d6 d6.size
  have p6 := (OwnSh.mk_ (o5.below al)).shd
  have bw := b4.trans (d6.mono b4.size)
  have X1 := x1.later d6
  have X2 := x2.later d6
  have HEx : Hid (∀ x, Below w6.heap.size w6 x → Errs er0 er1 x) := fun x hx => HE.out.below (bw.trans (hx.mono bw.size))
  have HF : Hid (∀ x, Below w6.heap.size w6 x → x.cell? ⟨w1.heap.size, 0, none⟩ = some (.slice A1 rs.length c1) ∧ x.cell? ⟨w3.heap.size, 0, none⟩ = some (.slice A2 xs.length c2) ∧ x.cell? ⟨w5.heap.size, 0, none⟩ = some (.slice A3 xs.length c3)) := fun x hx => ⟨(X1.later hx).reads.1, (X2.later hx).reads.1, (xn.later hx).reads.1⟩
  have HR1 : Hid (∀ x, Below w6.heap.size w6 x → Recs x x.heap.size A1 rs) := fun x hx => r6.on hx
  have HS2 : Hid (∀ x, Below w6.heap.size w6 x → Shd x x.heap.size (.agg #[.slice A2 xs.length c2]) xs) := fun x hx => q6.on hx hx.size
  have HS3 : Hid (∀ x, Below w6.heap.size w6 x → Shd x x.heap.size (.agg #[.slice A3 xs.length c3]) xs) := fun x hx => p6.on hx hx.size
  have HS1 : Hid (∀ x, Below w6.heap.size w6 x → Shd x x.heap.size (.agg #[.slice A1 rs.length c1]) rs) := fun x hx => ⟨A1, c1, rfl, HR1.out x hx, hc1⟩
  have dx := Below.refl w6.heap.size w6
  have HLT : Hid (w1.heap.size < w6.heap.size ∧ w3.heap.size < w6.heap.size ∧ w5.heap.size < w6.heap.size) := ⟨X1.lt, X2.lt, xn.lt⟩
  clear y1 al xn x1 x2 X1 X2 r4 q4 r6 q6 p6 o5 d5 d6 b4 CS
  obtain ⟨y1, y2, y3⟩ := HF.out _ dx
  go_wp2_with fail
  refine (sameShard_is _ _ xs _ (HS2.out _ dx) (HS3.out _ dx) (HSX.out.fit (by omega))).mono ?_
  rintro e w7 ⟨rfl, dn⟩
  replace dx := dx.trans ((dn).mono dx.size)
  clear y1 y2 y3 dn
  obtain ⟨y1, y2, y3⟩ := HF.out _ dx
  cases b with
  | false =>
    go_wp2_with fail
    refine (sameShard_is _ _ xs _ (HS2.out _ dx) (HS3.out _ dx) (HSX.out.fit (by omega))).mono ?_
    rintro e w8 ⟨rfl, dn⟩
    replace dx := dx.trans ((dn).mono dx.size)
    clear y1 y2 y3 dn
    obtain ⟨y1, y2, y3⟩ := HF.out _ dx
    go_wp2
    go_ret
    exact .mk_ (bw.trans (dx.mono bw.size))
  | true =>
    obtain ⟨k2, hk2⟩ : ∃ k2 : Int, k2 = if !cm then 2 else 3 := ⟨_, rfl⟩
    have HTW : Hid (Decided xs t kk xs true ∧ Decided xs t k2 xs false) := by
      have h1 := HKK.out
      cases cm with
      | true => simp at h1 hk2; exact decided_twice HV.out (by omega) (by omega) (by omega)
      | false => simp at h1 hk2; exact decided_twice HV.out (by omega) (by omega) (by omega)
    have CD1 := hid (implShardDecide_is er0 er1 xs true · xs t kk cm · · · (HSX.out.fit (by omega)) HKK.out HTW.out.1)
    have CD2 := hid (implShardDecide_is er0 er1 xs false · xs t k2 (!cm) · · · (HSX.out.fit (by omega)) hk2 HTW.out.2)
    clear hk2
    go_wp2_with fail
    refine (CD1.out _ w7 (HS2.out _ dx) (HEx.out _ dx)).mono ?_
    rintro e w8 ⟨v8, rfl, ⟨A4, c4, rfl, o8, hc4⟩, d8⟩
    unfold shV
    have s8 := (OwnSh.mk_ o8).shd
    clear o8
    replace dx := dx.trans ((d8).mono dx.size)
    clear y1 y2 y3 d8
    obtain ⟨y1, y2, y3⟩ := HF.out _ dx
    go_upto_region 9 with fail
    have al := (Below.refl (w8).heap.size w8).alloc (Nat.le_refl _) (.cells #[.slice A4 xs.length c4] 25)
    have xn := Blk1.new_ w8 25 (.slice A4 xs.length c4)
    obtain ⟨w9, hw'⟩ : ∃ x, (w8).alloc (.cells #[.slice A4 xs.length c4] 25) = x := ⟨_, rfl⟩
    rw [hw'] at al xn ⊢
    clear hw'
    have x4 := xn
    replace s8 := s8.on al al.size
    replace dx := dx.trans ((al).mono dx.size)
    clear y1 y2 y3 al
    obtain ⟨y1, y2, y3⟩ := HF.out _ dx
    clear xn CD1
    go_wp2_with fail
    refine (CD2.out _ w9 (HS2.out _ dx) (HEx.out _ dx)).mono ?_
    rintro e w10 ⟨v10, rfl, ⟨A5, c5, rfl, o10, hc5⟩, d10⟩
    unfold shV
    have s10 := (OwnSh.mk_ o10).shd
    replace x4 := x4.later d10
    replace s8 := s8.on d10 d10.size
    clear o10
    replace dx := dx.trans ((d10).mono dx.size)
    clear y1 y2 y3 d10
    obtain ⟨y1, y2, y3⟩ := HF.out _ dx
    go_upto_region 10 with fail
    have al := (Below.refl (w10).heap.size w10).alloc (Nat.le_refl _) (.cells #[.slice A5 xs.length c5] 25)
    have xn := Blk1.new_ w10 25 (.slice A5 xs.length c5)
    obtain ⟨w11, hw'⟩ : ∃ x, (w10).alloc (.cells #[.slice A5 xs.length c5] 25) = x := ⟨_, rfl⟩
    rw [hw'] at al xn ⊢
    clear hw'
    have x5 := xn
    replace x4 := x4.later al
    replace s8 := s8.on al al.size
    replace s10 := s10.on al al.size
    replace dx := dx.trans ((al).mono dx.size)
    clear y1 y2 y3 al
    obtain ⟨y1, y2, y3⟩ := HF.out _ dx
    obtain ⟨y4, -⟩ := id x4.reads
    clear xn CD2
    go_wp2_with fail
    refine (sameShard_is _ _ xs _ s8 (HS2.out _ dx) (HSX.out.fit (by omega))).mono ?_
    rintro e w12 ⟨rfl, d12⟩
    replace x5 := x5.later d12
    replace s10 := s10.on d12 d12.size
    replace dx := dx.trans ((d12).mono dx.size)
    clear y1 y2 y3 d12
    obtain ⟨y1, y2, y3⟩ := HF.out _ dx
    clear y4
    obtain ⟨y5, -⟩ := id x5.reads
    go_wp2_with fail
    refine (sameShard_is _ _ xs _ s10 (HS2.out _ dx) (HSX.out.fit (by omega))).mono ?_
    rintro e w13 ⟨rfl, d13⟩
    replace dx := dx.trans ((d13).mono dx.size)
    clear y1 y2 y3 d13
    obtain ⟨y1, y2, y3⟩ := HF.out _ dx
    clear y5
    go_wp2
    go_ret
    exact .mk_ (bw.trans (dx.mono bw.size))
theorem FnDecideTwice_any (A : Option Addr) (c : Nat) (bs : List Int) (w : World) (f1 : Row w w.heap.size A (bs.map (Value.int .u8))) (f2 : bs.length ≤ c) (f3 : c ≤ maxLen) (f4 : ∀ n ∈ bs, 0 ≤ n ∧ n < 256) (er0 er1 : Addr) (hE : Errs er0 er1 w) :
    Calls Tryd.prog 10 #[.slice A bs.length c] w (Ret (.bool true) w) := by
  by_cases hl : bs.length ≤ 1048576
  · exact FnDecideTwice_yes A c bs w ⟨f1, f2, f3, f4⟩ hl er0 er1 hE
  · exact FnDecideTwice_no A c bs w ⟨f1, f2, f3, f4⟩ hl
theorem decided_commit {rs xs : List Rec} {t : Int} {b : Bool} (h : Decided rs t 2 xs b) (hv : Vld rs) (ht : TV t) :
    (b = true ∧ (Sh.ask rs t = 2 ∨ Sh.ask rs t = 1 ∧ rs.length < 30)) ∨ (b = false ∧ ¬ (Sh.ask rs t = 2 ∨ Sh.ask rs t = 1 ∧ rs.length < 30) ∧ xs = rs) := by
  obtain ⟨⟨s, hs⟩, -⟩ := id hv
  have ci := Vld.commit_iff hs ht
  by_cases ha : Sh.ask rs t = 2
  · exact .inl ⟨(h.known_ hv ht ha).2, .inl ha⟩
  · obtain ⟨h1, h2⟩ := h.new_ hv ht ha
    cases b with
    | true => exact .inl ⟨rfl, .inr ⟨(ci.1 (h1.1 rfl)).2, (ci.1 (h1.1 rfl)).1⟩⟩
    | false =>
      refine .inr ⟨rfl, fun e => ?_, h2⟩
      rcases e with e | ⟨e1, e2⟩
      · exact ha e
      · have := h1.2 (ci.2 ⟨e2, e1⟩); cases this
theorem FnDecideUnknown_no (A : Option Addr) (c : Nat) (bs : List Int) (w : World) (h : Code_ w A c bs) (hl : ¬ bs.length ≤ 1048576) :
    Calls Tryd.prog 11 #[.slice A bs.length c] w (Ret (.bool true) w) := by
  have hc := h.2.1
  have hm := h.2.2.1
  unfold maxLen at hm
  go_enter Tryd.func11, Tryd.ntmps11
  go_wp2
  go_ret
  exact .mk_ (Below.refl _ _)
set_option linter.unusedSimpArgs false in
set_option maxRecDepth 100000 in
set_option maxHeartbeats 4000000 in
theorem FnDecideUnknown_yes (A : Option Addr) (c : Nat) (bs : List Int) (w : World) (h : Code_ w A c bs) (hl : bs.length ≤ 1048576) (er0 er1 : Addr) (HE : Hid (Errs er0 er1 w)) :
    Calls Tryd.prog 11 #[.slice A bs.length c] w (Ret (.bool true) w) := by
  go_enter Tryd.func11, Tryd.ntmps11
  go_wp2_with fail
  refine (DrawShardDecide_any A c bs _ h).mono ?_
  rintro e w1 ⟨v1, rs, t, cm, rfl, s1, hl, hs, ht0, ht1, bw⟩
  obtain ⟨A1, c1, rfl, r1, hc1⟩ := s1
  unfold shV
  obtain ⟨kk, hkk⟩ : ∃ kk : Int, kk = if cm then 2 else 3 := ⟨_, rfl⟩
  obtain ⟨xs, b, hv⟩ := decided_ex rs t kk
  have HKK := hid hkk
  have HV := hid hv
  have HSM := hid hs
  have HSX := hid (decided_small hv hs)
  have hlx : xs.length ≤ 31 := Nat.le_succ_of_le (decided_valid hv).2
  have CS := hid (specShardDecide_is xs b · rs t kk cm · · (hs.fit (by omega)) hkk hv)
  have CI := hid (implShardDecide_is er0 er1 xs b · rs t kk cm · · · (hs.fit (by omega)) hkk hv)
  clear hv hs hkk
  go_upto_region 4 with fail
  have al := (Below.refl (w1).heap.size w1).alloc (Nat.le_refl _) (.cells #[.slice A1 rs.length c1] 25)
  have xn := Blk1.new_ w1 25 (.slice A1 rs.length c1)
  obtain ⟨w2, hw'⟩ : ∃ x, (w1).alloc (.cells #[.slice A1 rs.length c1] 25) = x := ⟨_, rfl⟩
  rw [hw'] at al xn ⊢
  clear hw'
  have x1 := xn
  have z2 := al.size
  have r2 := r1.on al
  obtain ⟨y1, -⟩ := id x1.reads
  have b2 := bw.trans (al.mono bw.size)
  clear xn al r1 bw z2
  go_wp2_with fail
  refine (CI.out _ w2 ⟨A1, c1, rfl, r2, hc1⟩ (HE.out.below b2)).mono ?_
  rintro e w3 ⟨v3, rfl, ⟨A2, c2, rfl, o3, hc2⟩, d3⟩
  unfold shV
  go_upto_region 5 with fail
  have al := (Below.refl (w3).heap.size w3).alloc (Nat.le_refl _) (.cells #[.slice A2 xs.length c2] 25)
  have xn := Blk1.new_ w3 25 (.slice A2 xs.length c2)
  obtain ⟨w4, hw'⟩ : ∃ x, (w3).alloc (.cells #[.slice A2 xs.length c2] 25) = x := ⟨_, rfl⟩
  rw [hw'] at al xn ⊢
  clear hw'
  have d4 := d3.trans (al.mono d3.size)
  have r4 := r2.on d4
  have q4 := (OwnSh.mk_ (o3.below al)).shd
  have x2 := xn
  replace x1 := x1.later d4
  have b4 := b2.trans (d4.mono b2.size)
  clear y1
  obtain ⟨y1, -⟩ := id x1.reads
  clear xn al r2 b2 d3 d4 o3 CI
  go_wp2_with fail
  refine (CS.out _ w4 ⟨A1, c1, rfl, r4, hc1⟩).mono ?_
  rintro e w5 ⟨v5, rfl, ⟨A3, c3, rfl, o5, hc3⟩, d5⟩
  unfold shV
  go_upto_region 6 with fail
  have al := (Below.refl (w5).heap.size w5).alloc (Nat.le_refl _) (.cells #[.slice A3 xs.length c3] 25)
  have xn := Blk1.new_ w5 25 (.slice A3 xs.length c3)
  obtain ⟨w6, hw'⟩ : ∃ x, (w5).alloc (.cells #[.slice A3 xs.length c3] 25) = x := ⟨_, rfl⟩
  rw [hw'] at al xn ⊢
  clear hw'
  have d6 := d5.trans (al.mono d5.size)
  have r6 := r4.on d6
  have q6 := q4.on d6 d6.size
  have p6 := (OwnSh.mk_ (o5.below al)).shd
  have bw := b4.trans (d6.mono b4.size)
  have X1 := x1.later d6
  have X2 := x2.later d6
  have HEx : Hid (∀ x, Below w6.heap.size w6 x → Errs er0 er1 x) := fun x hx => HE.out.below (bw.trans (hx.mono bw.size))
  have HF : Hid (∀ x, Below w6.heap.size w6 x → x.cell? ⟨w1.heap.size, 0, none⟩ = some (.slice A1 rs.length c1) ∧ x.cell? ⟨w3.heap.size, 0, none⟩ = some (.slice A2 xs.length c2) ∧ x.cell? ⟨w5.heap.size, 0, none⟩ = some (.slice A3 xs.length c3)) := fun x hx => ⟨(X1.later hx).reads.1, (X2.later hx).reads.1, (xn.later hx).reads.1⟩
  have HR1 : Hid (∀ x, Below w6.heap.size w6 x → Recs x x.heap.size A1 rs) := fun x hx => r6.on hx
  have HS2 : Hid (∀ x, Below w6.heap.size w6 x → Shd x x.heap.size (.agg #[.slice A2 xs.length c2]) xs) := fun x hx => q6.on hx hx.size
  have HS3 : Hid (∀ x, Below w6.heap.size w6 x → Shd x x.heap.size (.agg #[.slice A3 xs.length c3]) xs) := fun x hx => p6.on hx hx.size
  have HS1 : Hid (∀ x, Below w6.heap.size w6 x → Shd x x.heap.size (.agg #[.slice A1 rs.length c1]) rs) := fun x hx => ⟨A1, c1, rfl, HR1.out x hx, hc1⟩
  have dx := Below.refl w6.heap.size w6
  have HLT : Hid (w1.heap.size < w6.heap.size ∧ w3.heap.size < w6.heap.size ∧ w5.heap.size < w6.heap.size) := ⟨X1.lt, X2.lt, xn.lt⟩
  clear y1 al xn x1 x2 X1 X2 r4 q4 r6 q6 p6 o5 d5 d6 b4 CS
  obtain ⟨y1, y2, y3⟩ := HF.out _ dx
  go_wp2_with fail
  refine (sameShard_is _ _ xs _ (HS2.out _ dx) (HS3.out _ dx) (HSX.out.fit (by omega))).mono ?_
  rintro e w7 ⟨rfl, dn⟩
  replace dx := dx.trans ((dn).mono dx.size)
  clear y1 y2 y3 dn
  obtain ⟨y1, y2, y3⟩ := HF.out _ dx
  cases cm with
  | false =>
    go_wp2_with fail
    refine (sameShard_is _ _ xs _ (HS2.out _ dx) (HS3.out _ dx) (HSX.out.fit (by omega))).mono ?_
    rintro e w8 ⟨rfl, dn⟩
    replace dx := dx.trans ((dn).mono dx.size)
    clear y1 y2 y3 dn
    obtain ⟨y1, y2, y3⟩ := HF.out _ dx
    go_wp2
    go_ret
    exact .mk_ (bw.trans (dx.mono bw.size))
  | true =>
    obtain rfl : kk = 2 := HKK.out
    obtain ⟨vs, hvs⟩ := bool_ofP (Vld rs)
    have CV := hid (specShardValid_is vs _ rs w7 (HS1.out _ dx) (HSM.out.fit (by omega)) hvs)
    have HVS := hid hvs
    clear hvs
    go_wp2_with fail
    refine CV.out.mono ?_
    rintro e w8 ⟨rfl, d8⟩
    replace dx := dx.trans ((d8).mono dx.size)
    clear y1 y2 y3 d8
    obtain ⟨y1, y2, y3⟩ := HF.out _ dx
    clear CV
    cases vs with
    | false =>
      go_wp2_with fail
      refine (sameShard_is _ _ xs _ (HS2.out _ dx) (HS3.out _ dx) (HSX.out.fit (by omega))).mono ?_
      rintro e w9 ⟨rfl, dn⟩
      replace dx := dx.trans ((dn).mono dx.size)
      clear y1 y2 y3 dn
      obtain ⟨y1, y2, y3⟩ := HF.out _ dx
      go_wp2
      go_ret
      exact .mk_ (bw.trans (dx.mono bw.size))
    | true =>
      by_cases h0 : t < 0
      · have e0 : decide (t < 0) = true := decide_eq_true h0
        clear h0
        go_wp2_with fail
        refine (sameShard_is _ _ xs _ (HS2.out _ dx) (HS3.out _ dx) (HSX.out.fit (by omega))).mono ?_
        rintro e w9 ⟨rfl, dn⟩
        replace dx := dx.trans ((dn).mono dx.size)
        clear y1 y2 y3 dn
        obtain ⟨y1, y2, y3⟩ := HF.out _ dx
        go_wp2
        go_ret
        exact .mk_ (bw.trans (dx.mono bw.size))
      · have e0 : decide (t < 0) = false := decide_eq_false h0
        by_cases h1 : 12 ≤ t
        · have e1 : decide (12 ≤ t) = true := decide_eq_true h1
          clear h0 h1
          go_wp2_with fail
          refine (sameShard_is _ _ xs _ (HS2.out _ dx) (HS3.out _ dx) (HSX.out.fit (by omega))).mono ?_
          rintro e w9 ⟨rfl, dn⟩
          replace dx := dx.trans ((dn).mono dx.size)
          clear y1 y2 y3 dn
          obtain ⟨y1, y2, y3⟩ := HF.out _ dx
          go_wp2
          go_ret
          exact .mk_ (bw.trans (dx.mono bw.size))
        · have e1 : decide (12 ≤ t) = false := decide_eq_false h1
          have tv : TV t := ⟨by omega, by omega⟩
          obtain ⟨z, hz⟩ : ∃ z, Sh.ask rs t = z := ⟨_, rfl⟩
          have HB := hid (decided_commit HV.out (HVS.out.1 rfl) tv)
          have CA := hid (implShardAsk_is er0 er1 z _ rs t w8 (HS1.out _ dx) (HEx.out _ dx) (HSM.out.fit (by omega)) (.inl ⟨HVS.out.1 rfl, tv, hz.symm⟩))
          rw [hz] at HB
          clear h0 h1 tv hz
          go_wp2_with fail
          refine CA.out.mono ?_
          rintro e w9 ⟨rfl, d9⟩
          replace dx := dx.trans ((d9).mono dx.size)
          clear y1 y2 y3 d9
          obtain ⟨y1, y2, y3⟩ := HF.out _ dx
          clear CA
          by_cases h2 : z = 2
          · have e2 : (z == 2) = true := by rw [beq_iff_eq]; exact h2
            obtain rfl : b = true := by
              rcases HB.out with ⟨h3, -⟩ | ⟨-, h3, -⟩
              · exact h3
              · exact absurd (.inl h2) h3
            clear h2
            go_wp2
            go_ret
            exact .mk_ (bw.trans (dx.mono bw.size))
          · have e2 : (z == 2) = false := by rw [beq_eq_false_iff_ne]; exact h2
            by_cases h4 : z = 1
            · have e4 : (z == 1) = true := by rw [beq_iff_eq]; exact h4
              by_cases h5 : rs.length < 30
              · have e5 : decide ((rs.length : Int) < 30) = true := decide_eq_true (by omega)
                obtain rfl : b = true := by
                  rcases HB.out with ⟨h3, -⟩ | ⟨-, h3, -⟩
                  · exact h3
                  · exact absurd (.inr ⟨h4, h5⟩) h3
                clear h2 h4 h5
                go_wp2
                go_ret
                exact .mk_ (bw.trans (dx.mono bw.size))
              · have e5 : decide ((rs.length : Int) < 30) = false := decide_eq_false (by omega)
                obtain ⟨rfl, HX⟩ : b = false ∧ Hid (xs = rs) := by
                  rcases HB.out with ⟨-, h3⟩ | ⟨h3, -, h6⟩
                  · omega
                  · exact ⟨h3, h6⟩
                clear h2 h4 h5
                have q2 := HS2.out _ dx
                have CS9 := hid (sameShard_is _ _ xs w9 (HS2.out _ dx) (HX.out.symm ▸ HS1.out _ dx) (HSX.out.fit (by omega)))
                rw [show xs.length = rs.length from by rw [HX.out]] at y2
                have CS8 : Hid (Calls Tryd.prog 18 #[.agg #[.slice A2 rs.length c2], .agg #[.slice A1 rs.length c1]] w9 (Ret (.bool true) w9)) := by
                  have := CS9.out
                  rw [show xs.length = rs.length from by rw [HX.out]] at this
                  exact this
                clear q2 CS9
                go_wp2_with fail
                refine CS8.out.mono ?_
                rintro e w10 ⟨rfl, d10⟩
                replace dx := dx.trans ((d10).mono dx.size)
                clear y1 y2 y3 d10
                obtain ⟨y1, y2, y3⟩ := HF.out _ dx
                go_wp2
                go_ret
                exact .mk_ (bw.trans (dx.mono bw.size))
            · have e4 : (z == 1) = false := by rw [beq_eq_false_iff_ne]; exact h4
              obtain ⟨rfl, HX⟩ : b = false ∧ Hid (xs = rs) := by
                rcases HB.out with ⟨-, h3⟩ | ⟨h3, -, h6⟩
                · omega
                · exact ⟨h3, h6⟩
              clear h2 h4
              have q2 := HS2.out _ dx
              have CS9 := hid (sameShard_is _ _ xs w9 (HS2.out _ dx) (HX.out.symm ▸ HS1.out _ dx) (HSX.out.fit (by omega)))
              rw [show xs.length = rs.length from by rw [HX.out]] at y2
              have CS8 : Hid (Calls Tryd.prog 18 #[.agg #[.slice A2 rs.length c2], .agg #[.slice A1 rs.length c1]] w9 (Ret (.bool true) w9)) := by
                have := CS9.out
                rw [show xs.length = rs.length from by rw [HX.out]] at this
                exact this
              clear q2 CS9
              go_wp2_with fail
              refine CS8.out.mono ?_
              rintro e w10 ⟨rfl, d10⟩
              replace dx := dx.trans ((d10).mono dx.size)
              clear y1 y2 y3 d10
              obtain ⟨y1, y2, y3⟩ := HF.out _ dx
              go_wp2
              go_ret
              exact .mk_ (bw.trans (dx.mono bw.size))
theorem FnDecideUnknown_any (A : Option Addr) (c : Nat) (bs : List Int) (w : World) (f1 : Row w w.heap.size A (bs.map (Value.int .u8))) (f2 : bs.length ≤ c) (f3 : c ≤ maxLen) (f4 : ∀ n ∈ bs, 0 ≤ n ∧ n < 256) (er0 er1 : Addr) (hE : Errs er0 er1 w) :
    Calls Tryd.prog 11 #[.slice A bs.length c] w (Ret (.bool true) w) := by
  by_cases hl : bs.length ≤ 1048576
  · exact FnDecideUnknown_yes A c bs w ⟨f1, f2, f3, f4⟩ hl er0 er1 hE
  · exact FnDecideUnknown_no A c bs w ⟨f1, f2, f3, f4⟩ hl
end Go.Proofs.YteeffchnbkkpfaaDoor
