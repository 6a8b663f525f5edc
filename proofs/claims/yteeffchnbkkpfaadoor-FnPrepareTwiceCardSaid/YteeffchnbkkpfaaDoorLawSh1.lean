/- The coordinator with the slices $SA and $SB is stored as the answer, with the word $BB. -/
/-
  Walks of laws on votes.
-/
import Derived.Test.YteeffchnbkkpfaaDoorShdI
import Derived.Test.YteeffchnbkkpfaaDoorDrawSv
namespace Go.Proofs.YteeffchnbkkpfaaDoor
open Go.RowKit Wo Pu Rf Lk Sh

theorem FnPrepareTwice_no (A : Option Addr) (c : Nat) (bs : List Int) (w : World) (h : Code_ w A c bs) (hl : ¬ bs.length ≤ 1048576) :
    Calls Tryd.prog 6 #[.slice A bs.length c] w (Ret (.bool true) w) := by
  have hc := h.2.1
  have hm := h.2.2.1
  unfold maxLen at hm
  go_enter Tryd.func6, Tryd.ntmps6
  go_wp2
  go_ret
  exact .mk_ (Below.refl _ _)
set_option linter.unusedSimpArgs false in
set_option maxRecDepth 100000 in
set_option maxHeartbeats 4000000 in
theorem FnPrepareTwice_yes (A : Option Addr) (c : Nat) (bs : List Int) (w : World) (h : Code_ w A c bs) (hl : bs.length ≤ 1048576) (er0 er1 : Addr) (HE : Hid (Errs er0 er1 w)) :
    Calls Tryd.prog 6 #[.slice A bs.length c] w (Ret (.bool true) w) := by
  go_enter Tryd.func6, Tryd.ntmps6
  go_wp2_with fail
  refine (DrawShardPrepare_any A c bs _ h).mono ?_
  rintro e w1 ⟨v1, rs, t, AL, cL, us, rfl, s1, hl, hs, ht0, ht1, ru, hul, hcl, bw⟩
  obtain ⟨A1, c1, rfl, r1, hc1⟩ := s1
  unfold shV
  obtain ⟨xs, b, hv⟩ := voted_ex rs t us
  have HV := hid hv
  have HSM := hid hs
  have HSX := hid (voted_small hv hs hul)
  have hlx : xs.length ≤ 31 := Nat.le_succ_of_le (voted_valid hv).2
  have CS := hid (specShardPrepare_is xs b · rs t AL cL us · · (hs.fit (by omega)) · (by omega) hv)
  have CI := hid (implShardPrepare_is er0 er1 xs b · rs t AL cL us · · · (hs.fit (by omega)) · (by omega) hv)
  clear hv hs
  go_upto_region 4 with fail
  have al := (Below.refl (w1).heap.size w1).alloc (Nat.le_refl _) (.cells #[.slice A1 rs.length c1] 25)
  have xn := Blk1.new_ w1 25 (.slice A1 rs.length c1)
  obtain ⟨w2, hw'⟩ : ∃ x, (w1).alloc (.cells #[.slice A1 rs.length c1] 25) = x := ⟨_, rfl⟩
  rw [hw'] at al xn ⊢
  clear hw'
  have x1 := xn
  have z2 := al.size
  have r2 := r1.on al
  have u2 := (ru.below al (Nat.le_refl _)).more z2
  obtain ⟨y1, -⟩ := id x1.reads
  have b2 := bw.trans (al.mono bw.size)
  clear xn al r1 ru bw z2
  go_wp2_with fail
  refine (CI.out _ w2 ⟨A1, c1, rfl, r2, hc1⟩ (HE.out.below b2) u2).mono ?_
  rintro e w3 ⟨v3, rfl, ⟨A2, c2, rfl, o3, hc2⟩, d3⟩
  unfold shV
  go_upto_region 5 with fail
  have al := (Below.refl (w3).heap.size w3).alloc (Nat.le_refl _) (.cells #[.slice A2 xs.length c2] 25)
  have xn := Blk1.new_ w3 25 (.slice A2 xs.length c2)
  obtain ⟨w4, hw'⟩ : ∃ x, (w3).alloc (.cells #[.slice A2 xs.length c2] 25) = x := ⟨_, rfl⟩
  rw [hw'] at al xn ⊢
  clear hw'
  have d4 := d3.trans (al.mono d3.size)
  have r4 := r2.on d4
  have u4 := (u2.below d4 (Nat.le_refl _)).more d4.size
  have q4 := (OwnSh.mk_ (o3.below al)).shd
  have x2 := xn
  replace x1 := x1.later d4
  have b4 := b2.trans (d4.mono b2.size)
  clear y1
  obtain ⟨y1, -⟩ := id x1.reads
  clear xn al r2 u2 b2 d3 d4 o3 CI
  go_wp2_with fail
  refine (CS.out _ w4 ⟨A1, c1, rfl, r4, hc1⟩ u4).mono ?_
  rintro e w5 ⟨v5, rfl, ⟨A3, c3, rfl, o5, hc3⟩, d5⟩
  unfold shV
  go_upto_region 6 with fail
  have al := (Below.refl (w5).heap.size w5).alloc (Nat.le_refl _) (.cells #[.slice A3 xs.length c3] 25)
  have xn := Blk1.new_ w5 25 (.slice A3 xs.length c3)
  obtain ⟨w6, hw'⟩ : ∃ x, (w5).alloc (.cells #[.slice A3 xs.length c3] 25) = x := ⟨_, rfl⟩
  rw [hw'] at al xn ⊢
  clear hw'
  have d6 := d5.trans (al.mono d5.size)
  have r6 := r4.on d6
  have u6 := (u4.below d6 (Nat.le_refl _)).more d6.size
  have q6 := q4.on d6 d6.size
  have p6 := (OwnSh.mk_ (o5.below al)).shd
  have bw := b4.trans (d6.mono b4.size)
  have X1 := x1.later d6
  have X2 := x2.later d6
  have HEx : Hid (∀ x, Below w6.heap.size w6 x → Errs er0 er1 x) := fun x hx => HE.out.below (bw.trans (hx.mono bw.size))
  have HF : Hid (∀ x, Below w6.heap.size w6 x → x.cell? ⟨w1.heap.size, 0, none⟩ = some (.slice A1 rs.length c1) ∧ x.cell? ⟨w3.heap.size, 0, none⟩ = some (.slice A2 xs.length c2) ∧ x.cell? ⟨w5.heap.size, 0, none⟩ = some (.slice A3 xs.length c3)) := fun x hx => ⟨(X1.later hx).reads.1, (X2.later hx).reads.1, (xn.later hx).reads.1⟩
  have HR1 : Hid (∀ x, Below w6.heap.size w6 x → Recs x x.heap.size A1 rs) := fun x hx => r6.on hx
  have HS2 : Hid (∀ x, Below w6.heap.size w6 x → Shd x x.heap.size (.agg #[.slice A2 xs.length c2]) xs) := fun x hx => q6.on hx hx.size
  have HS3 : Hid (∀ x, Below w6.heap.size w6 x → Shd x x.heap.size (.agg #[.slice A3 xs.length c3]) xs) := fun x hx => p6.on hx hx.size
  have HU : Hid (∀ x, Below w6.heap.size w6 x → Row x x.heap.size AL (upsV us)) := fun x hx => (u6.below hx (Nat.le_refl _)).more hx.size
  have HS1 : Hid (∀ x, Below w6.heap.size w6 x → Shd x x.heap.size (.agg #[.slice A1 rs.length c1]) rs) := fun x hx => ⟨A1, c1, rfl, HR1.out x hx, hc1⟩
  have dx := Below.refl w6.heap.size w6
  have HLT : Hid (w1.heap.size < w6.heap.size ∧ w3.heap.size < w6.heap.size ∧ w5.heap.size < w6.heap.size) := ⟨X1.lt, X2.lt, xn.lt⟩
  clear y1 al xn x1 x2 X1 X2 r4 u4 q4 r6 u6 q6 p6 o5 d5 d6 b4 CS
  obtain ⟨y1, y2, y3⟩ := HF.out _ dx
  go_wp2_with fail
  refine (sameShard_is _ _ xs _ (HS2.out _ dx) (HS3.out _ dx) (HSX.out.fit (by omega))).mono ?_
  rintro e w7 ⟨rfl, dn⟩
  replace dx := dx.trans ((dn).mono dx.size)
  clear y1 y2 y3 dn
  obtain ⟨y1, y2, y3⟩ := HF.out _ dx
  by_cases h0 : xs.length = 0
  · have e0 : ((xs.length : Int) == 0) = true := by rw [beq_iff_eq]; omega
    clear h0
    go_wp2_with fail
    refine (sameShard_is _ _ xs _ (HS2.out _ dx) (HS3.out _ dx) (HSX.out.fit (by omega))).mono ?_
    rintro e w8 ⟨rfl, dn⟩
    replace dx := dx.trans ((dn).mono dx.size)
    clear y1 y2 y3 dn
    obtain ⟨y1, y2, y3⟩ := HF.out _ dx
    go_wp2
    go_ret
    exact .mk_ (bw.trans (dx.mono bw.size))
  · have e0 : ((xs.length : Int) == 0) = false := by rw [beq_eq_false_iff_ne]; omega
    by_cases h3 : rs.length = 30
    · have e3 : ((rs.length : Int) == 30) = true := by rw [beq_iff_eq]; omega
      clear h0 h3
      go_wp2_with fail
      refine (sameShard_is _ _ xs _ (HS2.out _ dx) (HS3.out _ dx) (HSX.out.fit (by omega))).mono ?_
      rintro e w8 ⟨rfl, dn⟩
      replace dx := dx.trans ((dn).mono dx.size)
      clear y1 y2 y3 dn
      obtain ⟨y1, y2, y3⟩ := HF.out _ dx
      go_wp2
      go_ret
      exact .mk_ (bw.trans (dx.mono bw.size))
    · have e3 : ((rs.length : Int) == 30) = false := by rw [beq_eq_false_iff_ne]; omega
      have HT := voted_twice HV.out (fun e => h0 (by rw [e]; rfl)) h3
      have CT := hid (implShardPrepare_is er0 er1 xs b _ xs t AL cL us w7 (HS2.out _ dx) (HEx.out _ dx) (HSX.out.fit (by omega)) (HU.out _ dx) (by omega) HT)
      clear h0 h3 HT
      go_wp2_with fail
      refine CT.out.mono ?_
      rintro e w8 ⟨v8, rfl, ⟨A4, c4, rfl, o8, hc4⟩, d8⟩
      unfold shV
      have s8 := (OwnSh.mk_ o8).shd
      clear o8 CT
      replace dx := dx.trans ((d8).mono dx.size)
      clear y1 y2 y3 d8
      obtain ⟨y1, y2, y3⟩ := HF.out _ dx
      go_upto_region 9 with fail
      have al := (Below.refl (w8).heap.size w8).alloc (Nat.le_refl _) (.cells #[.slice A4 xs.length c4] 25)
      have xn := Blk1.new_ w8 25 (.slice A4 xs.length c4)
      obtain ⟨w9, hw'⟩ : ∃ x, (w8).alloc (.cells #[.slice A4 xs.length c4] 25) = x := ⟨_, rfl⟩
      rw [hw'] at al xn ⊢
      clear hw'
      have s9 := s8.on al al.size
      have x4 := xn
      replace dx := dx.trans ((al).mono dx.size)
      clear y1 y2 y3 al
      obtain ⟨y1, y2, y3⟩ := HF.out _ dx
      obtain ⟨y4, -⟩ := id x4.reads
      go_wp2_with fail
      refine (sameShard_is _ _ xs _ s9 (HS2.out _ dx) (HSX.out.fit (by omega))).mono ?_
      rintro e w10 ⟨rfl, d10⟩
      replace dx := dx.trans ((d10).mono dx.size)
      clear y1 y2 y3 d10
      obtain ⟨y1, y2, y3⟩ := HF.out _ dx
      clear y4
      go_wp2
      go_ret
      exact .mk_ (bw.trans (dx.mono bw.size))
theorem FnPrepareTwice_any (A : Option Addr) (c : Nat) (bs : List Int) (w : World) (f1 : Row w w.heap.size A (bs.map (Value.int .u8))) (f2 : bs.length ≤ c) (f3 : c ≤ maxLen) (f4 : ∀ n ∈ bs, 0 ≤ n ∧ n < 256) (er0 er1 : Addr) (hE : Errs er0 er1 w) :
    Calls Tryd.prog 6 #[.slice A bs.length c] w (Ret (.bool true) w) := by
  by_cases hl : bs.length ≤ 1048576
  · exact FnPrepareTwice_yes A c bs w ⟨f1, f2, f3, f4⟩ hl er0 er1 hE
  · exact FnPrepareTwice_no A c bs w ⟨f1, f2, f3, f4⟩ hl
theorem FnPrepareAgain_no (A : Option Addr) (c : Nat) (bs : List Int) (w : World) (h : Code_ w A c bs) (hl : ¬ bs.length ≤ 1048576) :
    Calls Tryd.prog 5 #[.slice A bs.length c] w (Ret (.bool true) w) := by
  have hc := h.2.1
  have hm := h.2.2.1
  unfold maxLen at hm
  go_enter Tryd.func5, Tryd.ntmps5
  go_wp2
  go_ret
  exact .mk_ (Below.refl _ _)
set_option linter.unusedSimpArgs false in
set_option maxRecDepth 100000 in
set_option maxHeartbeats 4000000 in
theorem FnPrepareAgain_yes (A : Option Addr) (c : Nat) (bs : List Int) (w : World) (h : Code_ w A c bs) (hl : bs.length ≤ 1048576) (er0 er1 : Addr) (HE : Hid (Errs er0 er1 w)) :
    Calls Tryd.prog 5 #[.slice A bs.length c] w (Ret (.bool true) w) := by
  go_enter Tryd.func5, Tryd.ntmps5
  go_wp2_with fail
  refine (DrawShardPrepare_any A c bs _ h).mono ?_
  rintro e w1 ⟨v1, rs, t, AL, cL, us, rfl, s1, hl, hs, ht0, ht1, ru, hul, hcl, bw⟩
  obtain ⟨A1, c1, rfl, r1, hc1⟩ := s1
  unfold shV
  obtain ⟨xs, b, hv⟩ := voted_ex rs t us
  have HV := hid hv
  have HSM := hid hs
  have HSX := hid (voted_small hv hs hul)
  have hlx : xs.length ≤ 31 := Nat.le_succ_of_le (voted_valid hv).2
  have CS := hid (specShardPrepare_is xs b · rs t AL cL us · · (hs.fit (by omega)) · (by omega) hv)
  have CI := hid (implShardPrepare_is er0 er1 xs b · rs t AL cL us · · · (hs.fit (by omega)) · (by omega) hv)
  clear hv hs
  go_upto_region 4 with fail
  have al := (Below.refl (w1).heap.size w1).alloc (Nat.le_refl _) (.cells #[.slice A1 rs.length c1] 25)
  have xn := Blk1.new_ w1 25 (.slice A1 rs.length c1)
  obtain ⟨w2, hw'⟩ : ∃ x, (w1).alloc (.cells #[.slice A1 rs.length c1] 25) = x := ⟨_, rfl⟩
  rw [hw'] at al xn ⊢
  clear hw'
  have x1 := xn
  have z2 := al.size
  have r2 := r1.on al
  have u2 := (ru.below al (Nat.le_refl _)).more z2
  obtain ⟨y1, -⟩ := id x1.reads
  have b2 := bw.trans (al.mono bw.size)
  clear xn al r1 ru bw z2
  go_wp2_with fail
  refine (CI.out _ w2 ⟨A1, c1, rfl, r2, hc1⟩ (HE.out.below b2) u2).mono ?_
  rintro e w3 ⟨v3, rfl, ⟨A2, c2, rfl, o3, hc2⟩, d3⟩
  unfold shV
  go_upto_region 5 with fail
  have al := (Below.refl (w3).heap.size w3).alloc (Nat.le_refl _) (.cells #[.slice A2 xs.length c2] 25)
  have xn := Blk1.new_ w3 25 (.slice A2 xs.length c2)
  obtain ⟨w4, hw'⟩ : ∃ x, (w3).alloc (.cells #[.slice A2 xs.length c2] 25) = x := ⟨_, rfl⟩
  rw [hw'] at al xn ⊢
  clear hw'
  have d4 := d3.trans (al.mono d3.size)
  have r4 := r2.on d4
  have u4 := (u2.below d4 (Nat.le_refl _)).more d4.size
  have q4 := (OwnSh.mk_ (o3.below al)).shd
  have x2 := xn
  replace x1 := x1.later d4
  have b4 := b2.trans (d4.mono b2.size)
  clear y1
  obtain ⟨y1, -⟩ := id x1.reads
  clear xn al r2 u2 b2 d3 d4 o3 CI
  go_wp2_with fail
  refine (CS.out _ w4 ⟨A1, c1, rfl, r4, hc1⟩ u4).mono ?_
  rintro e w5 ⟨v5, rfl, ⟨A3, c3, rfl, o5, hc3⟩, d5⟩
  unfold shV
  go_upto_region 6 with fail
  have al := (Below.refl (w5).heap.size w5).alloc (Nat.le_refl _) (.cells #[.slice A3 xs.length c3] 25)
  have xn := Blk1.new_ w5 25 (.slice A3 xs.length c3)
  obtain ⟨w6, hw'⟩ : ∃ x, (w5).alloc (.cells #[.slice A3 xs.length c3] 25) = x := ⟨_, rfl⟩
  rw [hw'] at al xn ⊢
  clear hw'
  have d6 := d5.trans (al.mono d5.size)
  have r6 := r4.on d6
  have u6 := (u4.below d6 (Nat.le_refl _)).more d6.size
  have q6 := q4.on d6 d6.size
  have p6 := (OwnSh.mk_ (o5.below al)).shd
  have bw := b4.trans (d6.mono b4.size)
  have X1 := x1.later d6
  have X2 := x2.later d6
  have HEx : Hid (∀ x, Below w6.heap.size w6 x → Errs er0 er1 x) := fun x hx => HE.out.below (bw.trans (hx.mono bw.size))
  have HF : Hid (∀ x, Below w6.heap.size w6 x → x.cell? ⟨w1.heap.size, 0, none⟩ = some (.slice A1 rs.length c1) ∧ x.cell? ⟨w3.heap.size, 0, none⟩ = some (.slice A2 xs.length c2) ∧ x.cell? ⟨w5.heap.size, 0, none⟩ = some (.slice A3 xs.length c3)) := fun x hx => ⟨(X1.later hx).reads.1, (X2.later hx).reads.1, (xn.later hx).reads.1⟩
  have HR1 : Hid (∀ x, Below w6.heap.size w6 x → Recs x x.heap.size A1 rs) := fun x hx => r6.on hx
  have HS2 : Hid (∀ x, Below w6.heap.size w6 x → Shd x x.heap.size (.agg #[.slice A2 xs.length c2]) xs) := fun x hx => q6.on hx hx.size
  have HS3 : Hid (∀ x, Below w6.heap.size w6 x → Shd x x.heap.size (.agg #[.slice A3 xs.length c3]) xs) := fun x hx => p6.on hx hx.size
  have HU : Hid (∀ x, Below w6.heap.size w6 x → Row x x.heap.size AL (upsV us)) := fun x hx => (u6.below hx (Nat.le_refl _)).more hx.size
  have HS1 : Hid (∀ x, Below w6.heap.size w6 x → Shd x x.heap.size (.agg #[.slice A1 rs.length c1]) rs) := fun x hx => ⟨A1, c1, rfl, HR1.out x hx, hc1⟩
  have dx := Below.refl w6.heap.size w6
  have HLT : Hid (w1.heap.size < w6.heap.size ∧ w3.heap.size < w6.heap.size ∧ w5.heap.size < w6.heap.size) := ⟨X1.lt, X2.lt, xn.lt⟩
  clear y1 al xn x1 x2 X1 X2 r4 u4 q4 r6 u6 q6 p6 o5 d5 d6 b4 CS
  obtain ⟨y1, y2, y3⟩ := HF.out _ dx
  go_wp2_with fail
  refine (sameShard_is _ _ xs _ (HS2.out _ dx) (HS3.out _ dx) (HSX.out.fit (by omega))).mono ?_
  rintro e w7 ⟨rfl, dn⟩
  replace dx := dx.trans ((dn).mono dx.size)
  clear y1 y2 y3 dn
  obtain ⟨y1, y2, y3⟩ := HF.out _ dx
  obtain ⟨z, hz⟩ : ∃ z : Int, (Vld rs ∧ TV t ∧ z = Sh.ask rs t) ∨ (¬ (Vld rs ∧ TV t) ∧ z = -1) := by
    by_cases e : Vld rs ∧ TV t
    · exact ⟨_, .inl ⟨e.1, e.2, rfl⟩⟩
    · exact ⟨_, .inr ⟨e, rfl⟩⟩
  have HZ := hid hz
  clear hz
  go_wp2_with fail
  refine (specShardAsk_is z _ rs t w7 (HS1.out _ dx) (HSM.out.fit (by omega)) HZ.out).mono ?_
  rintro e w8 ⟨rfl, dn⟩
  replace dx := dx.trans ((dn).mono dx.size)
  clear y1 y2 y3 dn
  obtain ⟨y1, y2, y3⟩ := HF.out _ dx
  by_cases h0 : z ≤ 0
  · have e0 : decide (z ≤ 0) = true := decide_eq_true h0
    clear h0
    go_wp2_with fail
    refine (sameShard_is _ _ xs _ (HS2.out _ dx) (HS3.out _ dx) (HSX.out.fit (by omega))).mono ?_
    rintro e w9 ⟨rfl, dn⟩
    replace dx := dx.trans ((dn).mono dx.size)
    clear y1 y2 y3 dn
    obtain ⟨y1, y2, y3⟩ := HF.out _ dx
    go_wp2
    go_ret
    exact .mk_ (bw.trans (dx.mono bw.size))
  · have e0 : decide (z ≤ 0) = false := decide_eq_false h0
    obtain ⟨vu, hvu⟩ := bool_of (UV us)
    have HVU := hid hvu
    clear hvu
    go_wp2_with fail
    refine (specUpdatesValid_is vu AL cL us w8 (HU.out _ dx) (by omega) HVU.out).mono ?_
    rintro e w9 ⟨rfl, dn⟩
    replace dx := dx.trans ((dn).mono dx.size)
    clear y1 y2 y3 dn
    obtain ⟨y1, y2, y3⟩ := HF.out _ dx
    cases vu with
    | false =>
      clear h0
      go_wp2_with fail
      refine (sameShard_is _ _ xs _ (HS2.out _ dx) (HS3.out _ dx) (HSX.out.fit (by omega))).mono ?_
      rintro e w10 ⟨rfl, dn⟩
      replace dx := dx.trans ((dn).mono dx.size)
      clear y1 y2 y3 dn
      obtain ⟨y1, y2, y3⟩ := HF.out _ dx
      go_wp2
      go_ret
      exact .mk_ (bw.trans (dx.mono bw.size))
    | true =>
      have HK : Hid (xs = rs ∧ b = (z == 1)) := by
        rcases HZ.out with ⟨h1, h2, h3⟩ | ⟨-, h3⟩
        · have := HV.out.known_ h1 h2 (HVU.out.1 rfl) (by omega)
          rw [← h3] at this
          exact this
        · omega
      have CA := hid (implShardAsk_is er0 er1 z · rs t · · · (HSM.out.fit (by omega)) HZ.out)
      clear h0
      obtain ⟨hk1, hk2⟩ := HK.out
      subst hk1
      go_wp2_with fail
      refine (sameShard_is _ _ xs _ (HS2.out _ dx) (HS1.out _ dx) (HSX.out.fit (by omega))).mono ?_
      rintro e w10 ⟨rfl, d10⟩
      replace dx := dx.trans ((d10).mono dx.size)
      clear y1 y2 y3 d10
      obtain ⟨y1, y2, y3⟩ := HF.out _ dx
      go_wp2_with fail
      refine (CA.out _ w10 (HS1.out _ dx) (HEx.out _ dx)).mono ?_
      rintro e w11 ⟨rfl, d11⟩
      replace dx := dx.trans ((d11).mono dx.size)
      clear y1 y2 y3 d11
      obtain ⟨y1, y2, y3⟩ := HF.out _ dx
      have e9 : (b == (z == 1)) = true := by rw [hk2]; simp
      go_wp2
      go_ret
      exact .mk_ (bw.trans (dx.mono bw.size))
theorem FnPrepareAgain_any (A : Option Addr) (c : Nat) (bs : List Int) (w : World) (f1 : Row w w.heap.size A (bs.map (Value.int .u8))) (f2 : bs.length ≤ c) (f3 : c ≤ maxLen) (f4 : ∀ n ∈ bs, 0 ≤ n ∧ n < 256) (er0 er1 : Addr) (hE : Errs er0 er1 w) :
    Calls Tryd.prog 5 #[.slice A bs.length c] w (Ret (.bool true) w) := by
  by_cases hl : bs.length ≤ 1048576
  · exact FnPrepareAgain_yes A c bs w ⟨f1, f2, f3, f4⟩ hl er0 er1 hE
  · exact FnPrepareAgain_no A c bs w ⟨f1, f2, f3, f4⟩ hl
theorem prep_no {rs xs : List Rec} {t : Int} {us : List Up} (h : Voted rs t us xs false) (h1 : Vld rs) (h2 : TV t) (h3 : UV us) (ha : Sh.ask rs t = 0) :
    ∃ s, Rcv rs s ∧ Rcv xs s ∧ ((Sh.ask xs t = 3 ∧ rs.length < 30) ∨ (rs.length = 30 ∧ xs = rs)) := by
  obtain ⟨⟨s, hs⟩, hl⟩ := id h1
  rcases h.new_ h1 h2 h3 ha with ⟨_, _, e⟩ | ⟨_, _, b3, hb3, e⟩
  · cases e
  · have ab := Vld.abort_iff hs h2
    cases b3 with
    | true =>
      simp only [if_true] at e
      subst e
      refine ⟨s, hs, ?_, .inl ⟨by rw [ask_snoc, if_pos rfl], (ab.1 (hb3.1 rfl)).1⟩⟩
      have st : Rcv (rs ++ [⟨3, t, []⟩]) ⟨s.refs, freeL t s.locks⟩ := .snoc hs h2 (.abort rfl (.inl ha) rfl)
      have hn : t ∉ s.locks := fun e => by have := (hs.inv.has h2).1 e; omega
      have e9 : freeL t s.locks = s.locks := by
        unfold freeL
        refine (List.map_congr_left fun z hz => ?_).trans (List.map_id _)
        unfold free1
        rw [if_neg fun e => hn (by rw [← e]; exact hz)]
        rfl
      rw [e9] at st
      exact st
    | false =>
      simp only [Bool.false_eq_true, if_false] at e
      subst e
      have : ¬ xs.length < 30 := fun e => by have := hb3.2 (ab.2 ⟨e, .inl ha⟩); cases this
      exact ⟨s, hs, hs, .inr ⟨by omega, rfl⟩⟩
theorem FnPrepareNo_no (A : Option Addr) (c : Nat) (bs : List Int) (w : World) (h : Code_ w A c bs) (hl : ¬ bs.length ≤ 1048576) :
    Calls Tryd.prog 4 #[.slice A bs.length c] w (Ret (.bool true) w) := by
  have hc := h.2.1
  have hm := h.2.2.1
  unfold maxLen at hm
  go_enter Tryd.func4, Tryd.ntmps4
  go_wp2
  go_ret
  exact .mk_ (Below.refl _ _)
set_option linter.unusedSimpArgs false in
set_option maxRecDepth 100000 in
set_option maxHeartbeats 4000000 in
theorem FnPrepareNo_yes (A : Option Addr) (c : Nat) (bs : List Int) (w : World) (h : Code_ w A c bs) (hl : bs.length ≤ 1048576) (er0 er1 : Addr) (HE : Hid (Errs er0 er1 w)) :
    Calls Tryd.prog 4 #[.slice A bs.length c] w (Ret (.bool true) w) := by
  go_enter Tryd.func4, Tryd.ntmps4
  go_wp2_with fail
  refine (DrawShardPrepare_any A c bs _ h).mono ?_
  rintro e w1 ⟨v1, rs, t, AL, cL, us, rfl, s1, hl, hs, ht0, ht1, ru, hul, hcl, bw⟩
  obtain ⟨A1, c1, rfl, r1, hc1⟩ := s1
  unfold shV
  obtain ⟨xs, b, hv⟩ := voted_ex rs t us
  have HV := hid hv
  have HSM := hid hs
  have HSX := hid (voted_small hv hs hul)
  have hlx : xs.length ≤ 31 := Nat.le_succ_of_le (voted_valid hv).2
  have CS := hid (specShardPrepare_is xs b · rs t AL cL us · · (hs.fit (by omega)) · (by omega) hv)
  have CI := hid (implShardPrepare_is er0 er1 xs b · rs t AL cL us · · · (hs.fit (by omega)) · (by omega) hv)
  clear hv hs
  go_upto_region 4 with fail
  have al := (Below.refl (w1).heap.size w1).alloc (Nat.le_refl _) (.cells #[.slice A1 rs.length c1] 25)
  have xn := Blk1.new_ w1 25 (.slice A1 rs.length c1)
  obtain ⟨w2, hw'⟩ : ∃ x, (w1).alloc (.cells #[.slice A1 rs.length c1] 25) = x := ⟨_, rfl⟩
  rw [hw'] at al xn ⊢
  clear hw'
  have x1 := xn
  have z2 := al.size
  have r2 := r1.on al
  have u2 := (ru.below al (Nat.le_refl _)).more z2
  obtain ⟨y1, -⟩ := id x1.reads
  have b2 := bw.trans (al.mono bw.size)
  clear xn al r1 ru bw z2
  go_wp2_with fail
  refine (CI.out _ w2 ⟨A1, c1, rfl, r2, hc1⟩ (HE.out.below b2) u2).mono ?_
  rintro e w3 ⟨v3, rfl, ⟨A2, c2, rfl, o3, hc2⟩, d3⟩
  unfold shV
  go_upto_region 5 with fail
  have al := (Below.refl (w3).heap.size w3).alloc (Nat.le_refl _) (.cells #[.slice A2 xs.length c2] 25)
  have xn := Blk1.new_ w3 25 (.slice A2 xs.length c2)
  obtain ⟨w4, hw'⟩ : ∃ x, (w3).alloc (.cells #[.slice A2 xs.length c2] 25) = x := ⟨_, rfl⟩
  rw [hw'] at al xn ⊢
  clear hw'
  have d4 := d3.trans (al.mono d3.size)
  have r4 := r2.on d4
  have u4 := (u2.below d4 (Nat.le_refl _)).more d4.size
  have q4 := (OwnSh.mk_ (o3.below al)).shd
  have x2 := xn
  replace x1 := x1.later d4
  have b4 := b2.trans (d4.mono b2.size)
  clear y1
  obtain ⟨y1, -⟩ := id x1.reads
  clear xn al r2 u2 b2 d3 d4 o3 CI
  go_wp2_with fail
  refine (CS.out _ w4 ⟨A1, c1, rfl, r4, hc1⟩ u4).mono ?_
  rintro e w5 ⟨v5, rfl, ⟨A3, c3, rfl, o5, hc3⟩, d5⟩
  unfold shV
  go_upto_region 6 with fail
  have al := (Below.refl (w5).heap.size w5).alloc (Nat.le_refl _) (.cells #[.slice A3 xs.length c3] 25)
  have xn := Blk1.new_ w5 25 (.slice A3 xs.length c3)
  obtain ⟨w6, hw'⟩ : ∃ x, (w5).alloc (.cells #[.slice A3 xs.length c3] 25) = x := ⟨_, rfl⟩
  rw [hw'] at al xn ⊢
  clear hw'
  have d6 := d5.trans (al.mono d5.size)
  have r6 := r4.on d6
  have u6 := (u4.below d6 (Nat.le_refl _)).more d6.size
  have q6 := q4.on d6 d6.size
  have p6 := (OwnSh.mk_ (o5.below al)).shd
  have bw := b4.trans (d6.mono b4.size)
  have X1 := x1.later d6
  have X2 := x2.later d6
  have HEx : Hid (∀ x, Below w6.heap.size w6 x → Errs er0 er1 x) := fun x hx => HE.out.below (bw.trans (hx.mono bw.size))
  have HF : Hid (∀ x, Below w6.heap.size w6 x → x.cell? ⟨w1.heap.size, 0, none⟩ = some (.slice A1 rs.length c1) ∧ x.cell? ⟨w3.heap.size, 0, none⟩ = some (.slice A2 xs.length c2) ∧ x.cell? ⟨w5.heap.size, 0, none⟩ = some (.slice A3 xs.length c3)) := fun x hx => ⟨(X1.later hx).reads.1, (X2.later hx).reads.1, (xn.later hx).reads.1⟩
  have HR1 : Hid (∀ x, Below w6.heap.size w6 x → Recs x x.heap.size A1 rs) := fun x hx => r6.on hx
  have HS2 : Hid (∀ x, Below w6.heap.size w6 x → Shd x x.heap.size (.agg #[.slice A2 xs.length c2]) xs) := fun x hx => q6.on hx hx.size
  have HS3 : Hid (∀ x, Below w6.heap.size w6 x → Shd x x.heap.size (.agg #[.slice A3 xs.length c3]) xs) := fun x hx => p6.on hx hx.size
  have HU : Hid (∀ x, Below w6.heap.size w6 x → Row x x.heap.size AL (upsV us)) := fun x hx => (u6.below hx (Nat.le_refl _)).more hx.size
  have HS1 : Hid (∀ x, Below w6.heap.size w6 x → Shd x x.heap.size (.agg #[.slice A1 rs.length c1]) rs) := fun x hx => ⟨A1, c1, rfl, HR1.out x hx, hc1⟩
  have dx := Below.refl w6.heap.size w6
  have HLT : Hid (w1.heap.size < w6.heap.size ∧ w3.heap.size < w6.heap.size ∧ w5.heap.size < w6.heap.size) := ⟨X1.lt, X2.lt, xn.lt⟩
  clear y1 al xn x1 x2 X1 X2 r4 u4 q4 r6 u6 q6 p6 o5 d5 d6 b4 CS
  obtain ⟨y1, y2, y3⟩ := HF.out _ dx
  go_wp2_with fail
  refine (sameShard_is _ _ xs _ (HS2.out _ dx) (HS3.out _ dx) (HSX.out.fit (by omega))).mono ?_
  rintro e w7 ⟨rfl, dn⟩
  replace dx := dx.trans ((dn).mono dx.size)
  clear y1 y2 y3 dn
  obtain ⟨y1, y2, y3⟩ := HF.out _ dx
  cases b with
  | true =>
    go_wp2_with fail
    refine (sameShard_is _ _ xs _ (HS2.out _ dx) (HS3.out _ dx) (HSX.out.fit (by omega))).mono ?_
    rintro e w8 ⟨rfl, dn⟩
    replace dx := dx.trans ((dn).mono dx.size)
    clear y1 y2 y3 dn
    obtain ⟨y1, y2, y3⟩ := HF.out _ dx
    go_wp2
    go_ret
    exact .mk_ (bw.trans (dx.mono bw.size))
  | false =>
    obtain ⟨z, hz⟩ : ∃ z : Int, (Vld rs ∧ TV t ∧ z = Sh.ask rs t) ∨ (¬ (Vld rs ∧ TV t) ∧ z = -1) := by
      by_cases e : Vld rs ∧ TV t
      · exact ⟨_, .inl ⟨e.1, e.2, rfl⟩⟩
      · exact ⟨_, .inr ⟨e, rfl⟩⟩
    have HZ := hid hz
    clear hz
    go_wp2_with fail
    refine (specShardAsk_is z _ rs t w7 (HS1.out _ dx) (HSM.out.fit (by omega)) HZ.out).mono ?_
    rintro e w8 ⟨rfl, dn⟩
    replace dx := dx.trans ((dn).mono dx.size)
    clear y1 y2 y3 dn
    obtain ⟨y1, y2, y3⟩ := HF.out _ dx
    by_cases h0 : z = 0
    · subst h0
      by_cases h1 : xs.length = 0
      · have e1 : ((xs.length : Int) == 0) = true := by rw [beq_iff_eq]; omega
        clear h1
        go_wp2_with fail
        refine (sameShard_is _ _ xs _ (HS2.out _ dx) (HS3.out _ dx) (HSX.out.fit (by omega))).mono ?_
        rintro e w9 ⟨rfl, dn⟩
        replace dx := dx.trans ((dn).mono dx.size)
        clear y1 y2 y3 dn
        obtain ⟨y1, y2, y3⟩ := HF.out _ dx
        go_wp2
        go_ret
        exact .mk_ (bw.trans (dx.mono bw.size))
      · have e1 : ((xs.length : Int) == 0) = false := by rw [beq_eq_false_iff_ne]; omega
        clear h1
        obtain ⟨vu, hvu⟩ := bool_of (UV us)
        have HVU := hid hvu
        clear hvu
        go_wp2_with fail
        refine (specUpdatesValid_is vu AL cL us w8 (HU.out _ dx) (by omega) HVU.out).mono ?_
        rintro e w9 ⟨rfl, dn⟩
        replace dx := dx.trans ((dn).mono dx.size)
        clear y1 y2 y3 dn
        obtain ⟨y1, y2, y3⟩ := HF.out _ dx
        cases vu with
        | false =>
          go_wp2_with fail
          refine (sameShard_is _ _ xs _ (HS2.out _ dx) (HS3.out _ dx) (HSX.out.fit (by omega))).mono ?_
          rintro e w10 ⟨rfl, dn⟩
          replace dx := dx.trans ((dn).mono dx.size)
          clear y1 y2 y3 dn
          obtain ⟨y1, y2, y3⟩ := HF.out _ dx
          go_wp2
          go_ret
          exact .mk_ (bw.trans (dx.mono bw.size))
        | true =>
          have HZ0 : Hid (Vld rs ∧ TV t ∧ Sh.ask rs t = 0) := by
            rcases HZ.out with ⟨h2, h3, h4⟩ | ⟨-, h4⟩
            · exact ⟨h2, h3, h4.symm⟩
            · omega
          obtain ⟨s, hs1, hs2, hs3⟩ := prep_no HV.out HZ0.out.1 HZ0.out.2.1 (HVU.out.1 rfl) HZ0.out.2.2
          have C1 := hid (implShardRecover_is er0 er1 true s _ rs w9 (HS1.out _ dx) (HEx.out _ dx) (HSM.out.fit (by omega)) (.inl ⟨rfl, hs1, HZ0.out.1.2⟩))
          have C2 := hid (implShardRecover_is er0 er1 true s · xs · · · (HSX.out.fit (by omega)) (.inl ⟨rfl, hs2, (voted_valid HV.out).2⟩))
          have H4 := hid (show Four s from Rcv.four hs1)
          have HK := hid hs3
          have CA := hid (implShardAsk_is er0 er1 (Sh.ask xs t) · xs t · · · (HSX.out.fit (by omega)) (.inl ⟨voted_valid HV.out, HZ0.out.2.1, rfl⟩))
          clear hs1 hs2 hs3 HZ0
          go_wp2_with fail
          refine C1.out.mono ?_
          rintro e w10 ⟨v10, rfl, sa, d10⟩
          obtain ⟨Ba, ca, Bb, cb, rfl, -⟩ := id sa
          unfold stV
          replace dx := dx.trans ((d10).mono dx.size)
          clear y1 y2 y3 d10
          obtain ⟨y1, y2, y3⟩ := HF.out _ dx
          go_upto_region 9 with fail
          have al := (Below.refl (w10).heap.size w10).alloc (Nat.le_refl _) (.cells #[.slice Ba s.refs.length ca, .slice Bb s.locks.length cb] 35)
          have xn := Blk2s.new_ w10 35 (.slice Ba s.refs.length ca) (.slice Bb s.locks.length cb)
          obtain ⟨w11, hw'⟩ : ∃ x, (w10).alloc (.cells #[.slice Ba s.refs.length ca, .slice Bb s.locks.length cb] 35) = x := ⟨_, rfl⟩
          rw [hw'] at al xn ⊢
          clear hw'
          have xa := xn
          replace sa := sa.on al al.size
          replace dx := dx.trans ((al).mono dx.size)
          clear y1 y2 y3 al
          obtain ⟨y1, y2, y3⟩ := HF.out _ dx
          clear xn C1
          go_wp2_with fail
          refine (C2.out _ w11 (HS2.out _ dx) (HEx.out _ dx)).mono ?_
          rintro e w12 ⟨v12, rfl, sb, d12⟩
          obtain ⟨Bc, cc, Bd, cd, rfl, -⟩ := id sb
          unfold stV
          replace xa := xa.later d12
          replace sa := sa.on d12 d12.size
          replace dx := dx.trans ((d12).mono dx.size)
          clear y1 y2 y3 d12
          obtain ⟨y1, y2, y3⟩ := HF.out _ dx
          go_upto_region 10 with fail
          have al := (Below.refl (w12).heap.size w12).alloc (Nat.le_refl _) (.cells #[.slice Bc s.refs.length cc, .slice Bd s.locks.length cd] 35)
          have xn := Blk2s.new_ w12 35 (.slice Bc s.refs.length cc) (.slice Bd s.locks.length cd)
          obtain ⟨w13, hw'⟩ : ∃ x, (w12).alloc (.cells #[.slice Bc s.refs.length cc, .slice Bd s.locks.length cd] 35) = x := ⟨_, rfl⟩
          rw [hw'] at al xn ⊢
          clear hw'
          have xb := xn
          replace xa := xa.later al
          replace sa := sa.on al al.size
          replace sb := sb.on al al.size
          replace dx := dx.trans ((al).mono dx.size)
          clear y1 y2 y3 al
          obtain ⟨y1, y2, y3⟩ := HF.out _ dx
          clear xn C2
          obtain ⟨p0, p1, -⟩ := id xa.reads
          obtain ⟨r0, r1, -⟩ := id xb.reads
          have CM := hid (sameState_is _ _ s w13 sa sb (Nat.le_of_eq H4.out.len.1) (Nat.le_of_eq H4.out.len.2))
          unfold stV at CM
          go_wp2_with fail
          refine CM.out.mono ?_
          rintro e w14 ⟨rfl, d14⟩
          replace dx := dx.trans ((d14).mono dx.size)
          clear y1 y2 y3 d14
          obtain ⟨y1, y2, y3⟩ := HF.out _ dx
          clear p0 p1 r0 r1 xa xb sa sb CM
          go_wp2_with fail
          refine (CA.out _ w14 (HS2.out _ dx) (HEx.out _ dx)).mono ?_
          rintro e w15 ⟨rfl, d15⟩
          replace dx := dx.trans ((d15).mono dx.size)
          clear y1 y2 y3 d15
          obtain ⟨y1, y2, y3⟩ := HF.out _ dx
          clear CA
          by_cases h3 : Sh.ask xs t = 3
          · have e3 : (Sh.ask xs t == 3) = true := by rw [beq_iff_eq]; exact h3
            clear h3
            go_wp2
            go_ret
            exact .mk_ (bw.trans (dx.mono bw.size))
          · have e3 : (Sh.ask xs t == 3) = false := by rw [beq_eq_false_iff_ne]; exact h3
            have e4 : ((rs.length : Int) == 30) = true := by
              rw [beq_iff_eq]
              rcases HK.out with ⟨h5, _⟩ | ⟨h5, _⟩
              · exact absurd h5 h3
              · omega
            clear h3
            go_wp2
            go_ret
            exact .mk_ (bw.trans (dx.mono bw.size))
    · have e0 : (z != 0) = true := by rw [bne_iff_ne]; exact h0
      clear h0
      go_wp2_with fail
      refine (sameShard_is _ _ xs _ (HS2.out _ dx) (HS3.out _ dx) (HSX.out.fit (by omega))).mono ?_
      rintro e w9 ⟨rfl, dn⟩
      replace dx := dx.trans ((dn).mono dx.size)
      clear y1 y2 y3 dn
      obtain ⟨y1, y2, y3⟩ := HF.out _ dx
      go_wp2
      go_ret
      exact .mk_ (bw.trans (dx.mono bw.size))
theorem FnPrepareNo_any (A : Option Addr) (c : Nat) (bs : List Int) (w : World) (f1 : Row w w.heap.size A (bs.map (Value.int .u8))) (f2 : bs.length ≤ c) (f3 : c ≤ maxLen) (f4 : ∀ n ∈ bs, 0 ≤ n ∧ n < 256) (er0 er1 : Addr) (hE : Errs er0 er1 w) :
    Calls Tryd.prog 4 #[.slice A bs.length c] w (Ret (.bool true) w) := by
  by_cases hl : bs.length ≤ 1048576
  · exact FnPrepareNo_yes A c bs w ⟨f1, f2, f3, f4⟩ hl er0 er1 hE
  · exact FnPrepareNo_no A c bs w ⟨f1, f2, f3, f4⟩ hl
end Go.Proofs.YteeffchnbkkpfaaDoor
