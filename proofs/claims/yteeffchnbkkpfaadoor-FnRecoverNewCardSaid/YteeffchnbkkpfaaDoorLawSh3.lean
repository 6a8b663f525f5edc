/- The coordinator with the slices $SA and $SB is stored as the answer, with the word $BB. -/
/-
  Walks of laws on votes and what they lock.
-/
import Derived.Test.YteeffchnbkkpfaaDoorShdI
import Derived.Test.YteeffchnbkkpfaaDoorDrawSv
namespace Go.Proofs.YteeffchnbkkpfaaDoor
open Go.RowKit Wo Pu Rf Lk Sh

/-- A vote that is given. -/
structure Yes (rs xs : List Rec) (t : Int) (us : List Up) (s s' : St) : Prop where
  old : Rcv rs s
  new : Rcv xs s'
  at_ : ∀ k (hk : k < us.length), ∃ m : Nat, us[k].r = m ∧ m < 4 ∧ s.locks[m]? = some (-1) ∧ s'.locks[m]? = some t
  ask : Sh.ask xs t = 1
  len : xs.length = rs.length + 1
  vx : Vld xs
  vr : Vld rs
  tv : TV t
theorem Stt.rows {w : World} {B n c n2 c2 : Nat} {A A2 : Option Addr} {s : St} (h : Stt w B (.agg #[.slice A n c, .slice A2 n2 c2]) s) : Row w B A (ints s.refs) ∧ Row w B A2 (ints s.locks) := by
  obtain ⟨A', c', A2', c2', e, h1, -, h2, -⟩ := h
  unfold stV at e
  injection e with e
  simp only [Array.mk.injEq, List.cons.injEq, and_true] at e
  obtain ⟨e1, e2⟩ := e
  injection e1 with e1 _ _
  injection e2 with e2 _ _
  subst e1 e2
  exact ⟨h1, h2⟩
theorem prep_yes {rs xs : List Rec} {t : Int} {us : List Up} (h : Voted rs t us xs true) (ha : Sh.ask rs t = 0) : ∃ s L, Yes rs xs t us s ⟨s.refs, L⟩ := by
  have key : Vld rs ∧ TV t ∧ UV us ∧ xs = rs ++ [⟨1, t, us⟩] ∧ Vld xs := by
    generalize hb : true = b at h
    cases h with
    | bad _ => cases hb
    | known h1 h2 h3 h4 => exact absurd ha h4
    | yes h1 h2 h3 _ h5 => exact ⟨h1, h2, h3, rfl, h5⟩
    | no _ _ _ _ _ _ => cases hb
    | full _ _ _ _ _ => cases hb
  obtain ⟨h1, h2, h3, rfl, h5⟩ := key
  obtain ⟨⟨s, hs⟩, hl⟩ := id h1
  obtain ⟨g1, g2, g3, g4, g5⟩ := (Vld.prepare_iff hs h2 us).1 h5
  refine ⟨s, setR s.locks (lk t us), hs, .snoc hs h2 (.prepare rfl ha h3 g4 g5), fun k hk => ?_, by rw [ask_snoc, if_pos rfl], by simp, h5, h1, h2⟩
  have hm := List.getElem_mem hk
  obtain ⟨p1, p2⟩ := prepare_at hs.inv h2 h3 g5 hm
  have hr := (h3.2.mem _ hm).2.1
  refine ⟨us[k].r.toNat, by omega, by omega, p1, p2⟩
theorem FnPrepare_no (A : Option Addr) (c : Nat) (bs : List Int) (w : World) (h : Code_ w A c bs) (hl : ¬ bs.length ≤ 1048576) :
    Calls Tryd.prog 3 #[.slice A bs.length c] w (Ret (.bool true) w) := by
  have hc := h.2.1
  have hm := h.2.2.1
  unfold maxLen at hm
  go_enter Tryd.func3, Tryd.ntmps3
  go_wp2
  go_ret
  exact .mk_ (Below.refl _ _)
set_option linter.unusedSimpArgs false in
set_option maxRecDepth 100000 in
set_option maxHeartbeats 4000000 in
theorem FnPrepare_yes (A : Option Addr) (c : Nat) (bs : List Int) (w : World) (h : Code_ w A c bs) (hl : bs.length ≤ 1048576) (er0 er1 : Addr) (HE : Hid (Errs er0 er1 w)) :
    Calls Tryd.prog 3 #[.slice A bs.length c] w (Ret (.bool true) w) := by
  go_enter Tryd.func3, Tryd.ntmps3
  go_wp2_with fail
  refine (DrawShardPrepare_any A c bs _ h).mono ?_
  rintro e w1 ⟨v1, rs, t, AL, cL, us, rfl, s1, hl, hs, ht0, ht1, ru, hul, hcl, bw⟩
  obtain ⟨A1, c1, rfl, r1, hc1⟩ := s1
  unfold shV
  obtain ⟨xs, b, hv⟩ := voted_ex rs t us
  have HV := hid hv
  have HSM := hid hs
  have HSX := hid (voted_small hv hs hul)
  have hlx : xs.length ≤ 31 := Nat.le_succ_of_le (voted_valid hv).2
  have CS := hid (specShardPrepare_is xs b · rs t AL cL us · · (hs.fit (by omega)) · (by omega) hv)
  have CI := hid (implShardPrepare_is er0 er1 xs b · rs t AL cL us · · · (hs.fit (by omega)) · (by omega) hv)
  clear hv hs
  go_upto_region 4 with fail
  have al := (Below.refl (w1).heap.size w1).alloc (Nat.le_refl _) (.cells #[.slice A1 rs.length c1] 25)
  have xn := Blk1.new_ w1 25 (.slice A1 rs.length c1)
  obtain ⟨w2, hw'⟩ : ∃ x, (w1).alloc (.cells #[.slice A1 rs.length c1] 25) = x := ⟨_, rfl⟩
  rw [hw'] at al xn ⊢
  clear hw'
  have x1 := xn
  have z2 := al.size
  have r2 := r1.on al
  have u2 := (ru.below al (Nat.le_refl _)).more z2
  obtain ⟨y1, -⟩ := id x1.reads
  have b2 := bw.trans (al.mono bw.size)
  clear xn al r1 ru bw z2
  go_wp2_with fail
  refine (CI.out _ w2 ⟨A1, c1, rfl, r2, hc1⟩ (HE.out.below b2) u2).mono ?_
  rintro e w3 ⟨v3, rfl, ⟨A2, c2, rfl, o3, hc2⟩, d3⟩
  unfold shV
  go_upto_region 5 with fail
  have al := (Below.refl (w3).heap.size w3).alloc (Nat.le_refl _) (.cells #[.slice A2 xs.length c2] 25)
  have xn := Blk1.new_ w3 25 (.slice A2 xs.length c2)
  obtain ⟨w4, hw'⟩ : ∃ x, (w3).alloc (.cells #[.slice A2 xs.length c2] 25) = x := ⟨_, rfl⟩
  rw [hw'] at al xn ⊢
  clear hw'
  have d4 := d3.trans (al.mono d3.size)
  have r4 := r2.on d4
  have u4 := (u2.below d4 (Nat.le_refl _)).more d4.size
  have q4 := (OwnSh.mk_ (o3.below al)).shd
  have x2 := xn
  replace x1 := x1.later d4
  have b4 := b2.trans (d4.mono b2.size)
  clear y1
  obtain ⟨y1, -⟩ := id x1.reads
  clear xn al r2 u2 b2 d3 d4 o3 CI
  go_wp2_with fail
  refine (CS.out _ w4 ⟨A1, c1, rfl, r4, hc1⟩ u4).mono ?_
  rintro e w5 ⟨v5, rfl, ⟨A3, c3, rfl, o5, hc3⟩, d5⟩
  unfold shV
  go_upto_region 6 with fail
  have al := (Below.refl (w5).heap.size w5).alloc (Nat.le_refl _) (.cells #[.slice A3 xs.length c3] 25)
  have xn := Blk1.new_ w5 25 (.slice A3 xs.length c3)
  obtain ⟨w6, hw'⟩ : ∃ x, (w5).alloc (.cells #[.slice A3 xs.length c3] 25) = x := ⟨_, rfl⟩
  rw [hw'] at al xn ⊢
  clear hw'
  have d6 := d5.trans (al.mono d5.size)
  have r6 := r4.on d6
  have u6 := (u4.below d6 (Nat.le_refl _)).more d6.size
  have q6 := q4.on d6 d6.size
  have p6 := (OwnSh.mk_ (o5.below al)).shd
  have bw := b4.trans (d6.mono b4.size)
  have X1 := x1.later d6
  have X2 := x2.later d6
  have HEx : Hid (∀ x, Below w6.heap.size w6 x → Errs er0 er1 x) := fun x hx => HE.out.below (bw.trans (hx.mono bw.size))
  have HF : Hid (∀ x, Below w6.heap.size w6 x → x.cell? ⟨w1.heap.size, 0, none⟩ = some (.slice A1 rs.length c1) ∧ x.cell? ⟨w3.heap.size, 0, none⟩ = some (.slice A2 xs.length c2) ∧ x.cell? ⟨w5.heap.size, 0, none⟩ = some (.slice A3 xs.length c3)) := fun x hx => ⟨(X1.later hx).reads.1, (X2.later hx).reads.1, (xn.later hx).reads.1⟩
  have HR1 : Hid (∀ x, Below w6.heap.size w6 x → Recs x x.heap.size A1 rs) := fun x hx => r6.on hx
  have HS2 : Hid (∀ x, Below w6.heap.size w6 x → Shd x x.heap.size (.agg #[.slice A2 xs.length c2]) xs) := fun x hx => q6.on hx hx.size
  have HS3 : Hid (∀ x, Below w6.heap.size w6 x → Shd x x.heap.size (.agg #[.slice A3 xs.length c3]) xs) := fun x hx => p6.on hx hx.size
  have HU : Hid (∀ x, Below w6.heap.size w6 x → Row x x.heap.size AL (upsV us)) := fun x hx => (u6.below hx (Nat.le_refl _)).more hx.size
  have HS1 : Hid (∀ x, Below w6.heap.size w6 x → Shd x x.heap.size (.agg #[.slice A1 rs.length c1]) rs) := fun x hx => ⟨A1, c1, rfl, HR1.out x hx, hc1⟩
  have dx := Below.refl w6.heap.size w6
  have HLT : Hid (w1.heap.size < w6.heap.size ∧ w3.heap.size < w6.heap.size ∧ w5.heap.size < w6.heap.size) := ⟨X1.lt, X2.lt, xn.lt⟩
  clear y1 al xn x1 x2 X1 X2 r4 u4 q4 r6 u6 q6 p6 o5 d5 d6 b4 CS
  obtain ⟨y1, y2, y3⟩ := HF.out _ dx
  go_wp2_with fail
  refine (sameShard_is _ _ xs _ (HS2.out _ dx) (HS3.out _ dx) (HSX.out.fit (by omega))).mono ?_
  rintro e w7 ⟨rfl, dn⟩
  replace dx := dx.trans ((dn).mono dx.size)
  clear y1 y2 y3 dn
  obtain ⟨y1, y2, y3⟩ := HF.out _ dx
  cases b with
  | false =>
    go_wp2_with fail
    refine (sameShard_is _ _ xs _ (HS2.out _ dx) (HS3.out _ dx) (HSX.out.fit (by omega))).mono ?_
    rintro e w8 ⟨rfl, dn⟩
    replace dx := dx.trans ((dn).mono dx.size)
    clear y1 y2 y3 dn
    obtain ⟨y1, y2, y3⟩ := HF.out _ dx
    go_wp2
    go_ret
    exact .mk_ (bw.trans (dx.mono bw.size))
  | true =>
    obtain ⟨z, hz⟩ : ∃ z : Int, (Vld rs ∧ TV t ∧ z = Sh.ask rs t) ∨ (¬ (Vld rs ∧ TV t) ∧ z = -1) := by
      by_cases e : Vld rs ∧ TV t
      · exact ⟨_, .inl ⟨e.1, e.2, rfl⟩⟩
      · exact ⟨_, .inr ⟨e, rfl⟩⟩
    have HZ := hid hz
    clear hz
    go_wp2_with fail
    refine (specShardAsk_is z _ rs t w7 (HS1.out _ dx) (HSM.out.fit (by omega)) HZ.out).mono ?_
    rintro e w8 ⟨rfl, dn⟩
    replace dx := dx.trans ((dn).mono dx.size)
    clear y1 y2 y3 dn
    obtain ⟨y1, y2, y3⟩ := HF.out _ dx
    by_cases h0 : z = 0
    · subst h0
      have HZ0 : Hid (Sh.ask rs t = 0) := by
        rcases HZ.out with ⟨h2, h3, h4⟩ | ⟨-, h4⟩
        · exact h4.symm
        · omega
      obtain ⟨s, L, hY⟩ := prep_yes HV.out HZ0.out
      have HY := hid hY
      have C1 := hid (implShardRecover_is er0 er1 true s _ rs w8 (HS1.out _ dx) (HEx.out _ dx) (HSM.out.fit (by omega)) (.inl ⟨rfl, hY.old, hY.vr.2⟩))
      have C2 := hid (implShardRecover_is er0 er1 true ⟨s.refs, L⟩ · xs · · · (HSX.out.fit (by omega)) (.inl ⟨rfl, hY.new, hY.vx.2⟩))
      have H4 := hid (show Four s from Rcv.four hY.old)
      have H4' := hid (show Four ⟨s.refs, L⟩ from Rcv.four hY.new)
      have CA := hid (implShardAsk_is er0 er1 1 · xs t · · · (HSX.out.fit (by omega)) (.inl ⟨hY.vx, hY.tv, hY.ask.symm⟩))
      clear hY HZ0
      go_wp2_with fail
      refine C1.out.mono ?_
      rintro e w10 ⟨v10, rfl, sa, d10⟩
      obtain ⟨Ba, ca, Bb, cb, rfl, -⟩ := id sa
      unfold stV
      replace dx := dx.trans ((d10).mono dx.size)
      clear y1 y2 y3 d10
      obtain ⟨y1, y2, y3⟩ := HF.out _ dx
      go_upto_region 9 with fail
      have al := (Below.refl (w10).heap.size w10).alloc (Nat.le_refl _) (.cells #[.slice Ba s.refs.length ca, .slice Bb s.locks.length cb] 35)
      have xn := Blk2s.new_ w10 35 (.slice Ba s.refs.length ca) (.slice Bb s.locks.length cb)
      obtain ⟨w11, hw'⟩ : ∃ x, (w10).alloc (.cells #[.slice Ba s.refs.length ca, .slice Bb s.locks.length cb] 35) = x := ⟨_, rfl⟩
      rw [hw'] at al xn ⊢
      clear hw'
      have xa := xn
      replace sa := sa.on al al.size
      replace dx := dx.trans ((al).mono dx.size)
      clear y1 y2 y3 al
      obtain ⟨y1, y2, y3⟩ := HF.out _ dx
      clear xn C1
      go_wp2_with fail
      refine (C2.out _ w11 (HS2.out _ dx) (HEx.out _ dx)).mono ?_
      rintro e w12 ⟨v12, rfl, sb, d12⟩
      obtain ⟨Bc, cc, Bd, cd, rfl, -⟩ := id sb
      unfold stV
      replace xa := xa.later d12
      replace sa := sa.on d12 d12.size
      replace dx := dx.trans ((d12).mono dx.size)
      clear y1 y2 y3 d12
      obtain ⟨y1, y2, y3⟩ := HF.out _ dx
      go_upto_region 10 with fail
      have al := (Below.refl (w12).heap.size w12).alloc (Nat.le_refl _) (.cells #[.slice Bc s.refs.length cc, .slice Bd L.length cd] 35)
      have xn := Blk2s.new_ w12 35 (.slice Bc s.refs.length cc) (.slice Bd L.length cd)
      obtain ⟨w13, hw'⟩ : ∃ x, (w12).alloc (.cells #[.slice Bc s.refs.length cc, .slice Bd L.length cd] 35) = x := ⟨_, rfl⟩
      rw [hw'] at al xn ⊢
      clear hw'
      have xb := xn
      replace xa := xa.later al
      replace sa := sa.on al al.size
      replace sb := sb.on al al.size
      replace dx := dx.trans ((al).mono dx.size)
      clear y1 y2 y3 al
      obtain ⟨y1, y2, y3⟩ := HF.out _ dx
      clear xn C2
      go_wp2_with fail
      go_loopw [14] (fun i wr => ∃ k : Nat, k ≤ us.length ∧ i = .int .i64 k ∧ Dr w13 wr) (fun i _ => us.length - (intOf i).toNat)
      case atStart => exact ⟨0, Nat.zero_le _, rfl, .refl _⟩
      case round =>
        obtain ⟨k, hk, rfl, HW⟩ := hrel
        have Dk := HW.below w13.heap.size
        clear y1 y2 y3
        by_cases hlt : k < us.length
        · obtain ⟨-, p1, -⟩ := id (xa.later Dk).reads
          obtain ⟨-, r1, -⟩ := id (xb.later Dk).reads
          obtain ⟨o, ad2, ho, e2, ha2, g0, -, -⟩ := (HW.row (HU.out _ dx)).up_ hlt
          obtain ⟨m, hm, hm4, hl1, hl2⟩ := HY.out.at_ k hlt
          rw [ho] at hm
          have m1 : m < s.locks.length := by rw [H4.out.len.2]; exact hm4
          have m2 : m < L.length := by rw [H4'.out.len.2]; exact hm4
          obtain ⟨ad, e1, had, hc1⟩ := (HW.row sa.rows.2).int_ m1
          obtain ⟨ad3, e3, had3, hc3⟩ := (HW.row sb.rows.2).int_ m2
          rw [List.getElem?_eq_getElem m1] at hl1
          rw [List.getElem?_eq_getElem m2] at hl2
          injection hl1 with hl1
          injection hl2 with hl2
          rw [hl1] at hc1
          rw [show (St.mk s.refs L).locks[m] = L[m] from rfl, hl2] at hc3
          rw [hm] at g0
          subst e1 e2 e3
          have k0 : (0 : Int) ≤ (k : Int) := by omega
          have k1 : (k : Int) < (us.length : Int) := by omega
          have q0 : (0 : Int) ≤ (m : Int) := by omega
          have q1 : (m : Int) < (s.locks.length : Int) := by omega
          have q2 : (m : Int) < (L.length : Int) := by omega
          clear ho hm hl1 hl2 ha2 had had3
          go_wp2_with fail
          go_quiet (fail)
          go_wp2
          go_roundw
          case rel => exact ⟨k + 1, by omega, by go_num, HW.drewN _⟩
          case measure => simp [intOf]; omega
        · obtain ⟨y1, y2, y3⟩ := HF.out _ (dx.trans (Dk.mono dx.size))
          obtain ⟨p0, p1, -⟩ := id (xa.later Dk).reads
          obtain ⟨r0, r1, -⟩ := id (xb.later Dk).reads
          have CM := hid (sameInts_ret Ba Bc ca cc s.refs wr _ _ (HW.row sa.rows.1) (HW.row sb.rows.1) (by have := H4.out.len.1; unfold maxLen; omega))
          replace dx := dx.trans (Dk.mono dx.size)
          have hk' : k = us.length := by omega
          subst hk'
          clear hk hlt
          go_wp2_with fail
          refine CM.out.mono ?_
          rintro e w15 ⟨rfl, d15⟩
          clear p0 p1 r0 r1 CM
          replace dx := dx.trans ((d15).mono dx.size)
          clear y1 y2 y3 d15
          obtain ⟨y1, y2, y3⟩ := HF.out _ dx
          go_wp2_with fail
          refine (CA.out _ w15 (HS2.out _ dx) (HEx.out _ dx)).mono ?_
          rintro e w16 ⟨rfl, d16⟩
          replace dx := dx.trans ((d16).mono dx.size)
          clear y1 y2 y3 d16
          obtain ⟨y1, y2, y3⟩ := HF.out _ dx
          have e5 : ((xs.length : Int) == (rs.length : Int) + 1) = true := by rw [beq_iff_eq, HY.out.len]; omega
          clear CA
          go_wp2
          go_ret
          exact .mk_ (bw.trans (dx.mono bw.size))
    · have e0 : (z != 0) = true := by rw [bne_iff_ne]; exact h0
      clear h0
      go_wp2_with fail
      refine (sameShard_is _ _ xs _ (HS2.out _ dx) (HS3.out _ dx) (HSX.out.fit (by omega))).mono ?_
      rintro e w9 ⟨rfl, dn⟩
      replace dx := dx.trans ((dn).mono dx.size)
      clear y1 y2 y3 dn
      obtain ⟨y1, y2, y3⟩ := HF.out _ dx
      go_wp2
      go_ret
      exact .mk_ (bw.trans (dx.mono bw.size))
theorem FnPrepare_any (A : Option Addr) (c : Nat) (bs : List Int) (w : World) (f1 : Row w w.heap.size A (bs.map (Value.int .u8))) (f2 : bs.length ≤ c) (f3 : c ≤ maxLen) (f4 : ∀ n ∈ bs, 0 ≤ n ∧ n < 256) (er0 er1 : Addr) (hE : Errs er0 er1 w) :
    Calls Tryd.prog 3 #[.slice A bs.length c] w (Ret (.bool true) w) := by
  by_cases hl : bs.length ≤ 1048576
  · exact FnPrepare_yes A c bs w ⟨f1, f2, f3, f4⟩ hl er0 er1 hE
  · exact FnPrepare_no A c bs w ⟨f1, f2, f3, f4⟩ hl
/-- Whether a vote is to be given, by the first k updates. -/
def FitK (rs : List Rec) (us : List Up) (s : St) (g : Bool) (k : Nat) : Prop := g = true ↔ rs.length < 30 ∧ ∀ u ∈ us.take k, s.refs[u.r.toNat]? = some u.o ∧ s.locks[u.r.toNat]? = some (-1)
theorem FitK.zero (rs : List Rec) (us : List Up) (s : St) : FitK rs us s (decide ((rs.length : Int) < 30)) 0 := by
  unfold FitK
  rw [decide_eq_true_iff]
  exact ⟨fun h => ⟨by omega, fun u hu => by simp at hu⟩, fun h => by omega⟩
theorem FitK.more {rs : List Rec} {us : List Up} {s : St} {g : Bool} {k : Nat} (h : FitK rs us s g k) (hk : k < us.length) (b : Bool) (hb : b = true ↔ s.refs[us[k].r.toNat]? = some us[k].o ∧ s.locks[us[k].r.toNat]? = some (-1)) : FitK rs us s (g && b) (k + 1) := by
  unfold FitK at h ⊢
  rw [Bool.and_eq_true, h, hb, List.take_succ_eq_append_getElem hk]
  constructor
  · rintro ⟨⟨h1, h2⟩, h3⟩
    refine ⟨h1, fun u hu => ?_⟩
    rcases List.mem_append.1 hu with hu | hu
    · exact h2 u hu
    · rw [List.mem_singleton] at hu; subst hu; exact h3
  · rintro ⟨h1, h2⟩
    exact ⟨⟨h1, fun u hu => h2 u (List.mem_append_left _ hu)⟩, h2 _ (List.mem_append_right _ (List.mem_singleton.2 rfl))⟩
theorem voted_fits {rs xs : List Rec} {t : Int} {us : List Up} {b : Bool} {s : St} (h : Voted rs t us xs b) (h1 : Vld rs) (hs : Rcv rs s) (h2 : TV t) (h3 : UV us) (ha : Sh.ask rs t = 0) : FitK rs us s b us.length := by
  have pi := Vld.prepare_iff hs h2 us
  have hb : b = true ↔ Vld (rs ++ [⟨1, t, us⟩]) := by
    rcases h.new_ h1 h2 h3 ha with ⟨h4, _, h5⟩ | ⟨h4, h5, _⟩
    · exact ⟨fun _ => h4, fun _ => h5⟩
    · rw [h5]; exact ⟨fun e => (by cases e), fun e => absurd e h4⟩
  unfold FitK
  rw [hb, pi, List.take_length]
  constructor
  · rintro ⟨g1, -, -, g4, g5⟩
    exact ⟨g1, fun u hu => ⟨g4 u hu, fits_lk.1 g5 u hu⟩⟩
  · rintro ⟨g1, g2⟩
    exact ⟨g1, ha, h3, fun u hu => (g2 u hu).1, fits_lk.2 fun u hu => (g2 u hu).2⟩
theorem FnPrepareFits_no (A : Option Addr) (c : Nat) (bs : List Int) (w : World) (h : Code_ w A c bs) (hl : ¬ bs.length ≤ 1048576) :
    Calls Tryd.prog 7 #[.slice A bs.length c] w (Ret (.bool true) w) := by
  have hc := h.2.1
  have hm := h.2.2.1
  unfold maxLen at hm
  go_enter Tryd.func7, Tryd.ntmps7
  go_wp2
  go_ret
  exact .mk_ (Below.refl _ _)
set_option linter.unusedSimpArgs false in
set_option maxRecDepth 100000 in
set_option maxHeartbeats 4000000 in
theorem FnPrepareFits_yes (A : Option Addr) (c : Nat) (bs : List Int) (w : World) (h : Code_ w A c bs) (hl : bs.length ≤ 1048576) (er0 er1 : Addr) (HE : Hid (Errs er0 er1 w)) :
    Calls Tryd.prog 7 #[.slice A bs.length c] w (Ret (.bool true) w) := by
  go_enter Tryd.func7, Tryd.ntmps7
  go_wp2_with fail
  refine (DrawShardPrepare_any A c bs _ h).mono ?_
  rintro e w1 ⟨v1, rs, t, AL, cL, us, rfl, s1, hl, hs, ht0, ht1, ru, hul, hcl, bw⟩
  obtain ⟨A1, c1, rfl, r1, hc1⟩ := s1
  unfold shV
  obtain ⟨xs, b, hv⟩ := voted_ex rs t us
  have HV := hid hv
  have HSM := hid hs
  have HSX := hid (voted_small hv hs hul)
  have hlx : xs.length ≤ 31 := Nat.le_succ_of_le (voted_valid hv).2
  have CS := hid (specShardPrepare_is xs b · rs t AL cL us · · (hs.fit (by omega)) · (by omega) hv)
  have CI := hid (implShardPrepare_is er0 er1 xs b · rs t AL cL us · · · (hs.fit (by omega)) · (by omega) hv)
  clear hv hs
  go_upto_region 4 with fail
  have al := (Below.refl (w1).heap.size w1).alloc (Nat.le_refl _) (.cells #[.slice A1 rs.length c1] 25)
  have xn := Blk1.new_ w1 25 (.slice A1 rs.length c1)
  obtain ⟨w2, hw'⟩ : ∃ x, (w1).alloc (.cells #[.slice A1 rs.length c1] 25) = x := ⟨_, rfl⟩
  rw [hw'] at al xn ⊢
  clear hw'
  have x1 := xn
  have z2 := al.size
  have r2 := r1.on al
  have u2 := (ru.below al (Nat.le_refl _)).more z2
  obtain ⟨y1, -⟩ := id x1.reads
  have b2 := bw.trans (al.mono bw.size)
  clear xn al r1 ru bw z2
  go_wp2_with fail
  refine (CI.out _ w2 ⟨A1, c1, rfl, r2, hc1⟩ (HE.out.below b2) u2).mono ?_
  rintro e w3 ⟨v3, rfl, ⟨A2, c2, rfl, o3, hc2⟩, d3⟩
  unfold shV
  go_upto_region 5 with fail
  have al := (Below.refl (w3).heap.size w3).alloc (Nat.le_refl _) (.cells #[.slice A2 xs.length c2] 25)
  have xn := Blk1.new_ w3 25 (.slice A2 xs.length c2)
  obtain ⟨w4, hw'⟩ : ∃ x, (w3).alloc (.cells #[.slice A2 xs.length c2] 25) = x := ⟨_, rfl⟩
  rw [hw'] at al xn ⊢
  clear hw'
  have d4 := d3.trans (al.mono d3.size)
  have r4 := r2.on d4
  have u4 := (u2.below d4 (Nat.le_refl _)).more d4.size
  have q4 := (OwnSh.mk_ (o3.below al)).shd
  have x2 := xn
  replace x1 := x1.later d4
  have b4 := b2.trans (d4.mono b2.size)
  clear y1
  obtain ⟨y1, -⟩ := id x1.reads
  clear xn al r2 u2 b2 d3 d4 o3 CI
  go_wp2_with fail
  refine (CS.out _ w4 ⟨A1, c1, rfl, r4, hc1⟩ u4).mono ?_
  rintro e w5 ⟨v5, rfl, ⟨A3, c3, rfl, o5, hc3⟩, d5⟩
  unfold shV
  go_upto_region 6 with fail
  have al := (Below.refl (w5).heap.size w5).alloc (Nat.le_refl _) (.cells #[.slice A3 xs.length c3] 25)
  have xn := Blk1.new_ w5 25 (.slice A3 xs.length c3)
  obtain ⟨w6, hw'⟩ : ∃ x, (w5).alloc (.cells #[.slice A3 xs.length c3] 25) = x := ⟨_, rfl⟩
  rw [hw'] at al xn ⊢
  clear hw'
  have d6 := d5.trans (al.mono d5.size)
  have r6 := r4.on d6
  have u6 := (u4.below d6 (Nat.le_refl _)).more d6.size
  have q6 := q4.on d6 d6.size
  have p6 := (OwnSh.mk_ (o5.below al)).shd
  have bw := b4.trans (d6.mono b4.size)
  have X1 := x1.later d6
  have X2 := x2.later d6
  have HEx : Hid (∀ x, Below w6.heap.size w6 x → Errs er0 er1 x) := fun x hx => HE.out.below (bw.trans (hx.mono bw.size))
  have HF : Hid (∀ x, Below w6.heap.size w6 x → x.cell? ⟨w1.heap.size, 0, none⟩ = some (.slice A1 rs.length c1) ∧ x.cell? ⟨w3.heap.size, 0, none⟩ = some (.slice A2 xs.length c2) ∧ x.cell? ⟨w5.heap.size, 0, none⟩ = some (.slice A3 xs.length c3)) := fun x hx => ⟨(X1.later hx).reads.1, (X2.later hx).reads.1, (xn.later hx).reads.1⟩
  have HR1 : Hid (∀ x, Below w6.heap.size w6 x → Recs x x.heap.size A1 rs) := fun x hx => r6.on hx
  have HS2 : Hid (∀ x, Below w6.heap.size w6 x → Shd x x.heap.size (.agg #[.slice A2 xs.length c2]) xs) := fun x hx => q6.on hx hx.size
  have HS3 : Hid (∀ x, Below w6.heap.size w6 x → Shd x x.heap.size (.agg #[.slice A3 xs.length c3]) xs) := fun x hx => p6.on hx hx.size
  have HU : Hid (∀ x, Below w6.heap.size w6 x → Row x x.heap.size AL (upsV us)) := fun x hx => (u6.below hx (Nat.le_refl _)).more hx.size
  have HS1 : Hid (∀ x, Below w6.heap.size w6 x → Shd x x.heap.size (.agg #[.slice A1 rs.length c1]) rs) := fun x hx => ⟨A1, c1, rfl, HR1.out x hx, hc1⟩
  have dx := Below.refl w6.heap.size w6
  have HLT : Hid (w1.heap.size < w6.heap.size ∧ w3.heap.size < w6.heap.size ∧ w5.heap.size < w6.heap.size) := ⟨X1.lt, X2.lt, xn.lt⟩
  clear y1 al xn x1 x2 X1 X2 r4 u4 q4 r6 u6 q6 p6 o5 d5 d6 b4 CS
  obtain ⟨y1, y2, y3⟩ := HF.out _ dx
  go_wp2_with fail
  refine (sameShard_is _ _ xs _ (HS2.out _ dx) (HS3.out _ dx) (HSX.out.fit (by omega))).mono ?_
  rintro e w7 ⟨rfl, dn⟩
  replace dx := dx.trans ((dn).mono dx.size)
  clear y1 y2 y3 dn
  obtain ⟨y1, y2, y3⟩ := HF.out _ dx
  obtain ⟨z, hz⟩ : ∃ z : Int, (Vld rs ∧ TV t ∧ z = Sh.ask rs t) ∨ (¬ (Vld rs ∧ TV t) ∧ z = -1) := by
    by_cases e : Vld rs ∧ TV t
    · exact ⟨_, .inl ⟨e.1, e.2, rfl⟩⟩
    · exact ⟨_, .inr ⟨e, rfl⟩⟩
  have HZ := hid hz
  clear hz
  go_wp2_with fail
  refine (specShardAsk_is z _ rs t w7 (HS1.out _ dx) (HSM.out.fit (by omega)) HZ.out).mono ?_
  rintro e w8 ⟨rfl, dn⟩
  replace dx := dx.trans ((dn).mono dx.size)
  clear y1 y2 y3 dn
  obtain ⟨y1, y2, y3⟩ := HF.out _ dx
  by_cases h0 : z = 0
  · subst h0
    obtain ⟨vu, hvu⟩ := bool_of (UV us)
    have HVU := hid hvu
    clear hvu
    go_wp2_with fail
    refine (specUpdatesValid_is vu AL cL us w8 (HU.out _ dx) (by omega) HVU.out).mono ?_
    rintro e w9 ⟨rfl, dn⟩
    replace dx := dx.trans ((dn).mono dx.size)
    clear y1 y2 y3 dn
    obtain ⟨y1, y2, y3⟩ := HF.out _ dx
    cases vu with
    | false =>
      go_wp2_with fail
      refine (sameShard_is _ _ xs _ (HS2.out _ dx) (HS3.out _ dx) (HSX.out.fit (by omega))).mono ?_
      rintro e w10 ⟨rfl, dn⟩
      replace dx := dx.trans ((dn).mono dx.size)
      clear y1 y2 y3 dn
      obtain ⟨y1, y2, y3⟩ := HF.out _ dx
      go_wp2
      go_ret
      exact .mk_ (bw.trans (dx.mono bw.size))
    | true =>
      have HZ0 : Hid (Vld rs ∧ TV t ∧ Sh.ask rs t = 0) := by
        rcases HZ.out with ⟨h2, h3, h4⟩ | ⟨-, h4⟩
        · exact ⟨h2, h3, h4.symm⟩
        · omega
      obtain ⟨⟨s, hs⟩, -⟩ := id HZ0.out.1
      have HFK := hid (voted_fits HV.out HZ0.out.1 hs HZ0.out.2.1 (HVU.out.1 rfl) HZ0.out.2.2)
      have HUV := hid (HVU.out.1 rfl)
      have C1 := hid (implShardRecover_is er0 er1 true s _ rs w9 (HS1.out _ dx) (HEx.out _ dx) (HSM.out.fit (by omega)) (.inl ⟨rfl, hs, HZ0.out.1.2⟩))
      have H4 := hid (show Four s from Rcv.four hs)
      clear HZ0 hs
      go_wp2_with fail
      refine C1.out.mono ?_
      rintro e w10 ⟨v10, rfl, sa, d10⟩
      obtain ⟨Ba, ca, Bb, cb, rfl, -⟩ := id sa
      unfold stV
      replace dx := dx.trans ((d10).mono dx.size)
      clear y1 y2 y3 d10
      obtain ⟨y1, y2, y3⟩ := HF.out _ dx
      go_upto_region 9 with fail
      have al := (Below.refl (w10).heap.size w10).alloc (Nat.le_refl _) (.cells #[.slice Ba s.refs.length ca, .slice Bb s.locks.length cb] 35)
      have xn := Blk2s.new_ w10 35 (.slice Ba s.refs.length ca) (.slice Bb s.locks.length cb)
      obtain ⟨w11, hw'⟩ : ∃ x, (w10).alloc (.cells #[.slice Ba s.refs.length ca, .slice Bb s.locks.length cb] 35) = x := ⟨_, rfl⟩
      rw [hw'] at al xn ⊢
      clear hw'
      have xa := xn
      replace sa := sa.on al al.size
      replace dx := dx.trans ((al).mono dx.size)
      clear y1 y2 y3 al
      obtain ⟨y1, y2, y3⟩ := HF.out _ dx
      clear xn C1
      go_wp2_with fail
      go_loopw [12, 13] (fun q i wr => ∃ (k : Nat) (g : Bool), k ≤ us.length ∧ i = .int .i64 k ∧ q = .bool g ∧ Hid (FitK rs us s g k) ∧ Dr w11 wr) (fun _ i _ => us.length - (intOf i).toNat)
      case atStart => exact ⟨0, _, Nat.zero_le _, rfl, rfl, .zero _ _ _, .refl _⟩
      case round =>
        obtain ⟨k, g, hk, rfl, rfl, HG, HW⟩ := hrel
        have Dk := HW.below w11.heap.size
        clear y1 y2 y3
        by_cases hlt : k < us.length
        · obtain ⟨p0, p1, -⟩ := id (xa.later Dk).reads
          obtain ⟨o, ad2, ho, e2, ha2, g0, g1, -⟩ := (HW.row (HU.out _ dx)).up_ hlt
          have hr := (HUV.out.2.mem _ (List.getElem_mem hlt)).2.1
          obtain ⟨m, hm⟩ : ∃ m : Nat, us[k].r = m := ⟨us[k].r.toNat, by omega⟩
          have hm4 : m < 4 := by omega
          have m1 : m < s.refs.length := by rw [H4.out.len.1]; exact hm4
          have m2 : m < s.locks.length := by rw [H4.out.len.2]; exact hm4
          obtain ⟨ad, e1, had, hc1⟩ := (HW.row sa.rows.1).int_ m1
          obtain ⟨ad3, e3, had3, hc3⟩ := (HW.row sa.rows.2).int_ m2
          have HN : Hid (FitK rs us s (g && ((s.refs[m] == o.o) && (s.locks[m] == -1))) (k + 1)) := by
            refine HG.out.more hlt _ ?_
            rw [hm, show ((m : Int)).toNat = m from rfl, List.getElem?_eq_getElem m1, List.getElem?_eq_getElem m2, ho, Bool.and_eq_true, beq_iff_eq, beq_iff_eq]
            simp
          obtain ⟨x, hx⟩ : ∃ x, s.refs[m] = x := ⟨_, rfl⟩
          obtain ⟨y, hy⟩ : ∃ y, s.locks[m] = y := ⟨_, rfl⟩
          rw [hx, hy] at HN
          rw [hx] at hc1
          rw [hy] at hc3
          rw [ho] at hm
          rw [hm] at g0
          subst e1 e2 e3
          have k0 : (0 : Int) ≤ (k : Int) := by omega
          have k1 : (k : Int) < (us.length : Int) := by omega
          have q0 : (0 : Int) ≤ (m : Int) := by omega
          have q1 : (m : Int) < (s.refs.length : Int) := by omega
          have q2 : (m : Int) < (s.locks.length : Int) := by omega
          clear ho hm hr ha2 had had3 HG hx hy
          cases g with
          | false =>
            rw [Bool.false_and] at HN
            go_wp2_with fail
            go_quiet (fail)
            go_wp2
            go_roundw
            case rel => exact ⟨k + 1, false, by omega, by go_num, rfl, HN, HW.drewN _⟩
            case measure => simp [intOf]; omega
          | true =>
            rw [Bool.true_and] at HN
            obtain ⟨bx, hbx⟩ : ∃ bx, (x == o.o) = bx := ⟨_, rfl⟩
            cases bx with
            | false =>
              rw [hbx, Bool.false_and] at HN
              go_wp2_with fail
              go_quiet (fail)
              go_wp2
              go_roundw
              case rel => exact ⟨k + 1, false, by omega, by go_num, rfl, HN, HW.drewN _⟩
              case measure => simp [intOf]; omega
            | true =>
              rw [hbx, Bool.true_and] at HN
              go_wp2_with fail
              go_quiet (fail)
              go_wp2
              go_roundw
              case rel => exact ⟨k + 1, _, by omega, by go_num, rfl, HN, HW.drewN _⟩
              case measure => simp [intOf]; omega
        · have hk' : k = us.length := by omega
          subst hk'
          have HE : Hid (b = g) := by
            show b = g
            rw [Bool.eq_iff_iff]
            exact HFK.out.trans HG.out.symm
          rw [HE.out]
          have dw := dx.trans (Dk.mono dx.size)
          go_wp2
          go_ret
          exact .mk_ (bw.trans (dw.mono bw.size))
  · have e0 : (z != 0) = true := by rw [bne_iff_ne]; exact h0
    clear h0
    go_wp2_with fail
    refine (sameShard_is _ _ xs _ (HS2.out _ dx) (HS3.out _ dx) (HSX.out.fit (by omega))).mono ?_
    rintro e w9 ⟨rfl, dn⟩
    replace dx := dx.trans ((dn).mono dx.size)
    clear y1 y2 y3 dn
    obtain ⟨y1, y2, y3⟩ := HF.out _ dx
    go_wp2
    go_ret
    exact .mk_ (bw.trans (dx.mono bw.size))
theorem FnPrepareFits_any (A : Option Addr) (c : Nat) (bs : List Int) (w : World) (f1 : Row w w.heap.size A (bs.map (Value.int .u8))) (f2 : bs.length ≤ c) (f3 : c ≤ maxLen) (f4 : ∀ n ∈ bs, 0 ≤ n ∧ n < 256) (er0 er1 : Addr) (hE : Errs er0 er1 w) :
    Calls Tryd.prog 7 #[.slice A bs.length c] w (Ret (.bool true) w) := by
  by_cases hl : bs.length ≤ 1048576
  · exact FnPrepareFits_yes A c bs w ⟨f1, f2, f3, f4⟩ hl er0 er1 hE
  · exact FnPrepareFits_no A c bs w ⟨f1, f2, f3, f4⟩ hl
end Go.Proofs.YteeffchnbkkpfaaDoor
