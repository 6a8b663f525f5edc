/- The coordinator with the slices $SA and $SB is stored as the answer, with the word $BB. -/
/-
  Walks of laws on decisions and what they do.
-/
import Derived.Test.YteeffchnbkkpfaaDoorLawSh2
import Derived.Test.YteeffchnbkkpfaaDoorLawSh3
namespace Go.Proofs.YteeffchnbkkpfaaDoor
open Go.RowKit Wo Pu Rf Lk Sh

/-- A commit that is taken. -/
structure Com1 (rs xs : List Rec) (t : Int) (s : St) (F G : List Int) : Prop where
  old : Rcv rs s
  new : Rcv xs ⟨F, G⟩
  at_ : ∀ m (h1 : m < s.refs.length) (h2 : m < s.locks.length) (h3 : m < F.length) (h4 : m < G.length), (s.locks[m] = t → G[m] = -1 ∧ F[m] ≠ s.refs[m]) ∧ (s.locks[m] ≠ t → G[m] = s.locks[m] ∧ F[m] = s.refs[m])
  ask : Sh.ask xs t = 2
  vx : Vld xs
  vr : Vld rs
  tv : TV t
  com : Sh.com xs = Sh.com rs ++ [t]
theorem com_one {rs xs : List Rec} {t : Int} (h : Decided rs t 2 xs true) (ha : Sh.ask rs t = 1) (h1 : Vld rs) (h2 : TV t) : ∃ s F G, Com1 rs xs t s F G := by
  obtain ⟨g1, g2⟩ := h.new_ h1 h2 (by omega)
  simp only [if_true] at g2
  subst g2
  obtain ⟨⟨s, hs⟩, hl⟩ := id h1
  have hv := g1.1 rfl
  refine ⟨s, setR s.refs (upd rs t), freeL t s.locks, hs, .snoc hs h2 (.commit rfl ha rfl), fun m m1 m2 m3 m4 => ?_, by rw [ask_snoc, if_pos rfl], hv, h1, h2, by rw [com_snoc, if_pos rfl]⟩
  have ca := commit_at hs.inv ha m
  rw [List.getElem?_eq_getElem m1, List.getElem?_eq_getElem m2, List.getElem?_eq_getElem m3, List.getElem?_eq_getElem m4] at ca
  simpa using ca
theorem FnDecide_no (A : Option Addr) (c : Nat) (bs : List Int) (w : World) (h : Code_ w A c bs) (hl : ¬ bs.length ≤ 1048576) :
    Calls Tryd.prog 8 #[.slice A bs.length c] w (Ret (.bool true) w) := by
  have hc := h.2.1
  have hm := h.2.2.1
  unfold maxLen at hm
  go_enter Tryd.func8, Tryd.ntmps8
  go_wp2
  go_ret
  exact .mk_ (Below.refl _ _)
set_option linter.unusedSimpArgs false in
set_option maxRecDepth 100000 in
set_option maxHeartbeats 8000000 in
theorem FnDecide_yes (A : Option Addr) (c : Nat) (bs : List Int) (w : World) (h : Code_ w A c bs) (hl : bs.length ≤ 1048576) (er0 er1 : Addr) (HE : Hid (Errs er0 er1 w)) :
    Calls Tryd.prog 8 #[.slice A bs.length c] w (Ret (.bool true) w) := by
  go_enter Tryd.func8, Tryd.ntmps8
  go_wp2_with fail
  refine (DrawShardDecide_any A c bs _ h).mono ?_
  rintro e w1 ⟨v1, rs, t, cm, rfl, s1, hl, hs, ht0, ht1, bw⟩
  obtain ⟨A1, c1, rfl, r1, hc1⟩ := s1
  unfold shV
  obtain ⟨kk, hkk⟩ : ∃ kk : Int, kk = if cm then 2 else 3 := ⟨_, rfl⟩
  obtain ⟨xs, b, hv⟩ := decided_ex rs t kk
  have HKK := hid hkk
  have HV := hid hv
  have HSM := hid hs
  have HSX := hid (decided_small hv hs)
  have hlx : xs.length ≤ 31 := Nat.le_succ_of_le (decided_valid hv).2
  have CS := hid (specShardDecide_is xs b · rs t kk cm · · (hs.fit (by omega)) hkk hv)
  have CI := hid (implShardDecide_is er0 er1 xs b · rs t kk cm · · · (hs.fit (by omega)) hkk hv)
  clear hv hs hkk
  go_upto_region 4 with fail
  have al := (Below.refl (w1).heap.size w1).alloc (Nat.le_refl _) (.cells #[.slice A1 rs.length c1] 25)
  have xn := Blk1.new_ w1 25 (.slice A1 rs.length c1)
  obtain ⟨w2, hw'⟩ : ∃ x, (w1).alloc (.cells #[.slice A1 rs.length c1] 25) = x := ⟨_, rfl⟩
  rw [hw'] at al xn ⊢
  clear hw'
  have x1 := xn
  have z2 := al.size
  have r2 := r1.on al
  obtain ⟨y1, -⟩ := id x1.reads
  have b2 := bw.trans (al.mono bw.size)
  clear xn al r1 bw z2
  go_wp2_with fail
  refine (CI.out _ w2 ⟨A1, c1, rfl, r2, hc1⟩ (HE.out.below b2)).mono ?_
  rintro e w3 ⟨v3, rfl, ⟨A2, c2, rfl, o3, hc2⟩, d3⟩
  unfold shV
  go_upto_region 5 with fail
  have al := (Below.refl (w3).heap.size w3).alloc (Nat.le_refl _) (.cells #[.slice A2 xs.length c2] 25)
  have xn := Blk1.new_ w3 25 (.slice A2 xs.length c2)
  obtain ⟨w4, hw'⟩ : ∃ x, (w3).alloc (.cells #[.slice A2 xs.length c2] 25) = x := ⟨_, rfl⟩
  rw [hw'] at al xn ⊢
  clear hw'
  have d4 := d3.trans (al.mono d3.size)
  have r4 := r2.on d4
  have q4 := (OwnSh.mk_ (o3.below al)).shd
  have x2 := xn
  replace x1 := x1.later d4
  have b4 := b2.trans (d4.mono b2.size)
  clear y1
  obtain ⟨y1, -⟩ := id x1.reads
  clear xn al r2 b2 d3 d4 o3 CI
  go_wp2_with fail
  refine (CS.out _ w4 ⟨A1, c1, rfl, r4, hc1⟩).mono ?_
  rintro e w5 ⟨v5, rfl, ⟨A3, c3, rfl, o5, hc3⟩, d5⟩
  unfold shV
  go_upto_region 6 with fail
  have al := (Below.refl (w5).heap.size w5).alloc (Nat.le_refl _) (.cells #[.slice A3 xs.length c3] 25)
  have xn := Blk1.new_ w5 25 (.slice A3 xs.length c3)
  obtain ⟨w6, hw'⟩ : ∃ x, (w5).alloc (.cells #[.slice A3 xs.length c3] 25) = x := ⟨_, rfl⟩
  rw [hw'] at al xn ⊢
  clear hw'
  have d6 := d5.trans (al.mono d5.size)
  have r6 := r4.on d6
  have q6 := q4.on d6 d6.size
  have p6 := (OwnSh.mk_ (o5.below al)).shd
  have bw := b4.trans (d6.mono b4.size)
  have X1 := x1.later d6
  have X2 := x2.later d6
  have HEx : Hid (∀ x, Below w6.heap.size w6 x → Errs er0 er1 x) := fun x hx => HE.out.below (bw.trans (hx.mono bw.size))
  have HF : Hid (∀ x, Below w6.heap.size w6 x → x.cell? ⟨w1.heap.size, 0, none⟩ = some (.slice A1 rs.length c1) ∧ x.cell? ⟨w3.heap.size, 0, none⟩ = some (.slice A2 xs.length c2) ∧ x.cell? ⟨w5.heap.size, 0, none⟩ = some (.slice A3 xs.length c3)) := fun x hx => ⟨(X1.later hx).reads.1, (X2.later hx).reads.1, (xn.later hx).reads.1⟩
  have HR1 : Hid (∀ x, Below w6.heap.size w6 x → Recs x x.heap.size A1 rs) := fun x hx => r6.on hx
  have HS2 : Hid (∀ x, Below w6.heap.size w6 x → Shd x x.heap.size (.agg #[.slice A2 xs.length c2]) xs) := fun x hx => q6.on hx hx.size
  have HS3 : Hid (∀ x, Below w6.heap.size w6 x → Shd x x.heap.size (.agg #[.slice A3 xs.length c3]) xs) := fun x hx => p6.on hx hx.size
  have HS1 : Hid (∀ x, Below w6.heap.size w6 x → Shd x x.heap.size (.agg #[.slice A1 rs.length c1]) rs) := fun x hx => ⟨A1, c1, rfl, HR1.out x hx, hc1⟩
  have dx := Below.refl w6.heap.size w6
  have HLT : Hid (w1.heap.size < w6.heap.size ∧ w3.heap.size < w6.heap.size ∧ w5.heap.size < w6.heap.size) := ⟨X1.lt, X2.lt, xn.lt⟩
  clear y1 al xn x1 x2 X1 X2 r4 q4 r6 q6 p6 o5 d5 d6 b4 CS
  obtain ⟨y1, y2, y3⟩ := HF.out _ dx
  go_wp2_with fail
  refine (sameShard_is _ _ xs _ (HS2.out _ dx) (HS3.out _ dx) (HSX.out.fit (by omega))).mono ?_
  rintro e w7 ⟨rfl, dn⟩
  replace dx := dx.trans ((dn).mono dx.size)
  clear y1 y2 y3 dn
  obtain ⟨y1, y2, y3⟩ := HF.out _ dx
  cases b with
  | false =>
    go_wp2_with fail
    refine (sameShard_is _ _ xs _ (HS2.out _ dx) (HS3.out _ dx) (HSX.out.fit (by omega))).mono ?_
    rintro e w8 ⟨rfl, dn⟩
    replace dx := dx.trans ((dn).mono dx.size)
    clear y1 y2 y3 dn
    obtain ⟨y1, y2, y3⟩ := HF.out _ dx
    go_wp2
    go_ret
    exact .mk_ (bw.trans (dx.mono bw.size))
  | true =>
    cases cm with
    | false =>
      go_wp2_with fail
      refine (sameShard_is _ _ xs _ (HS2.out _ dx) (HS3.out _ dx) (HSX.out.fit (by omega))).mono ?_
      rintro e w8 ⟨rfl, dn⟩
      replace dx := dx.trans ((dn).mono dx.size)
      clear y1 y2 y3 dn
      obtain ⟨y1, y2, y3⟩ := HF.out _ dx
      go_wp2
      go_ret
      exact .mk_ (bw.trans (dx.mono bw.size))
    | true =>
      obtain rfl : kk = 2 := HKK.out
      obtain ⟨z, hz⟩ : ∃ z : Int, (Vld rs ∧ TV t ∧ z = Sh.ask rs t) ∨ (¬ (Vld rs ∧ TV t) ∧ z = -1) := by
        by_cases e : Vld rs ∧ TV t
        · exact ⟨_, .inl ⟨e.1, e.2, rfl⟩⟩
        · exact ⟨_, .inr ⟨e, rfl⟩⟩
      have HZ := hid hz
      clear hz
      go_wp2_with fail
      refine (specShardAsk_is z _ rs t w7 (HS1.out _ dx) (HSM.out.fit (by omega)) HZ.out).mono ?_
      rintro e w8 ⟨rfl, dn⟩
      replace dx := dx.trans ((dn).mono dx.size)
      clear y1 y2 y3 dn
      obtain ⟨y1, y2, y3⟩ := HF.out _ dx
      by_cases h0 : z = 1
      · subst h0
        have HZ0 : Hid (Vld rs ∧ TV t ∧ Sh.ask rs t = 1) := by
          rcases HZ.out with ⟨h2, h3, h4⟩ | ⟨-, h4⟩
          · exact ⟨h2, h3, h4.symm⟩
          · omega
        obtain ⟨s, F, G, hY⟩ := com_one HV.out HZ0.out.2.2 HZ0.out.1 HZ0.out.2.1
        have HY := hid hY
        have C1 := hid (implShardRecover_is er0 er1 true s _ rs w8 (HS1.out _ dx) (HEx.out _ dx) (HSM.out.fit (by omega)) (.inl ⟨rfl, hY.old, hY.vr.2⟩))
        have C2 := hid (implShardRecover_is er0 er1 true ⟨F, G⟩ · xs · · · (HSX.out.fit (by omega)) (.inl ⟨rfl, hY.new, hY.vx.2⟩))
        have H4 := hid (show Four s from Rcv.four hY.old)
        have H4' := hid (show Four ⟨F, G⟩ from Rcv.four hY.new)
        have CA := hid (implShardAsk_is er0 er1 2 · xs t · · · (HSX.out.fit (by omega)) (.inl ⟨hY.vx, hY.tv, hY.ask.symm⟩))
        clear hY HZ0
        go_wp2_with fail
        refine C1.out.mono ?_
        rintro e w10 ⟨v10, rfl, sa, d10⟩
        obtain ⟨Ba, ca, Bb, cb, rfl, -⟩ := id sa
        unfold stV
        replace dx := dx.trans ((d10).mono dx.size)
        clear y1 y2 y3 d10
        obtain ⟨y1, y2, y3⟩ := HF.out _ dx
        go_upto_region 9 with fail
        have al := (Below.refl (w10).heap.size w10).alloc (Nat.le_refl _) (.cells #[.slice Ba s.refs.length ca, .slice Bb s.locks.length cb] 35)
        have xn := Blk2s.new_ w10 35 (.slice Ba s.refs.length ca) (.slice Bb s.locks.length cb)
        obtain ⟨w11, hw'⟩ : ∃ x, (w10).alloc (.cells #[.slice Ba s.refs.length ca, .slice Bb s.locks.length cb] 35) = x := ⟨_, rfl⟩
        rw [hw'] at al xn ⊢
        clear hw'
        have xa := xn
        replace sa := sa.on al al.size
        replace dx := dx.trans ((al).mono dx.size)
        clear y1 y2 y3 al
        obtain ⟨y1, y2, y3⟩ := HF.out _ dx
        clear xn C1
        go_wp2_with fail
        refine (C2.out _ w11 (HS2.out _ dx) (HEx.out _ dx)).mono ?_
        rintro e w12 ⟨v12, rfl, sb, d12⟩
        obtain ⟨Bc, cc, Bd, cd, rfl, -⟩ := id sb
        unfold stV
        replace xa := xa.later d12
        replace sa := sa.on d12 d12.size
        replace dx := dx.trans ((d12).mono dx.size)
        clear y1 y2 y3 d12
        obtain ⟨y1, y2, y3⟩ := HF.out _ dx
        go_upto_region 10 with fail
        have al := (Below.refl (w12).heap.size w12).alloc (Nat.le_refl _) (.cells #[.slice Bc (F).length cc, .slice Bd (G).length cd] 35)
        have xn := Blk2s.new_ w12 35 (.slice Bc (F).length cc) (.slice Bd (G).length cd)
        obtain ⟨w13, hw'⟩ : ∃ x, (w12).alloc (.cells #[.slice Bc (F).length cc, .slice Bd (G).length cd] 35) = x := ⟨_, rfl⟩
        rw [hw'] at al xn ⊢
        clear hw'
        have xb := xn
        replace xa := xa.later al
        replace sa := sa.on al al.size
        replace sb := sb.on al al.size
        replace dx := dx.trans ((al).mono dx.size)
        clear y1 y2 y3 al
        obtain ⟨y1, y2, y3⟩ := HF.out _ dx
        clear xn C2
        go_wp2_with fail
        go_loopw [14] (fun i wr => ∃ k : Nat, k ≤ 4 ∧ i = .int .i64 k ∧ Dr w13 wr) (fun i _ => 4 - (intOf i).toNat)
        case atStart => exact ⟨0, Nat.zero_le _, rfl, .refl _⟩
        case round =>
          obtain ⟨k, hk, rfl, HW⟩ := hrel
          have Dk := HW.below w13.heap.size
          clear y1 y2 y3
          by_cases hlt : k < 4
          · obtain ⟨p0, p1, -⟩ := id (xa.later Dk).reads
            obtain ⟨r0, r1, -⟩ := id (xb.later Dk).reads
            have m1 : k < s.refs.length := by rw [H4.out.len.1]; exact hlt
            have m2 : k < s.locks.length := by rw [H4.out.len.2]; exact hlt
            have m3 : k < F.length := by rw [H4'.out.len.1]; exact hlt
            have m4 : k < G.length := by rw [H4'.out.len.2]; exact hlt
            obtain ⟨ad, e1, -, hc1⟩ := (HW.row sa.rows.1).int_ m1
            obtain ⟨ad2, e2, -, hc2⟩ := (HW.row sa.rows.2).int_ m2
            obtain ⟨ad3, e3, -, hc3⟩ := (HW.row sb.rows.1).int_ m3
            obtain ⟨ad4, e4, -, hc4⟩ := (HW.row sb.rows.2).int_ m4
            obtain ⟨at1, at2⟩ := HY.out.at_ k m1 m2 m3 m4
            replace hc3 : wr.cell? (ad3.add k) = some (.int .i64 F[k]) := hc3
            replace hc4 : wr.cell? (ad4.add k) = some (.int .i64 G[k]) := hc4
            have k0 : (0 : Int) ≤ (k : Int) := by omega
            have q1 : (k : Int) < (s.refs.length : Int) := by omega
            have q2 : (k : Int) < (s.locks.length : Int) := by omega
            have q3 : (k : Int) < (F.length : Int) := by omega
            have q4 : (k : Int) < (G.length : Int) := by omega
            subst e1 e2 e3 e4
            by_cases hx : s.locks[k] = t
            · obtain ⟨g1, g2⟩ := at1 hx
              rw [g1] at hc4
              rw [hx] at hc2
              obtain ⟨x, hx'⟩ : ∃ x, s.refs[k] = x := ⟨_, rfl⟩
              obtain ⟨y, hy'⟩ : ∃ y, F[k] = y := ⟨_, rfl⟩
              rw [hx', hy'] at g2
              rw [hx'] at hc1
              rw [hy'] at hc3
              have e5 : (y == x) = false := by rw [beq_eq_false_iff_ne]; exact g2
              clear at1 at2 hx g1 g2 hx' hy'
              go_wp2_with fail
              go_quiet (fail)
              go_wp2
              go_roundw
              case rel => exact ⟨k + 1, by omega, by go_num, HW.drewN _⟩
              case measure => simp [intOf]; omega
            · obtain ⟨g1, g2⟩ := at2 hx
              rw [g1] at hc4
              rw [g2] at hc3
              obtain ⟨x, hx'⟩ : ∃ x, s.refs[k] = x := ⟨_, rfl⟩
              obtain ⟨y, hy'⟩ : ∃ y, s.locks[k] = y := ⟨_, rfl⟩
              rw [hy'] at hx
              rw [hx'] at hc1 hc3
              rw [hy'] at hc2 hc4
              have e5 : (y != t) = true := by rw [bne_iff_ne]; exact hx
              have e6 : (y == t) = false := by rw [beq_eq_false_iff_ne]; exact hx
              clear at1 at2 hx g1 g2 hx' hy'
              go_wp2_with fail
              go_quiet (fail)
              go_wp2
              go_roundw
              case rel => exact ⟨k + 1, by omega, by go_num, HW.drewN _⟩
              case measure => simp [intOf]; omega
          · obtain ⟨y1, y2, y3⟩ := HF.out _ (dx.trans (Dk.mono dx.size))
            replace dx := dx.trans (Dk.mono dx.size)
            have hk' : k = 4 := by omega
            subst hk'
            clear hk hlt
            go_wp2_with fail
            refine (CA.out _ wr (HS2.out _ dx) (HEx.out _ dx)).mono ?_
            rintro e w16 ⟨rfl, d16⟩
            replace dx := dx.trans ((d16).mono dx.size)
            clear y1 y2 y3 d16
            obtain ⟨y1, y2, y3⟩ := HF.out _ dx
            clear CA
            go_wp2
            go_ret
            exact .mk_ (bw.trans (dx.mono bw.size))
      · have e0 : (z != 1) = true := by rw [bne_iff_ne]; exact h0
        clear h0
        go_wp2_with fail
        refine (sameShard_is _ _ xs _ (HS2.out _ dx) (HS3.out _ dx) (HSX.out.fit (by omega))).mono ?_
        rintro e w9 ⟨rfl, dn⟩
        replace dx := dx.trans ((dn).mono dx.size)
        clear y1 y2 y3 dn
        obtain ⟨y1, y2, y3⟩ := HF.out _ dx
        go_wp2
        go_ret
        exact .mk_ (bw.trans (dx.mono bw.size))
theorem FnDecide_any (A : Option Addr) (c : Nat) (bs : List Int) (w : World) (f1 : Row w w.heap.size A (bs.map (Value.int .u8))) (f2 : bs.length ≤ c) (f3 : c ≤ maxLen) (f4 : ∀ n ∈ bs, 0 ≤ n ∧ n < 256) (er0 er1 : Addr) (hE : Errs er0 er1 w) :
    Calls Tryd.prog 8 #[.slice A bs.length c] w (Ret (.bool true) w) := by
  by_cases hl : bs.length ≤ 1048576
  · exact FnDecide_yes A c bs w ⟨f1, f2, f3, f4⟩ hl er0 er1 hE
  · exact FnDecide_no A c bs w ⟨f1, f2, f3, f4⟩ hl
end Go.Proofs.YteeffchnbkkpfaaDoor
