/- The coordinator with the slices $SA and $SB is stored as the answer, with the word $BB. -/
/-
  Walks of laws on shards and locks.
-/
import Derived.Test.YteeffchnbkkpfaaDoorLawSh4
import Derived.Test.YteeffchnbkkpfaaDoorLawSh5
import Derived.Test.YteeffchnbkkpfaaDoorLockI
namespace Go.Proofs.YteeffchnbkkpfaaDoor
open Go.RowKit Wo Pu Rf Lk Sh

theorem owned_iff {rs : List Rec} {s : St} (h : Rcv rs s) {t : Int} (ht : TV t) : 0 < (owned true s.locks t).length ↔ Sh.ask rs t = 1 := by
  rw [← h.inv.has ht]
  have := ofL_none t s.locks
  unfold owned
  simp only [if_true]
  constructor
  · intro h1
    exact Classical.byContradiction fun h2 => by have := this.2 h2; omega
  · intro h1
    rcases Nat.eq_zero_or_pos (ofL 0 t s.locks).length with h2 | h2
    · exact absurd h1 (this.1 h2)
    · exact h2
/-- An abort that is taken. -/
structure Abt (rs xs : List Rec) (t : Int) (s : St) (L : List Int) : Prop where
  old : Rcv rs s
  new : Rcv xs ⟨s.refs, L⟩
  ask : Sh.ask xs t = 3
  vx : Vld xs
  vr : Vld rs
  tv : TV t
theorem abt_one {rs xs : List Rec} {t : Int} (h : Decided rs t 3 xs true) : ∃ s L, Abt rs xs t s L := by
  have hv := decided_valid h
  have key : Vld rs ∧ TV t := by
    cases h with
    | known h1 h2 _ => exact ⟨h1, h2⟩
    | yes h1 h2 _ _ => exact ⟨h1, h2⟩
  obtain ⟨h1, h2⟩ := key
  obtain ⟨⟨s, hs⟩, hl⟩ := id h1
  by_cases ha : Sh.ask rs t = 3
  · obtain ⟨rfl, -⟩ := h.known_ h1 h2 ha
    exact ⟨s, s.locks, hs, hs, ha, hv, h1, h2⟩
  · obtain ⟨g1, g2⟩ := h.new_ h1 h2 ha
    simp only [if_true] at g2
    subst g2
    exact ⟨s, freeL t s.locks, hs, .snoc hs h2 (.abort rfl ((Vld.abort_iff hs h2).1 (g1.1 rfl)).2 rfl), by rw [ask_snoc, if_pos rfl], hv, h1, h2⟩
theorem FnDecideAbort_no (A : Option Addr) (c : Nat) (bs : List Int) (w : World) (h : Code_ w A c bs) (hl : ¬ bs.length ≤ 1048576) :
    Calls Tryd.prog 9 #[.slice A bs.length c] w (Ret (.bool true) w) := by
  have hc := h.2.1
  have hm := h.2.2.1
  unfold maxLen at hm
  go_enter Tryd.func9, Tryd.ntmps9
  go_wp2
  go_ret
  exact .mk_ (Below.refl _ _)
set_option linter.unusedSimpArgs false in
set_option maxRecDepth 100000 in
set_option maxHeartbeats 8000000 in
theorem FnDecideAbort_yes (A : Option Addr) (c : Nat) (bs : List Int) (w : World) (h : Code_ w A c bs) (hl : bs.length ≤ 1048576) (er0 er1 : Addr) (HE : Hid (Errs er0 er1 w)) :
    Calls Tryd.prog 9 #[.slice A bs.length c] w (Ret (.bool true) w) := by
  go_enter Tryd.func9, Tryd.ntmps9
  go_wp2_with fail
  refine (DrawShardDecide_any A c bs _ h).mono ?_
  rintro e w1 ⟨v1, rs, t, cm, rfl, s1, hl, hs, ht0, ht1, bw⟩
  obtain ⟨A1, c1, rfl, r1, hc1⟩ := s1
  unfold shV
  obtain ⟨kk, hkk⟩ : ∃ kk : Int, kk = if cm then 2 else 3 := ⟨_, rfl⟩
  obtain ⟨xs, b, hv⟩ := decided_ex rs t kk
  have HKK := hid hkk
  have HV := hid hv
  have HSM := hid hs
  have HSX := hid (decided_small hv hs)
  have hlx : xs.length ≤ 31 := Nat.le_succ_of_le (decided_valid hv).2
  have CS := hid (specShardDecide_is xs b · rs t kk cm · · (hs.fit (by omega)) hkk hv)
  have CI := hid (implShardDecide_is er0 er1 xs b · rs t kk cm · · · (hs.fit (by omega)) hkk hv)
  clear hv hs hkk
  go_upto_region 4 with fail
  have al := (Below.refl (w1).heap.size w1).alloc (Nat.le_refl _) (.cells #[.slice A1 rs.length c1] 25)
  have xn := Blk1.new_ w1 25 (.slice A1 rs.length c1)
  obtain ⟨w2, hw'⟩ : ∃ x, (w1).alloc (.cells #[.slice A1 rs.length c1] 25) = x := ⟨_, rfl⟩
  rw [hw'] at al xn ⊢
  clear hw'
  have x1 := xn
  have z2 := al.size
  have r2 := r1.on al
  obtain ⟨y1, -⟩ := id x1.reads
  have b2 := bw.trans (al.mono bw.size)
  clear xn al r1 bw z2
  go_wp2_with fail
  refine (CI.out _ w2 ⟨A1, c1, rfl, r2, hc1⟩ (HE.out.below b2)).mono ?_
  rintro e w3 ⟨v3, rfl, ⟨A2, c2, rfl, o3, hc2⟩, d3⟩
  unfold shV
  go_upto_region 5 with fail
  have al := (Below.refl (w3).heap.size w3).alloc (Nat.le_refl _) (.cells #[.slice A2 xs.length c2] 25)
  have xn := Blk1.new_ w3 25 (.slice A2 xs.length c2)
  obtain ⟨w4, hw'⟩ : ∃ x, (w3).alloc (.cells #[.slice A2 xs.length c2] 25) = x := ⟨_, rfl⟩
  rw [hw'] at al xn ⊢
  clear hw'
  have d4 := d3.trans (al.mono d3.size)
  have r4 := r2.on d4
  have q4 := (OwnSh.mk_ (o3.below al)).shd
  have x2 := xn
  replace x1 := x1.later d4
  have b4 := b2.trans (d4.mono b2.size)
  clear y1
  obtain ⟨y1, -⟩ := id x1.reads
  clear xn al r2 b2 d3 d4 o3 CI
  go_wp2_with fail
  refine (CS.out _ w4 ⟨A1, c1, rfl, r4, hc1⟩).mono ?_
  rintro e w5 ⟨v5, rfl, ⟨A3, c3, rfl, o5, hc3⟩, d5⟩
  unfold shV
  go_upto_region 6 with fail
  have al := (Below.refl (w5).heap.size w5).alloc (Nat.le_refl _) (.cells #[.slice A3 xs.length c3] 25)
  have xn := Blk1.new_ w5 25 (.slice A3 xs.length c3)
  obtain ⟨w6, hw'⟩ : ∃ x, (w5).alloc (.cells #[.slice A3 xs.length c3] 25) = x := ⟨_, rfl⟩
  rw [hw'] at al xn ⊢
  clear hw'
  have d6 := d5.trans (al.mono d5.size)
  have r6 := r4.on d6
  have q6 := q4.on d6 d6.size
  have p6 := (OwnSh.mk_ (o5.below al)).shd
  have bw := b4.trans (d6.mono b4.size)
  have X1 := x1.later d6
  have X2 := x2.later d6
  have HEx : Hid (∀ x, Below w6.heap.size w6 x → Errs er0 er1 x) := fun x hx => HE.out.below (bw.trans (hx.mono bw.size))
  have HF : Hid (∀ x, Below w6.heap.size w6 x → x.cell? ⟨w1.heap.size, 0, none⟩ = some (.slice A1 rs.length c1) ∧ x.cell? ⟨w3.heap.size, 0, none⟩ = some (.slice A2 xs.length c2) ∧ x.cell? ⟨w5.heap.size, 0, none⟩ = some (.slice A3 xs.length c3)) := fun x hx => ⟨(X1.later hx).reads.1, (X2.later hx).reads.1, (xn.later hx).reads.1⟩
  have HR1 : Hid (∀ x, Below w6.heap.size w6 x → Recs x x.heap.size A1 rs) := fun x hx => r6.on hx
  have HS2 : Hid (∀ x, Below w6.heap.size w6 x → Shd x x.heap.size (.agg #[.slice A2 xs.length c2]) xs) := fun x hx => q6.on hx hx.size
  have HS3 : Hid (∀ x, Below w6.heap.size w6 x → Shd x x.heap.size (.agg #[.slice A3 xs.length c3]) xs) := fun x hx => p6.on hx hx.size
  have HS1 : Hid (∀ x, Below w6.heap.size w6 x → Shd x x.heap.size (.agg #[.slice A1 rs.length c1]) rs) := fun x hx => ⟨A1, c1, rfl, HR1.out x hx, hc1⟩
  have dx := Below.refl w6.heap.size w6
  have HLT : Hid (w1.heap.size < w6.heap.size ∧ w3.heap.size < w6.heap.size ∧ w5.heap.size < w6.heap.size) := ⟨X1.lt, X2.lt, xn.lt⟩
  clear y1 al xn x1 x2 X1 X2 r4 q4 r6 q6 p6 o5 d5 d6 b4 CS
  obtain ⟨y1, y2, y3⟩ := HF.out _ dx
  go_wp2_with fail
  refine (sameShard_is _ _ xs _ (HS2.out _ dx) (HS3.out _ dx) (HSX.out.fit (by omega))).mono ?_
  rintro e w7 ⟨rfl, dn⟩
  replace dx := dx.trans ((dn).mono dx.size)
  clear y1 y2 y3 dn
  obtain ⟨y1, y2, y3⟩ := HF.out _ dx
  cases b with
  | false =>
    go_wp2_with fail
    refine (sameShard_is _ _ xs _ (HS2.out _ dx) (HS3.out _ dx) (HSX.out.fit (by omega))).mono ?_
    rintro e w8 ⟨rfl, dn⟩
    replace dx := dx.trans ((dn).mono dx.size)
    clear y1 y2 y3 dn
    obtain ⟨y1, y2, y3⟩ := HF.out _ dx
    go_wp2
    go_ret
    exact .mk_ (bw.trans (dx.mono bw.size))
  | true =>
    cases cm with
    | true =>
      go_wp2_with fail
      refine (sameShard_is _ _ xs _ (HS2.out _ dx) (HS3.out _ dx) (HSX.out.fit (by omega))).mono ?_
      rintro e w8 ⟨rfl, dn⟩
      replace dx := dx.trans ((dn).mono dx.size)
      clear y1 y2 y3 dn
      obtain ⟨y1, y2, y3⟩ := HF.out _ dx
      go_wp2
      go_ret
      exact .mk_ (bw.trans (dx.mono bw.size))
    | false =>
      obtain rfl : kk = 3 := HKK.out
      obtain ⟨s, L, hY⟩ := abt_one HV.out
      have C1 := hid (implShardRecover_is er0 er1 true s _ rs w7 (HS1.out _ dx) (HEx.out _ dx) (HSM.out.fit (by omega)) (.inl ⟨rfl, hY.old, hY.vr.2⟩))
      have C2 := hid (implShardRecover_is er0 er1 true ⟨s.refs, L⟩ · xs · · · (HSX.out.fit (by omega)) (.inl ⟨rfl, hY.new, hY.vx.2⟩))
      have H4 := hid (show Four s from Rcv.four hY.old)
      have H4' := hid (show Four ⟨s.refs, L⟩ from Rcv.four hY.new)
      have CA := hid (implShardAsk_is er0 er1 3 · xs t · · · (HSX.out.fit (by omega)) (.inl ⟨hY.vx, hY.tv, hY.ask.symm⟩))
      have hq : owned true L t = [] := by
        have := owned_iff hY.new hY.tv
        rcases Nat.eq_zero_or_pos (owned true L t).length with h0 | h0
        · exact List.eq_nil_of_length_eq_zero h0
        · have := this.1 h0; have := hY.ask; omega
      have CL := hid (fun x Bd cd (hx : Row x x.heap.size Bd (ints L)) => implLocksOf_is true [] Bd cd L t x hx (by have := H4'.out.len.2; replace this : L.length = 4 := this; omega) ⟨fun _ => ⟨H4'.out.2, hY.tv⟩, fun _ => rfl⟩ hq)
      clear hY hq
      go_wp2_with fail
      refine C1.out.mono ?_
      rintro e w10 ⟨v10, rfl, sa, d10⟩
      obtain ⟨Ba, ca, Bb, cb, rfl, -⟩ := id sa
      unfold stV
      replace dx := dx.trans ((d10).mono dx.size)
      clear y1 y2 y3 d10
      obtain ⟨y1, y2, y3⟩ := HF.out _ dx
      go_upto_region 9 with fail
      have al := (Below.refl (w10).heap.size w10).alloc (Nat.le_refl _) (.cells #[.slice Ba s.refs.length ca, .slice Bb s.locks.length cb] 35)
      have xn := Blk2s.new_ w10 35 (.slice Ba s.refs.length ca) (.slice Bb s.locks.length cb)
      obtain ⟨w11, hw'⟩ : ∃ x, (w10).alloc (.cells #[.slice Ba s.refs.length ca, .slice Bb s.locks.length cb] 35) = x := ⟨_, rfl⟩
      rw [hw'] at al xn ⊢
      clear hw'
      have xa := xn
      replace sa := sa.on al al.size
      replace dx := dx.trans ((al).mono dx.size)
      clear y1 y2 y3 al
      obtain ⟨y1, y2, y3⟩ := HF.out _ dx
      clear xn C1
      go_wp2_with fail
      refine (C2.out _ w11 (HS2.out _ dx) (HEx.out _ dx)).mono ?_
      rintro e w12 ⟨v12, rfl, sb, d12⟩
      obtain ⟨Bc, cc, Bd, cd, rfl, -⟩ := id sb
      unfold stV
      replace xa := xa.later d12
      replace sa := sa.on d12 d12.size
      replace dx := dx.trans ((d12).mono dx.size)
      clear y1 y2 y3 d12
      obtain ⟨y1, y2, y3⟩ := HF.out _ dx
      go_upto_region 10 with fail
      have al := (Below.refl (w12).heap.size w12).alloc (Nat.le_refl _) (.cells #[.slice Bc (s.refs).length cc, .slice Bd (L).length cd] 35)
      have xn := Blk2s.new_ w12 35 (.slice Bc (s.refs).length cc) (.slice Bd (L).length cd)
      obtain ⟨w13, hw'⟩ : ∃ x, (w12).alloc (.cells #[.slice Bc (s.refs).length cc, .slice Bd (L).length cd] 35) = x := ⟨_, rfl⟩
      rw [hw'] at al xn ⊢
      clear hw'
      have xb := xn
      replace xa := xa.later al
      replace sa := sa.on al al.size
      replace sb := sb.on al al.size
      replace dx := dx.trans ((al).mono dx.size)
      clear y1 y2 y3 al
      obtain ⟨y1, y2, y3⟩ := HF.out _ dx
      clear xn C2
      obtain ⟨p0, p1, -⟩ := id xa.reads
      obtain ⟨r0, r1, -⟩ := id xb.reads
      have CM := hid (sameInts_ret Ba Bc ca cc s.refs w13 _ _ sa.rows.1 sb.rows.1 (by have := H4.out.len.1; unfold maxLen; omega))
      go_wp2_with fail
      refine CM.out.mono ?_
      rintro e w14 ⟨rfl, d14⟩
      replace xb := xb.later d14
      replace sb := sb.on d14 d14.size
      replace dx := dx.trans ((d14).mono dx.size)
      clear y1 y2 y3 d14
      obtain ⟨y1, y2, y3⟩ := HF.out _ dx
      clear p0 p1 r0 r1 xa sa CM
      obtain ⟨r0, r1, -⟩ := id xb.reads
      go_wp2_with fail
      refine (CL.out w14 Bd cd sb.rows.2).mono ?_
      rintro e w15 ⟨Aq, cq, rfl, -, d15⟩
      replace dx := dx.trans ((d15).mono dx.size)
      clear y1 y2 y3 d15
      obtain ⟨y1, y2, y3⟩ := HF.out _ dx
      clear r0 r1 xb sb CL
      go_wp2_with fail
      refine (CA.out _ w15 (HS2.out _ dx) (HEx.out _ dx)).mono ?_
      rintro e w16 ⟨rfl, d16⟩
      replace dx := dx.trans ((d16).mono dx.size)
      clear y1 y2 y3 d16
      obtain ⟨y1, y2, y3⟩ := HF.out _ dx
      clear CA
      go_wp2
      go_ret
      exact .mk_ (bw.trans (dx.mono bw.size))
theorem FnDecideAbort_any (A : Option Addr) (c : Nat) (bs : List Int) (w : World) (f1 : Row w w.heap.size A (bs.map (Value.int .u8))) (f2 : bs.length ≤ c) (f3 : c ≤ maxLen) (f4 : ∀ n ∈ bs, 0 ≤ n ∧ n < 256) (er0 er1 : Addr) (hE : Errs er0 er1 w) :
    Calls Tryd.prog 9 #[.slice A bs.length c] w (Ret (.bool true) w) := by
  by_cases hl : bs.length ≤ 1048576
  · exact FnDecideAbort_yes A c bs w ⟨f1, f2, f3, f4⟩ hl er0 er1 hE
  · exact FnDecideAbort_no A c bs w ⟨f1, f2, f3, f4⟩ hl
end Go.Proofs.YteeffchnbkkpfaaDoor
