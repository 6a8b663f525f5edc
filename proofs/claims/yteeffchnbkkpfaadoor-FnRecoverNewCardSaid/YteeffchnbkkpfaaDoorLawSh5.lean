/- The coordinator with the slices $SA and $SB is stored as the answer, with the word $BB. -/
/-
  Walks of laws on what a shard recovers.
-/
import Derived.Test.YteeffchnbkkpfaaDoorShdI
import Derived.Test.YteeffchnbkkpfaaDoorDrawSv
import Derived.Test.YteeffchnbkkpfaaDoorG4C
import Derived.Test.YteeffchnbkkpfaaDoorLawSh3
namespace Go.Proofs.YteeffchnbkkpfaaDoor
open Go.RowKit Wo Pu Rf Lk Sh

theorem Rcvd.len {rs : List Rec} {s : St} {b : Bool} (h : Rcvd rs s b) : s.refs.length ≤ 4 ∧ s.locks.length ≤ 4 := by
  rcases h with ⟨-, h1, -⟩ | ⟨-, -, rfl⟩
  · have := (Rcv.four h1).len; omega
  · exact ⟨Nat.zero_le _, Nat.zero_le _⟩
theorem FnRecoverNew_no (A : Option Addr) (c : Nat) (bs : List Int) (w : World) (h : Code_ w A c bs) (hl : ¬ bs.length ≤ 1048576) :
    Calls Tryd.prog 13 #[.slice A bs.length c] w (Ret (.bool true) w) := by
  have hc := h.2.1
  have hm := h.2.2.1
  unfold maxLen at hm
  go_enter Tryd.func13, Tryd.ntmps13
  go_wp2
  go_ret
  exact .mk_ (Below.refl _ _)
set_option linter.unusedSimpArgs false in
set_option maxRecDepth 100000 in
set_option maxHeartbeats 4000000 in
theorem FnRecoverNew_yes (A : Option Addr) (c : Nat) (bs : List Int) (w : World) (h : Code_ w A c bs) (hl : bs.length ≤ 1048576) (er0 er1 : Addr) (HE : Hid (Errs er0 er1 w)) :
    Calls Tryd.prog 13 #[.slice A bs.length c] w (Ret (.bool true) w) := by
  go_enter Tryd.func13, Tryd.ntmps13
  go_wp2_with fail
  refine (DrawShardRecover_any A c bs _ h).mono ?_
  rintro e w1 ⟨v1, rs, rfl, s1, hl, hs, bw⟩
  obtain ⟨A1, c1, rfl, r1, hc1⟩ := s1
  unfold shV
  obtain ⟨s, b, hv⟩ := rcvd_ex rs
  have HV := hid hv
  have HSM := hid hs
  have CS := hid (specShardRecover_is b s · rs · · (hs.fit (by omega)) hv)
  have CI := hid (implShardRecover_is er0 er1 b s · rs · · · (hs.fit (by omega)) hv)
  clear hv hs
  go_upto_region 4 with fail
  have al := (Below.refl (w1).heap.size w1).alloc (Nat.le_refl _) (.cells #[.slice A1 rs.length c1] 25)
  have xn := Blk1.new_ w1 25 (.slice A1 rs.length c1)
  obtain ⟨w2, hw'⟩ : ∃ x, (w1).alloc (.cells #[.slice A1 rs.length c1] 25) = x := ⟨_, rfl⟩
  rw [hw'] at al xn ⊢
  clear hw'
  have x1 := xn
  have r2 := r1.on al
  obtain ⟨y1, -⟩ := id x1.reads
  have b2 := bw.trans (al.mono bw.size)
  clear xn al r1 bw
  go_wp2_with fail
  refine (CI.out _ w2 ⟨A1, c1, rfl, r2, hc1⟩ (HE.out.below b2)).mono ?_
  rintro e w3 ⟨v3, rfl, sa, d3⟩
  obtain ⟨Ba, ca, Bb, cb, rfl, -⟩ := id sa
  unfold stV
  go_upto_region 5 with fail
  have al := (Below.refl (w3).heap.size w3).alloc (Nat.le_refl _) (.cells #[.slice Ba s.refs.length ca, .slice Bb s.locks.length cb] 35)
  have xn := Blk2s.new_ w3 35 (.slice Ba s.refs.length ca) (.slice Bb s.locks.length cb)
  obtain ⟨w4, hw'⟩ : ∃ x, (w3).alloc (.cells #[.slice Ba s.refs.length ca, .slice Bb s.locks.length cb] 35) = x := ⟨_, rfl⟩
  rw [hw'] at al xn ⊢
  clear hw'
  have d4 := d3.trans (al.mono d3.size)
  have r4 := r2.on d4
  replace sa := sa.on al al.size
  have xa := xn
  replace x1 := x1.later d4
  have b4 := b2.trans (d4.mono b2.size)
  clear y1
  obtain ⟨y1, -⟩ := id x1.reads
  clear xn al r2 b2 d3 d4 CI
  go_wp2_with fail
  refine (CS.out _ w4 ⟨A1, c1, rfl, r4, hc1⟩).mono ?_
  rintro e w5 ⟨v5, rfl, sb, d5⟩
  obtain ⟨Bc, cc, Bd, cd, rfl, -⟩ := id sb
  unfold stV
  go_upto_region 6 with fail
  have al := (Below.refl (w5).heap.size w5).alloc (Nat.le_refl _) (.cells #[.slice Bc s.refs.length cc, .slice Bd s.locks.length cd] 35)
  have xn := Blk2s.new_ w5 35 (.slice Bc s.refs.length cc) (.slice Bd s.locks.length cd)
  obtain ⟨w6, hw'⟩ : ∃ x, (w5).alloc (.cells #[.slice Bc s.refs.length cc, .slice Bd s.locks.length cd] 35) = x := ⟨_, rfl⟩
  rw [hw'] at al xn ⊢
  clear hw'
  have d6 := d5.trans (al.mono d5.size)
  have r6 := r4.on d6
  replace sa := sa.on d6 d6.size
  replace sb := sb.on al al.size
  have bw := b4.trans (d6.mono b4.size)
  have X1 := x1.later d6
  have X2 := xa.later d6
  have HEx : Hid (∀ x, Below w6.heap.size w6 x → Errs er0 er1 x) := fun x hx => HE.out.below (bw.trans (hx.mono bw.size))
  have HF : Hid (∀ x, Below w6.heap.size w6 x → x.cell? ⟨w1.heap.size, 0, none⟩ = some (.slice A1 rs.length c1) ∧ (x.cell? ⟨w3.heap.size, 0, none⟩ = some (.slice Ba s.refs.length ca) ∧ x.cell? ⟨w3.heap.size, 1, none⟩ = some (.slice Bb s.locks.length cb)) ∧ x.cell? ⟨w5.heap.size, 0, none⟩ = some (.slice Bc s.refs.length cc) ∧ x.cell? ⟨w5.heap.size, 1, none⟩ = some (.slice Bd s.locks.length cd)) :=
    fun x hx => ⟨(X1.later hx).reads.1, ⟨(X2.later hx).reads.1, (X2.later hx).reads.2.1⟩, (xn.later hx).reads.1, (xn.later hx).reads.2.1⟩
  have HS1 : Hid (∀ x, Below w6.heap.size w6 x → Shd x x.heap.size (.agg #[.slice A1 rs.length c1]) rs) := fun x hx => ⟨A1, c1, rfl, r6.on hx, hc1⟩
  have HSA : Hid (∀ x, Below w6.heap.size w6 x → Stt x x.heap.size (.agg #[.slice Ba s.refs.length ca, .slice Bb s.locks.length cb]) s) := fun x hx => sa.on hx hx.size
  have HSB : Hid (∀ x, Below w6.heap.size w6 x → Stt x x.heap.size (.agg #[.slice Bc s.refs.length cc, .slice Bd s.locks.length cd]) s) := fun x hx => sb.on hx hx.size
  have HLT : Hid (w1.heap.size < w6.heap.size ∧ w3.heap.size < w6.heap.size ∧ w5.heap.size < w6.heap.size) := ⟨X1.lt, X2.lt, xn.lt⟩
  have dx := Below.refl w6.heap.size w6
  clear y1 al xn x1 xa X1 X2 r4 r6 sa sb d5 d6 b4 CS
  obtain ⟨y1, ⟨y2, y2'⟩, y3, y3'⟩ := HF.out _ dx
  have CM := hid (sameState_is _ _ s w6 (HSA.out _ dx) (HSB.out _ dx) HV.out.len.1 HV.out.len.2)
  go_wp2_with fail
  refine CM.out.mono ?_
  rintro e w7 ⟨rfl, dn⟩
  clear CM
  replace dx := dx.trans ((dn).mono dx.size)
  clear y1 y2 y2' y3 y3' dn
  obtain ⟨y1, ⟨y2, y2'⟩, y3, y3'⟩ := HF.out _ dx
  cases b with
  | false =>
    have CM := hid (sameState_is _ _ s w7 (HSA.out _ dx) (HSB.out _ dx) HV.out.len.1 HV.out.len.2)
    go_wp2_with fail
    refine CM.out.mono ?_
    rintro e w8 ⟨rfl, dn⟩
    clear CM
    replace dx := dx.trans ((dn).mono dx.size)
    clear y1 y2 y2' y3 y3' dn
    obtain ⟨y1, ⟨y2, y2'⟩, y3, y3'⟩ := HF.out _ dx
    go_wp2
    go_ret
    exact .mk_ (bw.trans (dx.mono bw.size))
  | true =>
    have C0 := hid (implShardRecover_is er0 er1 true ⟨[-1, -1, -1, -1], [-1, -1, -1, -1]⟩ (.agg #[.slice none 0 0]) [] w7 ⟨none, 0, rfl, .inl rfl, Nat.le_refl _⟩ (HEx.out _ dx) ⟨Nat.zero_le _, fun r hr => by cases hr⟩ (.inl ⟨rfl, .nil, Nat.zero_le _⟩))
    have hrl : Hid (s.refs.length = 4) := by
      rcases HV.out with ⟨-, h1, -⟩ | ⟨h1, -⟩
      · exact (Rcv.four h1).len.1
      · cases h1
    go_wp2_with fail
    refine C0.out.mono ?_
    rintro e w8 ⟨v8, rfl, sc, d8⟩
    obtain ⟨Be, ce, Bf, cf, rfl, -⟩ := id sc
    unfold stV
    replace dx := dx.trans ((d8).mono dx.size)
    clear y1 y2 y2' y3 y3' d8
    obtain ⟨y1, ⟨y2, y2'⟩, y3, y3'⟩ := HF.out _ dx
    go_upto_region 9 with fail
    have al := (Below.refl (w8).heap.size w8).alloc (Nat.le_refl _) (.cells #[.slice Be 4 ce, .slice Bf 4 cf] 35)
    have xn := Blk2s.new_ w8 35 (.slice Be 4 ce) (.slice Bf 4 cf)
    obtain ⟨w9, hw'⟩ : ∃ x, (w8).alloc (.cells #[.slice Be 4 ce, .slice Bf 4 cf] 35) = x := ⟨_, rfl⟩
    rw [hw'] at al xn ⊢
    clear hw'
    have xc := xn
    replace sc := sc.on al al.size
    replace dx := dx.trans ((al).mono dx.size)
    clear y1 y2 y2' y3 y3' al
    obtain ⟨y1, ⟨y2, y2'⟩, y3, y3'⟩ := HF.out _ dx
    clear xn C0
    obtain ⟨z0, z1, -⟩ := id xc.reads
    have r4 := row_four w9 3
    have aq := (Below.refl w9.heap.size w9).alloc (Nat.le_refl _) (.cells #[.int .i64 (-1), .int .i64 (-1), .int .i64 (-1), .int .i64 (-1)] 3)
    have C1 := hid (sameInts_ret Be (some ⟨w9.heap.size, 0, none⟩) ce 4 [-1, -1, -1, -1] _ _ _ ((Stt.rows sc).1.below aq (Nat.le_refl _)) r4 (by decide))
    go_wp2_with fail
    refine C1.out.mono ?_
    rintro e w10 ⟨rfl, d10⟩
    have dq := aq.trans (d10.mono aq.size)
    replace sc := sc.on dq dq.size
    replace xc := xc.later dq
    replace dx := dx.trans ((dq).mono dx.size)
    clear y1 y2 y2' y3 y3' dq
    obtain ⟨y1, ⟨y2, y2'⟩, y3, y3'⟩ := HF.out _ dx
    clear z0 z1 C1 r4 aq d10
    obtain ⟨z0, z1, -⟩ := id xc.reads
    have C2 := hid (sameInts_ret Bf Be cf ce [-1, -1, -1, -1] w10 _ _ (Stt.rows sc).2 (Stt.rows sc).1 (by decide))
    go_wp2_with fail
    refine C2.out.mono ?_
    rintro e w11 ⟨rfl, d11⟩
    replace dx := dx.trans ((d11).mono dx.size)
    clear y1 y2 y2' y3 y3' d11
    obtain ⟨y1, ⟨y2, y2'⟩, y3, y3'⟩ := HF.out _ dx
    clear z0 z1 C2
    have e9 : ((s.refs.length : Int) == 4) = true := by rw [hrl.out]; rfl
    go_wp2
    go_ret
    exact .mk_ (bw.trans (dx.mono bw.size))
theorem FnRecoverNew_any (A : Option Addr) (c : Nat) (bs : List Int) (w : World) (f1 : Row w w.heap.size A (bs.map (Value.int .u8))) (f2 : bs.length ≤ c) (f3 : c ≤ maxLen) (f4 : ∀ n ∈ bs, 0 ≤ n ∧ n < 256) (er0 er1 : Addr) (hE : Errs er0 er1 w) :
    Calls Tryd.prog 13 #[.slice A bs.length c] w (Ret (.bool true) w) := by
  by_cases hl : bs.length ≤ 1048576
  · exact FnRecoverNew_yes A c bs w ⟨f1, f2, f3, f4⟩ hl er0 er1 hE
  · exact FnRecoverNew_no A c bs w ⟨f1, f2, f3, f4⟩ hl
end Go.Proofs.YteeffchnbkkpfaaDoor
