/- The coordinator with the slices $SA and $SB is stored as the answer, with the word $BB. -/
/-
  Walks of laws on shards and locks.
-/
import Derived.Test.YteeffchnbkkpfabDoorLawSh4
import Derived.Test.YteeffchnbkkpfabDoorLawSh5
import Derived.Test.YteeffchnbkkpfabDoorLockI
namespace Go.Proofs.YteeffchnbkkpfabDoor
open Go.RowKit Wo Pu Rf Lk Sh

theorem owned_iff {rs : List Rec} {s : St} (h : Rcv rs s) {t : Int} (ht : TV t) : 0 < (owned true s.locks t).length ↔ Sh.ask rs t = 1 := by
  rw [← h.inv.has ht]
  have := ofL_none t s.locks
  unfold owned
  simp only [if_true]
  constructor
  · intro h1
    exact Classical.byContradiction fun h2 => by have := this.2 h2; omega
  · intro h1
    rcases Nat.eq_zero_or_pos (ofL 0 t s.locks).length with h2 | h2
    · exact absurd h1 (this.1 h2)
    · exact h2
theorem FnLocksPrepared_no (A : Option Addr) (c : Nat) (bs : List Int) (w : World) (h : Code_ w A c bs) (hl : ¬ bs.length ≤ 1048576) :
    Calls Tryd.prog 6 #[.slice A bs.length c] w (Ret (.bool true) w) := by
  have hc := h.2.1
  have hm := h.2.2.1
  unfold maxLen at hm
  go_enter Tryd.func6, Tryd.ntmps6
  go_wp2
  go_ret
  exact .mk_ (Below.refl _ _)
set_option linter.unusedSimpArgs false in
set_option maxRecDepth 100000 in
set_option maxHeartbeats 4000000 in
theorem FnLocksPrepared_yes (A : Option Addr) (c : Nat) (bs : List Int) (w : World) (h : Code_ w A c bs) (hl : bs.length ≤ 1048576) (er0 er1 : Addr) (HE : Hid (Errs er0 er1 w)) :
    Calls Tryd.prog 6 #[.slice A bs.length c] w (Ret (.bool true) w) := by
  go_enter Tryd.func6, Tryd.ntmps6
  go_wp2_with fail
  refine (DrawShardRecover_any A c bs _ h).mono ?_
  rintro e w1 ⟨v1, rs, rfl, s1, hl, hs, bw⟩
  obtain ⟨A1, c1, rfl, r1, hc1⟩ := s1
  unfold shV
  obtain ⟨s, b, hv⟩ := rcvd_ex rs
  have HV := hid hv
  have HSM := hid hs
  have CS := hid (specShardRecover_is b s · rs · · (hs.fit (by omega)) hv)
  have CI := hid (implShardRecover_is er0 er1 b s · rs · · · (hs.fit (by omega)) hv)
  clear hv hs
  go_upto_region 4 with fail
  have al := (Below.refl (w1).heap.size w1).alloc (Nat.le_refl _) (.cells #[.slice A1 rs.length c1] 25)
  have xn := Blk1.new_ w1 25 (.slice A1 rs.length c1)
  obtain ⟨w2, hw'⟩ : ∃ x, (w1).alloc (.cells #[.slice A1 rs.length c1] 25) = x := ⟨_, rfl⟩
  rw [hw'] at al xn ⊢
  clear hw'
  have x1 := xn
  have r2 := r1.on al
  obtain ⟨y1, -⟩ := id x1.reads
  have b2 := bw.trans (al.mono bw.size)
  clear xn al r1 bw
  go_wp2_with fail
  refine (CI.out _ w2 ⟨A1, c1, rfl, r2, hc1⟩ (HE.out.below b2)).mono ?_
  rintro e w3 ⟨v3, rfl, sa, d3⟩
  obtain ⟨Ba, ca, Bb, cb, rfl, -⟩ := id sa
  unfold stV
  go_upto_region 5 with fail
  have al := (Below.refl (w3).heap.size w3).alloc (Nat.le_refl _) (.cells #[.slice Ba s.refs.length ca, .slice Bb s.locks.length cb] 37)
  have xn := Blk2s.new_ w3 37 (.slice Ba s.refs.length ca) (.slice Bb s.locks.length cb)
  obtain ⟨w4, hw'⟩ : ∃ x, (w3).alloc (.cells #[.slice Ba s.refs.length ca, .slice Bb s.locks.length cb] 37) = x := ⟨_, rfl⟩
  rw [hw'] at al xn ⊢
  clear hw'
  have d4 := d3.trans (al.mono d3.size)
  have r4 := r2.on d4
  replace sa := sa.on al al.size
  have xa := xn
  replace x1 := x1.later d4
  have b4 := b2.trans (d4.mono b2.size)
  clear y1
  obtain ⟨y1, -⟩ := id x1.reads
  clear xn al r2 b2 d3 d4 CI
  go_wp2_with fail
  refine (CS.out _ w4 ⟨A1, c1, rfl, r4, hc1⟩).mono ?_
  rintro e w5 ⟨v5, rfl, sb, d5⟩
  obtain ⟨Bc, cc, Bd, cd, rfl, -⟩ := id sb
  unfold stV
  go_upto_region 6 with fail
  have al := (Below.refl (w5).heap.size w5).alloc (Nat.le_refl _) (.cells #[.slice Bc s.refs.length cc, .slice Bd s.locks.length cd] 37)
  have xn := Blk2s.new_ w5 37 (.slice Bc s.refs.length cc) (.slice Bd s.locks.length cd)
  obtain ⟨w6, hw'⟩ : ∃ x, (w5).alloc (.cells #[.slice Bc s.refs.length cc, .slice Bd s.locks.length cd] 37) = x := ⟨_, rfl⟩
  rw [hw'] at al xn ⊢
  clear hw'
  have d6 := d5.trans (al.mono d5.size)
  have r6 := r4.on d6
  replace sa := sa.on d6 d6.size
  replace sb := sb.on al al.size
  have bw := b4.trans (d6.mono b4.size)
  have X1 := x1.later d6
  have X2 := xa.later d6
  have HEx : Hid (∀ x, Below w6.heap.size w6 x → Errs er0 er1 x) := fun x hx => HE.out.below (bw.trans (hx.mono bw.size))
  have HF : Hid (∀ x, Below w6.heap.size w6 x → x.cell? ⟨w1.heap.size, 0, none⟩ = some (.slice A1 rs.length c1) ∧ (x.cell? ⟨w3.heap.size, 0, none⟩ = some (.slice Ba s.refs.length ca) ∧ x.cell? ⟨w3.heap.size, 1, none⟩ = some (.slice Bb s.locks.length cb)) ∧ x.cell? ⟨w5.heap.size, 0, none⟩ = some (.slice Bc s.refs.length cc) ∧ x.cell? ⟨w5.heap.size, 1, none⟩ = some (.slice Bd s.locks.length cd)) :=
    fun x hx => ⟨(X1.later hx).reads.1, ⟨(X2.later hx).reads.1, (X2.later hx).reads.2.1⟩, (xn.later hx).reads.1, (xn.later hx).reads.2.1⟩
  have HS1 : Hid (∀ x, Below w6.heap.size w6 x → Shd x x.heap.size (.agg #[.slice A1 rs.length c1]) rs) := fun x hx => ⟨A1, c1, rfl, r6.on hx, hc1⟩
  have HSA : Hid (∀ x, Below w6.heap.size w6 x → Stt x x.heap.size (.agg #[.slice Ba s.refs.length ca, .slice Bb s.locks.length cb]) s) := fun x hx => sa.on hx hx.size
  have HSB : Hid (∀ x, Below w6.heap.size w6 x → Stt x x.heap.size (.agg #[.slice Bc s.refs.length cc, .slice Bd s.locks.length cd]) s) := fun x hx => sb.on hx hx.size
  have HLT : Hid (w1.heap.size < w6.heap.size ∧ w3.heap.size < w6.heap.size ∧ w5.heap.size < w6.heap.size) := ⟨X1.lt, X2.lt, xn.lt⟩
  have dx := Below.refl w6.heap.size w6
  clear y1 al xn x1 xa X1 X2 r4 r6 sa sb d5 d6 b4 CS
  obtain ⟨y1, ⟨y2, y2'⟩, y3, y3'⟩ := HF.out _ dx
  have CM := hid (sameState_is _ _ s w6 (HSA.out _ dx) (HSB.out _ dx) HV.out.len.1 HV.out.len.2)
  go_wp2_with fail
  refine CM.out.mono ?_
  rintro e w7 ⟨rfl, dn⟩
  clear CM
  replace dx := dx.trans ((dn).mono dx.size)
  clear y1 y2 y2' y3 y3' dn
  obtain ⟨y1, ⟨y2, y2'⟩, y3, y3'⟩ := HF.out _ dx
  cases b with
  | false =>
    have CM := hid (sameState_is _ _ s w7 (HSA.out _ dx) (HSB.out _ dx) HV.out.len.1 HV.out.len.2)
    go_wp2_with fail
    refine CM.out.mono ?_
    rintro e w8 ⟨rfl, dn⟩
    clear CM
    replace dx := dx.trans ((dn).mono dx.size)
    clear y1 y2 y2' y3 y3' dn
    obtain ⟨y1, ⟨y2, y2'⟩, y3, y3'⟩ := HF.out _ dx
    go_wp2
    go_ret
    exact .mk_ (bw.trans (dx.mono bw.size))
  | true =>
    have HOK : Hid (Rcv rs s ∧ rs.length ≤ 30) := by
      rcases HV.out with ⟨-, h1, h2⟩ | ⟨h1, -⟩
      · exact ⟨h1, h2⟩
      · cases h1
    have H4 := hid (Rcv.four HOK.out.1)
    go_wp2_with fail
    go_loopw [8] (fun i wr => ∃ k : Nat, k ≤ 12 ∧ i = .int .i64 k ∧ Below w7.heap.size w7 wr) (fun i _ => 12 - (intOf i).toNat)
    case atStart => exact ⟨0, Nat.zero_le _, rfl, Below.refl _ _⟩
    case round =>
      obtain ⟨k, hk, rfl, hb⟩ := hrel
      clear y1 y2 y2' y3 y3'
      have dk := dx.trans (hb.mono dx.size)
      obtain ⟨y1, ⟨y2, y2'⟩, y3, y3'⟩ := HF.out _ dk
      by_cases hlt : k < 12
      · have q1 : (k : Int) < 12 := by omega
        have tv : TV (k : Int) := ⟨by omega, by omega⟩
        have zk := dk.size
        obtain ⟨qs, hq⟩ : ∃ qs, owned true s.locks (k : Int) = qs := ⟨_, rfl⟩
        obtain ⟨z, hz⟩ : ∃ z, Sh.ask rs (k : Int) = z := ⟨_, rfl⟩
        have CL := hid (fun x (hx : Below w6.heap.size w6 x) => implLocksOf_is true qs Bb cb s.locks (k : Int) x (Stt.rows (HSA.out x hx)).2 (by have := H4.out.len.2; omega) ⟨fun _ => ⟨H4.out.2, tv⟩, fun _ => rfl⟩ hq)
        have CA := hid (fun x (hx : Below w6.heap.size w6 x) => implShardAsk_is er0 er1 z _ rs (k : Int) x (HS1.out x hx) (HEx.out x hx) (HSM.out.fit (by omega)) (.inl ⟨⟨⟨_, HOK.out.1⟩, HOK.out.2⟩, tv, hz.symm⟩))
        have ow := owned_iff HOK.out.1 tv
        rw [hq, hz] at ow
        have HKP : Hid (∀ x, Below wr.heap.size wr x → x.cell? ⟨w1.heap.size, 0, none⟩ = some (.slice A1 rs.length c1) ∧ x.cell? ⟨w3.heap.size, 1, none⟩ = some (.slice Bb s.locks.length cb)) := fun x hx => by
          obtain ⟨g1, ⟨-, g2⟩, -, -⟩ := HF.out _ (dk.trans (hx.mono zk))
          exact ⟨g1, g2⟩
        have Dwd := (Below.refl wr.heap.size wr).drew
        by_cases hz1 : z = 1
        · have e5 : (z == 1) = true := by rw [beq_iff_eq]; exact hz1
          have e4 : decide (0 < (qs.length : Int)) = true := decide_eq_true (by have := ow.2 hz1; omega)
          have e6 : decide (0 < qs.length) = true := decide_eq_true (ow.2 hz1)
          clear ow hz1 hq hz tv
          go_wp2_with fail
          refine wp_region_held_drew (S := fun x => x.cell? ⟨w1.heap.size, 0, none⟩ = some (.slice A1 rs.length c1) ∧ x.cell? ⟨w3.heap.size, 1, none⟩ = some (.slice Bb s.locks.length cb)) (by kernel_rfl) (HKP.out _ Dwd) (fun hHeld => ?_)
          obtain ⟨wd, hwd⟩ : ∃ wd, wr.drew = wd := ⟨_, rfl⟩
          rw [hwd] at hHeld Dwd ⊢
          clear hwd y1 y2 y2' y3 y3'
          refine wpAnyH_take (i := 0) (oi := _) (v := ?_) rfl (by kernel_rfl) (by kernel_rfl) (by kernel_rfl) (fun _ _ _ h => h) (Or.inl ⟨by rfl, ?_⟩) hHeld ?_
          rotate_left
          · (intro w' hSw; (try dsimp only at hSw); go_simp <;> with_reducible rfl)
          try simp only [Act.put, List.getElem_toArray, List.getElem_cons_succ, List.getElem_cons_zero, List.setIfInBounds_toArray, List.set_cons_zero, List.set_cons_succ]
          refine wpAnyH_take (i := 1) (oi := _) (v := ?_) rfl (by kernel_rfl) (by kernel_rfl) (by kernel_rfl) (fun _ _ _ h => h) (Or.inl ⟨by rfl, ?_⟩) hHeld ?_
          rotate_left
          · (intro w' hSw; (try dsimp only at hSw); go_simp <;> with_reducible rfl)
          try simp only [Act.put, List.getElem_toArray, List.getElem_cons_succ, List.getElem_cons_zero, List.setIfInBounds_toArray, List.set_cons_zero, List.set_cons_succ]
          refine wpAnyH_take (i := 2) (oi := _) (v := ?_) rfl (by kernel_rfl) (by kernel_rfl) (by kernel_rfl) (fun _ _ _ h => h) (Or.inl ⟨by rfl, ?_⟩) hHeld ?_
          rotate_left
          · (intro w' hSw; (try dsimp only at hSw); go_simp <;> with_reducible rfl)
          try simp only [Act.put, List.getElem_toArray, List.getElem_cons_succ, List.getElem_cons_zero, List.setIfInBounds_toArray, List.set_cons_zero, List.set_cons_succ]
          refine wpAnyH_take (i := 6) (oi := _) (v := ?_) rfl (by kernel_rfl) (by kernel_rfl) (by kernel_rfl) (fun _ _ _ h => h) (Or.inl ⟨by rfl, ?_⟩) hHeld ?_
          rotate_left
          · (intro w' hSw; (try dsimp only at hSw); go_simp <;> with_reducible rfl)
          try simp only [Act.put, List.getElem_toArray, List.getElem_cons_succ, List.getElem_cons_zero, List.setIfInBounds_toArray, List.set_cons_zero, List.set_cons_succ]
          refine wpAnyH_take (i := 7) (oi := _) (v := ?_) rfl (by kernel_rfl) (by kernel_rfl) (by kernel_rfl) (fun _ _ _ h => h) (Or.inl ⟨by rfl, ?_⟩) hHeld ?_
          rotate_left
          · (intro w' hSw; (try dsimp only at hSw); go_simp <;> with_reducible rfl)
          try simp only [Act.put, List.getElem_toArray, List.getElem_cons_succ, List.getElem_cons_zero, List.setIfInBounds_toArray, List.set_cons_zero, List.set_cons_succ]
          refine wpAnyH_ready (rs := [3]) (by kernel_rfl) (by simp) (AllReadyH.cons (o := _) rfl (fun K hK => ?_) AllReadyH.nil)
          try simp only [Act.put, List.getElem_toArray, List.getElem_cons_succ, List.getElem_cons_zero, List.setIfInBounds_toArray, List.set_cons_zero, List.set_cons_succ]
          go_simp
          go_at_call 32
          refine (CL.out wd (dk.trans (Dwd.mono zk))).mono ?_
          rintro e we ⟨Aq, cq, rfl, -, de⟩
          have De := Dwd.trans (de.mono Dwd.size)
          refine hK.out _ _ (HKP.out _ De) (fun hHeld => ?_)
          clear hK K
          try simp only [Act.put, List.getElem_toArray, List.getElem_cons_succ, List.getElem_cons_zero, List.setIfInBounds_toArray, List.set_cons_zero, List.set_cons_succ]
          refine wpAnyH_take (i := 4) (oi := _) (v := ?_) rfl (by kernel_rfl) (by kernel_rfl) (by kernel_rfl) (fun _ _ _ h => h) (Or.inl ⟨by rfl, ?_⟩) hHeld ?_
          rotate_left
          · (intro w' hSw; (try dsimp only at hSw); go_simp <;> with_reducible rfl)
          try simp only [Act.put, List.getElem_toArray, List.getElem_cons_succ, List.getElem_cons_zero, List.setIfInBounds_toArray, List.set_cons_zero, List.set_cons_succ]
          refine wpAnyH_take (i := 5) (oi := _) (v := ?_) rfl (by kernel_rfl) (by kernel_rfl) (by kernel_rfl) (fun _ _ _ h => h) (Or.inl ⟨by rfl, ?_⟩) hHeld ?_
          rotate_left
          · (intro w' hSw; (try dsimp only at hSw); go_simp <;> with_reducible rfl)
          try simp only [Act.put, List.getElem_toArray, List.getElem_cons_succ, List.getElem_cons_zero, List.setIfInBounds_toArray, List.set_cons_zero, List.set_cons_succ]
          refine wpAnyH_ready (rs := [8]) (by kernel_rfl) (by simp) (AllReadyH.cons (o := _) rfl (fun K hK => ?_) AllReadyH.nil)
          try simp only [Act.put, List.getElem_toArray, List.getElem_cons_succ, List.getElem_cons_zero, List.setIfInBounds_toArray, List.set_cons_zero, List.set_cons_succ]
          go_simp
          go_at_call 25
          refine (CA.out we (dk.trans (De.mono zk))).mono ?_
          rintro e wf ⟨rfl, df⟩
          have Df := De.trans (df.mono De.size)
          have hb9 := hb.trans (Df.mono hb.size)
          refine hK.out _ _ (HKP.out _ Df) (fun hHeld => ?_)
          clear hK K
          try simp only [Act.put, List.getElem_toArray, List.getElem_cons_succ, List.getElem_cons_zero, List.setIfInBounds_toArray, List.set_cons_zero, List.set_cons_succ]
          refine wpAnyH_take (i := 9) (oi := _) (v := ?_) rfl (by kernel_rfl) (by kernel_rfl) (by kernel_rfl) (fun _ _ _ h => h) (Or.inl ⟨by rfl, ?_⟩) hHeld ?_
          rotate_left
          · (intro w' hSw; (try dsimp only at hSw); go_simp <;> with_reducible rfl)
          try simp only [Act.put, List.getElem_toArray, List.getElem_cons_succ, List.getElem_cons_zero, List.setIfInBounds_toArray, List.set_cons_zero, List.set_cons_succ]
          refine wpAnyH_take (i := 10) (oi := _) (v := ?_) rfl (by kernel_rfl) (by kernel_rfl) (by kernel_rfl) (fun _ _ _ h => h) (Or.inl ⟨by rfl, ?_⟩) hHeld ?_
          rotate_left
          · (intro w' hSw; (try dsimp only at hSw); go_simp <;> with_reducible rfl)
          try simp only [Act.put, List.getElem_toArray, List.getElem_cons_succ, List.getElem_cons_zero, List.setIfInBounds_toArray, List.set_cons_zero, List.set_cons_succ]
          refine wpAnyH_done (by kernel_rfl) ?_ _
          clear hHeld HKP Dwd de De df Df CL CA
          go_wp2
          go_roundw
          case rel => exact ⟨k + 1, by omega, by go_num, hb9⟩
          case measure => simp [intOf]; omega
        · have e5 : (z == 1) = false := by rw [beq_eq_false_iff_ne]; exact hz1
          have e4 : decide (0 < (qs.length : Int)) = false := decide_eq_false (fun e => hz1 (ow.1 (by omega)))
          have e6 : decide (0 < qs.length) = false := decide_eq_false (fun e => hz1 (ow.1 e))
          clear ow hz1 hq hz tv
          go_wp2_with fail
          refine wp_region_held_drew (S := fun x => x.cell? ⟨w1.heap.size, 0, none⟩ = some (.slice A1 rs.length c1) ∧ x.cell? ⟨w3.heap.size, 1, none⟩ = some (.slice Bb s.locks.length cb)) (by kernel_rfl) (HKP.out _ Dwd) (fun hHeld => ?_)
          obtain ⟨wd, hwd⟩ : ∃ wd, wr.drew = wd := ⟨_, rfl⟩
          rw [hwd] at hHeld Dwd ⊢
          clear hwd y1 y2 y2' y3 y3'
          refine wpAnyH_take (i := 0) (oi := _) (v := ?_) rfl (by kernel_rfl) (by kernel_rfl) (by kernel_rfl) (fun _ _ _ h => h) (Or.inl ⟨by rfl, ?_⟩) hHeld ?_
          rotate_left
          · (intro w' hSw; (try dsimp only at hSw); go_simp <;> with_reducible rfl)
          try simp only [Act.put, List.getElem_toArray, List.getElem_cons_succ, List.getElem_cons_zero, List.setIfInBounds_toArray, List.set_cons_zero, List.set_cons_succ]
          refine wpAnyH_take (i := 1) (oi := _) (v := ?_) rfl (by kernel_rfl) (by kernel_rfl) (by kernel_rfl) (fun _ _ _ h => h) (Or.inl ⟨by rfl, ?_⟩) hHeld ?_
          rotate_left
          · (intro w' hSw; (try dsimp only at hSw); go_simp <;> with_reducible rfl)
          try simp only [Act.put, List.getElem_toArray, List.getElem_cons_succ, List.getElem_cons_zero, List.setIfInBounds_toArray, List.set_cons_zero, List.set_cons_succ]
          refine wpAnyH_take (i := 2) (oi := _) (v := ?_) rfl (by kernel_rfl) (by kernel_rfl) (by kernel_rfl) (fun _ _ _ h => h) (Or.inl ⟨by rfl, ?_⟩) hHeld ?_
          rotate_left
          · (intro w' hSw; (try dsimp only at hSw); go_simp <;> with_reducible rfl)
          try simp only [Act.put, List.getElem_toArray, List.getElem_cons_succ, List.getElem_cons_zero, List.setIfInBounds_toArray, List.set_cons_zero, List.set_cons_succ]
          refine wpAnyH_take (i := 6) (oi := _) (v := ?_) rfl (by kernel_rfl) (by kernel_rfl) (by kernel_rfl) (fun _ _ _ h => h) (Or.inl ⟨by rfl, ?_⟩) hHeld ?_
          rotate_left
          · (intro w' hSw; (try dsimp only at hSw); go_simp <;> with_reducible rfl)
          try simp only [Act.put, List.getElem_toArray, List.getElem_cons_succ, List.getElem_cons_zero, List.setIfInBounds_toArray, List.set_cons_zero, List.set_cons_succ]
          refine wpAnyH_take (i := 7) (oi := _) (v := ?_) rfl (by kernel_rfl) (by kernel_rfl) (by kernel_rfl) (fun _ _ _ h => h) (Or.inl ⟨by rfl, ?_⟩) hHeld ?_
          rotate_left
          · (intro w' hSw; (try dsimp only at hSw); go_simp <;> with_reducible rfl)
          try simp only [Act.put, List.getElem_toArray, List.getElem_cons_succ, List.getElem_cons_zero, List.setIfInBounds_toArray, List.set_cons_zero, List.set_cons_succ]
          refine wpAnyH_ready (rs := [3]) (by kernel_rfl) (by simp) (AllReadyH.cons (o := _) rfl (fun K hK => ?_) AllReadyH.nil)
          try simp only [Act.put, List.getElem_toArray, List.getElem_cons_succ, List.getElem_cons_zero, List.setIfInBounds_toArray, List.set_cons_zero, List.set_cons_succ]
          go_simp
          go_at_call 32
          refine (CL.out wd (dk.trans (Dwd.mono zk))).mono ?_
          rintro e we ⟨Aq, cq, rfl, -, de⟩
          have De := Dwd.trans (de.mono Dwd.size)
          refine hK.out _ _ (HKP.out _ De) (fun hHeld => ?_)
          clear hK K
          try simp only [Act.put, List.getElem_toArray, List.getElem_cons_succ, List.getElem_cons_zero, List.setIfInBounds_toArray, List.set_cons_zero, List.set_cons_succ]
          refine wpAnyH_take (i := 4) (oi := _) (v := ?_) rfl (by kernel_rfl) (by kernel_rfl) (by kernel_rfl) (fun _ _ _ h => h) (Or.inl ⟨by rfl, ?_⟩) hHeld ?_
          rotate_left
          · (intro w' hSw; (try dsimp only at hSw); go_simp <;> with_reducible rfl)
          try simp only [Act.put, List.getElem_toArray, List.getElem_cons_succ, List.getElem_cons_zero, List.setIfInBounds_toArray, List.set_cons_zero, List.set_cons_succ]
          refine wpAnyH_take (i := 5) (oi := _) (v := ?_) rfl (by kernel_rfl) (by kernel_rfl) (by kernel_rfl) (fun _ _ _ h => h) (Or.inl ⟨by rfl, ?_⟩) hHeld ?_
          rotate_left
          · (intro w' hSw; (try dsimp only at hSw); go_simp <;> with_reducible rfl)
          try simp only [Act.put, List.getElem_toArray, List.getElem_cons_succ, List.getElem_cons_zero, List.setIfInBounds_toArray, List.set_cons_zero, List.set_cons_succ]
          refine wpAnyH_ready (rs := [8]) (by kernel_rfl) (by simp) (AllReadyH.cons (o := _) rfl (fun K hK => ?_) AllReadyH.nil)
          try simp only [Act.put, List.getElem_toArray, List.getElem_cons_succ, List.getElem_cons_zero, List.setIfInBounds_toArray, List.set_cons_zero, List.set_cons_succ]
          go_simp
          go_at_call 25
          refine (CA.out we (dk.trans (De.mono zk))).mono ?_
          rintro e wf ⟨rfl, df⟩
          have Df := De.trans (df.mono De.size)
          have hb9 := hb.trans (Df.mono hb.size)
          refine hK.out _ _ (HKP.out _ Df) (fun hHeld => ?_)
          clear hK K
          try simp only [Act.put, List.getElem_toArray, List.getElem_cons_succ, List.getElem_cons_zero, List.setIfInBounds_toArray, List.set_cons_zero, List.set_cons_succ]
          refine wpAnyH_take (i := 9) (oi := _) (v := ?_) rfl (by kernel_rfl) (by kernel_rfl) (by kernel_rfl) (fun _ _ _ h => h) (Or.inl ⟨by rfl, ?_⟩) hHeld ?_
          rotate_left
          · (intro w' hSw; (try dsimp only at hSw); go_simp <;> with_reducible rfl)
          try simp only [Act.put, List.getElem_toArray, List.getElem_cons_succ, List.getElem_cons_zero, List.setIfInBounds_toArray, List.set_cons_zero, List.set_cons_succ]
          refine wpAnyH_take (i := 10) (oi := _) (v := ?_) rfl (by kernel_rfl) (by kernel_rfl) (by kernel_rfl) (fun _ _ _ h => h) (Or.inl ⟨by rfl, ?_⟩) hHeld ?_
          rotate_left
          · (intro w' hSw; (try dsimp only at hSw); go_simp <;> with_reducible rfl)
          try simp only [Act.put, List.getElem_toArray, List.getElem_cons_succ, List.getElem_cons_zero, List.setIfInBounds_toArray, List.set_cons_zero, List.set_cons_succ]
          refine wpAnyH_done (by kernel_rfl) ?_ _
          clear hHeld HKP Dwd de De df Df CL CA
          go_wp2
          go_roundw
          case rel => exact ⟨k + 1, by omega, by go_num, hb9⟩
          case measure => simp [intOf]; omega
      · go_wp2
        go_ret
        exact .mk_ (bw.trans (dk.mono bw.size))
theorem FnLocksPrepared_any (A : Option Addr) (c : Nat) (bs : List Int) (w : World) (f1 : Row w w.heap.size A (bs.map (Value.int .u8))) (f2 : bs.length ≤ c) (f3 : c ≤ maxLen) (f4 : ∀ n ∈ bs, 0 ≤ n ∧ n < 256) (er0 er1 : Addr) (hE : Errs er0 er1 w) :
    Calls Tryd.prog 6 #[.slice A bs.length c] w (Ret (.bool true) w) := by
  by_cases hl : bs.length ≤ 1048576
  · exact FnLocksPrepared_yes A c bs w ⟨f1, f2, f3, f4⟩ hl er0 er1 hE
  · exact FnLocksPrepared_no A c bs w ⟨f1, f2, f3, f4⟩ hl
/-- An abort that is taken. -/
structure Abt (rs xs : List Rec) (t : Int) (s : St) (L : List Int) : Prop where
  old : Rcv rs s
  new : Rcv xs ⟨s.refs, L⟩
  ask : Sh.ask xs t = 3
  vx : Vld xs
  vr : Vld rs
  tv : TV t
theorem abt_one {rs xs : List Rec} {t : Int} (h : Decided rs t 3 xs true) : ∃ s L, Abt rs xs t s L := by
  have hv := decided_valid h
  have key : Vld rs ∧ TV t := by
    cases h with
    | known h1 h2 _ => exact ⟨h1, h2⟩
    | yes h1 h2 _ _ => exact ⟨h1, h2⟩
  obtain ⟨h1, h2⟩ := key
  obtain ⟨⟨s, hs⟩, hl⟩ := id h1
  by_cases ha : Sh.ask rs t = 3
  · obtain ⟨rfl, -⟩ := h.known_ h1 h2 ha
    exact ⟨s, s.locks, hs, hs, ha, hv, h1, h2⟩
  · obtain ⟨g1, g2⟩ := h.new_ h1 h2 ha
    simp only [if_true] at g2
    subst g2
    exact ⟨s, freeL t s.locks, hs, .snoc hs h2 (.abort rfl ((Vld.abort_iff hs h2).1 (g1.1 rfl)).2 rfl), by rw [ask_snoc, if_pos rfl], hv, h1, h2⟩
end Go.Proofs.YteeffchnbkkpfabDoor
