/- The coordinator with the slices $SA and $SB is stored as the answer, with the word $BB. -/
/-
  Walk of the law that refs are those of the committed transactions.
-/
import Derived.Test.YteeffchnbkkpfabDoorLawSh7
namespace Go.Proofs.YteeffchnbkkpfabDoor
open Go.RowKit Wo Pu Rf Lk Sh

/-! ### One vote, at one place. -/
theorem Sh.Rcv.fresh {rs : List Rec} {s : St} (h : Rcv rs s) : rs.Pairwise fun a b => b.k = 1 → a.t ≠ b.t := by
  induction h with
  | nil => exact List.Pairwise.nil
  | @snoc rs s s' r h1 _ h3 ih =>
    refine List.pairwise_append.2 ⟨ih, List.pairwise_singleton _ _, fun a ha b hb e => ?_⟩
    obtain rfl : b = r := by simpa using hb
    have : Sh.ask rs b.t = 0 := by cases h3 <;> first | assumption | omega
    exact h1.inv.none_ _ this a ha
theorem upd_at {z : Int} : ∀ {rs : List Rec} {j : Nat} (hj : j < rs.length), rs[j].t = z ∧ rs[j].k = 1 → (∀ i (hi : i < j), ¬ (rs[i].t = z ∧ rs[i].k = 1)) → upd rs z = rs[j].us := by
  intro rs
  induction rs with
  | nil => intro j hj; simp at hj
  | cons x rs ih =>
    intro j hj h1 h2
    cases j with
    | zero => exact if_pos h1
    | succ j =>
      show (if x.t = z ∧ x.k = 1 then x.us else upd rs z) = _
      rw [if_neg (show ¬ (x.t = z ∧ x.k = 1) from h2 0 (Nat.succ_pos _))]
      exact ih (by simpa using hj) h1 fun i hi => h2 (i + 1) (by omega)
theorem upd_none {z : Int} {rs : List Rec} (h : ∀ x ∈ rs, ¬ (x.t = z ∧ x.k = 1)) : upd rs z = [] := by
  induction rs with
  | nil => rfl
  | cons x rs ih =>
    show (if x.t = z ∧ x.k = 1 then x.us else upd rs z) = _
    rw [if_neg (h x List.mem_cons_self)]
    exact ih fun y hy => h y (List.mem_cons_of_mem _ hy)
theorem vote_at {rs : List Rec} {s : St} (h : Rcv rs s) {z : Int} (hu : UV (upd rs z)) :
    ∃ p, ∃ hp : p < rs.length, rs[p].us = upd rs z ∧ ∀ j (hj : j < rs.length), (rs[j].t = z ∧ rs[j].k = 1) ↔ j = p := by
  by_cases he : ∃ x ∈ rs, x.t = z ∧ x.k = 1
  · obtain ⟨x, hx, hz⟩ := he
    obtain ⟨p, hp, rfl⟩ := List.mem_iff_getElem.1 hx
    have hf := List.pairwise_iff_getElem.1 h.fresh
    have uni : ∀ j (hj : j < rs.length), (rs[j].t = z ∧ rs[j].k = 1) → j = p := fun j hj h2 => by
      rcases Nat.lt_trichotomy j p with e | e | e
      · exact absurd (h2.1.trans hz.1.symm) (hf j p hj hp e hz.2)
      · exact e
      · exact absurd (hz.1.trans h2.1.symm) (hf p j hp hj e h2.2)
    refine ⟨p, hp, (upd_at hp hz fun i hi h2 => ?_).symm, fun j hj => ⟨uni j hj, fun e => by subst e; exact hz⟩⟩
    have := uni i (by omega) h2
    omega
  · exact absurd (upd_none fun x hx hz => he ⟨x, hx, hz⟩) hu.1
theorem after_succ {rs : List Rec} {zs : List Int} {i : Nat} (h : i < zs.length) : after rs (zs.take (i + 1)) = setR (after rs (zs.take i)) (upd rs zs[i]) := by
  unfold after
  rw [List.take_succ_eq_append_getElem h, List.foldl_append]
  rfl
theorem after_RV {rs : List Rec} {zs : List Int} (h : ∀ i (hi : i < zs.length), UV (upd rs zs[i])) : ∀ i, i ≤ zs.length → RV (after rs (zs.take i)) := by
  intro i
  induction i with
  | zero => intro _; exact Inv.begin_.refs
  | succ i ih =>
    intro hi
    rw [after_succ (by omega)]
    exact setR_RV (ih (by omega)) fun u hu => ((h i (by omega)).2.mem u hu).2.2.2.1
/-- What the rounds over records do for the i-th commit. -/
def Place (rs : List Rec) (zs : List Int) (i p : Nat) : Prop :=
  ∃ hi : i < zs.length, ∃ hp : p < rs.length, (∀ j (hj : j < rs.length), (rs[j].t = zs[i] ∧ rs[j].k = 1) ↔ j = p) ∧ after rs (zs.take (i + 1)) = setR (after rs (zs.take i)) rs[p].us ∧ IsRWay (after rs (zs.take i)) rs[p].us .yes
theorem place_ex {rs : List Rec} {s : St} (h : Rcv rs s) {i : Nat} (hi : i < (com rs).length) : ∃ p, Place rs (com rs) i p := by
  have hr := h.refs_of.2
  obtain ⟨h1, h2⟩ := hr i hi
  obtain ⟨p, hp, e, h3⟩ := vote_at h h1
  exact ⟨p, hi, hp, h3, by rw [after_succ hi, e], after_RV (fun j hj => (hr j hj).1) i (by omega), by rw [e]; exact h1, by rw [e]; exact h2⟩
theorem implApply_yes (A A2 : Option Addr) (c c2 : Nat) (zs : List Int) (us : List Up) (w : World) (hz : Row w w.heap.size A (ints zs)) (hu : Row w w.heap.size A2 (upsV us)) (hm : us.length ≤ 1048600) (hy : IsRWay zs us .yes) :
    Calls Tryd.prog 19 #[.slice A zs.length c, .slice A2 us.length c2] w (fun e w' => ∃ A c, e = .returned (.tuple #[.slice A (setR zs us).length c, .bool true]) ∧ Row w' w'.heap.size A (ints (setR zs us)) ∧ Below w.heap.size w w') :=
  (implRefsApply_is .yes A A2 c c2 zs us w hz hu (by have := hy.1.1; omega) hm hy).mono fun _ _ ⟨A, c, h1, h2, h3⟩ => ⟨A, c, h1, h2.row, h3⟩
theorem FnCommittedRefs_no (A : Option Addr) (c : Nat) (bs : List Int) (w : World) (h : Code_ w A c bs) (hl : ¬ bs.length ≤ 1048576) :
    Calls Tryd.prog 3 #[.slice A bs.length c] w (Ret (.bool true) w) := by
  have hc := h.2.1
  have hm := h.2.2.1
  unfold maxLen at hm
  go_enter Tryd.func3, Tryd.ntmps3
  go_wp2
  go_ret
  exact .mk_ (Below.refl _ _)
set_option linter.unusedSimpArgs false in
set_option maxRecDepth 100000 in
set_option maxHeartbeats 4000000 in
theorem FnCommittedRefs_yes (A : Option Addr) (c : Nat) (bs : List Int) (w : World) (h : Code_ w A c bs) (hl : bs.length ≤ 1048576) (er0 er1 : Addr) (HE : Hid (Errs er0 er1 w)) :
    Calls Tryd.prog 3 #[.slice A bs.length c] w (Ret (.bool true) w) := by
  go_enter Tryd.func3, Tryd.ntmps3
  go_wp2_with fail
  refine (DrawShardCommitted_any A c bs _ h).mono ?_
  rintro e w1 ⟨v1, rs, rfl, s1, hl, hs, bw⟩
  obtain ⟨A1, c1, rfl, r1, hc1⟩ := s1
  unfold shV
  obtain ⟨zs, hv⟩ := comOf_ex rs
  have HV := hid hv
  have HSM := hid hs
  have CS := hid (specShardCommitted_is zs · rs · · (hs.fit (by omega)) hv)
  have CI := hid (implShardCommitted_is er0 er1 zs · rs · · · (hs.fit (by omega)) hv)
  have hzl : zs.length ≤ 31 := by
    rcases hv with ⟨-, h1⟩ | ⟨-, h1⟩
    · rw [h1]; have := com_len rs; omega
    · rw [h1]; exact Nat.zero_le _
  clear hv hs
  go_upto_region 4 with fail
  have al := (Below.refl (w1).heap.size w1).alloc (Nat.le_refl _) (.cells #[.slice A1 rs.length c1] 25)
  have xn := Blk1.new_ w1 25 (.slice A1 rs.length c1)
  obtain ⟨w2, hw'⟩ : ∃ x, (w1).alloc (.cells #[.slice A1 rs.length c1] 25) = x := ⟨_, rfl⟩
  rw [hw'] at al xn ⊢
  clear hw'
  have x1 := xn
  have r2 := r1.on al
  obtain ⟨y1, -⟩ := id x1.reads
  have b2 := bw.trans (al.mono bw.size)
  clear xn al r1 bw
  go_wp2_with fail
  refine (CI.out _ w2 ⟨A1, c1, rfl, r2, hc1⟩ (HE.out.below b2)).mono ?_
  rintro e w3 ⟨Ba, ca, rfl, oa, d3⟩
  have ra := oa.row
  have r3 := r2.on d3
  replace x1 := x1.later d3
  have b3 := b2.trans (d3.mono b2.size)
  clear y1
  obtain ⟨y1, -⟩ := id x1.reads
  clear r2 b2 d3 CI oa
  go_wp2_with fail
  refine (CS.out _ w3 ⟨A1, c1, rfl, r3, hc1⟩).mono ?_
  rintro e w4 ⟨Bb, cb, rfl, ob, d4⟩
  have rb := ob.row
  have r4 := r3.on d4
  have ra4 := (ra.below d4 (Nat.le_refl _)).more d4.size
  replace x1 := x1.later d4
  have bw := b3.trans (d4.mono b3.size)
  have HEx : Hid (∀ x, Below w4.heap.size w4 x → Errs er0 er1 x) := fun x hx => HE.out.below (bw.trans (hx.mono bw.size))
  have HF : Hid (∀ x, Below w4.heap.size w4 x → x.cell? ⟨w1.heap.size, 0, none⟩ = some (.slice A1 rs.length c1)) := fun x hx => (x1.later hx).reads.1
  have HS1 : Hid (∀ x, Below w4.heap.size w4 x → Shd x x.heap.size (.agg #[.slice A1 rs.length c1]) rs) := fun x hx => ⟨A1, c1, rfl, r4.on hx, hc1⟩
  have HRA : Hid (∀ x, Below w4.heap.size w4 x → Row x w4.heap.size Ba (ints zs)) := fun x hx => ra4.below hx (Nat.le_refl _)
  have HRB : Hid (∀ x, Below w4.heap.size w4 x → Row x w4.heap.size Bb (ints zs)) := fun x hx => rb.below hx (Nat.le_refl _)
  have HLT : Hid (w1.heap.size < w4.heap.size) := x1.lt
  have dx := Below.refl w4.heap.size w4
  clear y1 x1 ra rb ra4 r3 r4 b3 d4 CS ob
  have y1 := HF.out _ dx
  have CM := hid (sameInts_ret Ba Bb ca cb zs w4 _ _ (HRA.out _ dx) (HRB.out _ dx) (by unfold maxLen; omega))
  go_wp2_with fail
  refine CM.out.mono ?_
  rintro e w5 ⟨rfl, dn⟩
  clear CM
  replace dx := dx.trans ((dn).mono dx.size)
  clear y1 dn
  have y1 := HF.out _ dx
  obtain ⟨vs, hvs⟩ := bool_ofP (Vld rs)
  have CV := hid (specShardValid_is vs _ rs w5 (HS1.out _ dx) (HSM.out.fit (by omega)) hvs)
  have HVS := hid hvs
  clear hvs
  go_wp2_with fail
  refine CV.out.mono ?_
  rintro e w6 ⟨rfl, d6⟩
  replace dx := dx.trans ((d6).mono dx.size)
  clear y1 d6
  have y1 := HF.out _ dx
  clear CV
  cases vs with
  | false =>
    have CM := hid (sameInts_ret Ba Bb ca cb zs w6 _ _ (HRA.out _ dx) (HRB.out _ dx) (by unfold maxLen; omega))
    go_wp2_with fail
    refine CM.out.mono ?_
    rintro e w7 ⟨rfl, dn⟩
    clear CM
    replace dx := dx.trans ((dn).mono dx.size)
    clear y1 dn
    have y1 := HF.out _ dx
    go_wp2
    go_ret
    exact .mk_ (bw.trans (dx.mono bw.size))
  | true =>
    have HVV := hid (HVS.out.1 rfl)
    obtain ⟨s, HS0⟩ : ∃ s, Hid (Rcv rs s) := by
      obtain ⟨⟨s, hs⟩, -⟩ := HVV.out
      exact ⟨s, hs⟩
    have HZS : Hid (zs = Sh.com rs) := by
      rcases HV.out with ⟨-, h1⟩ | ⟨h1, -⟩
      · exact h1
      · exact absurd HVV.out h1
    have HPL : Hid (∀ i, i < zs.length → ∃ p, Place rs zs i p) := fun i hi => by
      have e := HZS.out
      subst e
      exact place_ex HS0.out hi
    have HFN : Hid (after rs (zs.take zs.length) = s.refs) := by
      show _ = _
      rw [List.take_length, HZS.out]
      exact HS0.out.refs_of.1.symm
    have HR4 : Hid (s.refs.length = 4) := HS0.out.inv.refs.1
    have CR : Hid (∀ x v, Below w4.heap.size w4 x → Shd x x.heap.size v rs → Calls Tryd.prog 20 #[v] x (NewStB s true x)) := fun x v hx hv => implShardRecover_is er0 er1 true s v rs x hv (HEx.out x hx) (HSM.out.fit (by omega)) (.inl ⟨rfl, HS0.out, HVV.out.2⟩)
    have HRR : Hid (∀ x, Below w4.heap.size w4 x → Recs x x.heap.size A1 rs) := fun x hx => by
      obtain ⟨A', c', e, h0, -⟩ := HS1.out x hx
      unfold shV at e
      cases e
      exact h0
    have HUL : Hid (∀ r ∈ rs, r.us.length ≤ 1048600) := fun r hr => Nat.le_trans ((HSM.out.fit (by omega)).2 r hr) (by omega)
    have r4 := row_four w6 3
    have aq := (Below.refl w6.heap.size w6).alloc (Nat.le_refl _) (.cells #[.int .i64 (-1), .int .i64 (-1), .int .i64 (-1), .int .i64 (-1)] 3)
    have hrl : rs.length ≤ 31 := by have := hl; omega
    go_wp2_with fail
    go_loopw [6, 7] (fun a i wr => ∃ (k : Nat) (A : Option Addr) (c : Nat) (qs : List Int), k ≤ zs.length ∧ i = .int .i64 k ∧ a = .slice A qs.length c ∧ Hid (qs = after rs (zs.take k)) ∧ Row wr wr.heap.size A (ints qs) ∧ Below w6.heap.size w6 wr) (fun _ i _ => zs.length - (intOf i).toNat)
    case atStart => exact ⟨0, _, 4, [-1, -1, -1, -1], Nat.zero_le _, rfl, rfl, rfl, r4, aq⟩
    case round =>
      obtain ⟨k, Ar, cr, qs, hk, rfl, rfl, HQ, hr, hb⟩ := hrel
      clear y1 r4 aq
      have dk := dx.trans (hb.mono dx.size)
      have y1 := HF.out _ dk
      by_cases hlt : k < zs.length
      · obtain ⟨p, hpl⟩ := HPL.out k hlt
        have HP := hid hpl
        have hp : p < rs.length := by obtain ⟨_, h1, -⟩ := hpl; exact h1
        have k0 : 0 ≤ (k : Int) := by omega
        have k1 : (k : Int) < (zs.length : Int) := by omega
        have HU : Hid (∀ m, m < rs.length → (if p < m + 1 then after rs (zs.take (k + 1)) else after rs (zs.take k)) = if m = p then after rs (zs.take (k + 1)) else if p < m then after rs (zs.take (k + 1)) else after rs (zs.take k)) := fun m _ => by
          by_cases h1 : m = p
          · rw [if_pos h1, if_pos (by omega)]
          · rw [if_neg h1]
            by_cases h2 : p < m
            · rw [if_pos h2, if_pos (by omega)]
            · rw [if_neg h2, if_neg (by omega)]
        clear hpl
        go_wp2_with fail
        go_loopw [6, 8] (fun a j wq => ∃ (m : Nat) (A : Option Addr) (c : Nat) (ps : List Int), m ≤ rs.length ∧ j = .int .i64 m ∧ a = .slice A ps.length c ∧ Hid (ps = if p < m then after rs (zs.take (k + 1)) else after rs (zs.take k)) ∧ Row wq wq.heap.size A (ints ps) ∧ Below w6.heap.size w6 wq) (fun _ j _ => rs.length - (intOf j).toNat)
        case atStart => exact ⟨0, Ar, cr, qs, Nat.zero_le _, rfl, rfl, (by show qs = _; rw [if_neg (Nat.not_lt_zero _)]; exact HQ.out), hr, hb⟩
        case round =>
          obtain ⟨m, Ai, ci, ps, hm, rfl, rfl, HPS, hri, hbi⟩ := hrel
          clear y1 hr hb dk
          have di := dx.trans (hbi.mono dx.size)
          have y1 := HF.out _ di
          by_cases hlm : m < rs.length
          · obtain ⟨r, ad, A', c', hre, ea, ha, g0, g1, g2, -, g4⟩ := (HRR.out _ di).rec hlm
            obtain ⟨bd, eb, hbb, hc⟩ := (HRA.out _ di).int_ hlt
            have hul := HUL.out r (by rw [← hre]; exact List.getElem_mem hlm)
            have m0 : 0 ≤ (m : Int) := by omega
            have m1 : (m : Int) < (rs.length : Int) := by omega
            have HIF : Hid ((r.t = zs[k] ∧ r.k = 1) ↔ m = p) := by obtain ⟨_, _, h3, -⟩ := HP.out; rw [← hre]; exact h3 m hlm
            have HNX := hid (HU.out m hlm)
            have HRE := hid hre
            have HG4 := hid g4
            have HPL2 : Hid (after rs (zs.take (k + 1)) = setR (after rs (zs.take k)) rs[p].us ∧ IsRWay (after rs (zs.take k)) rs[p].us .yes) := by obtain ⟨_, _, -, h3, h4⟩ := HP.out; exact ⟨h3, h4⟩
            clear hre g4
            subst ea
            subst eb
            obtain ⟨z, hz⟩ : ∃ z, zs[k] = z := ⟨_, rfl⟩
            rw [hz] at hc HIF
            by_cases e1 : r.t = z
            · by_cases e2 : r.k = 1
              · have mp : m = p := HIF.out.1 ⟨e1, e2⟩
                have HPX : Hid (ps = after rs (zs.take k)) := by
                  show _ = _
                  have := HPS.out
                  rwa [if_neg (by omega)] at this
                have hrp : rs[p].us = r.us := by subst mp; rw [HRE.out]
                have hyy : IsRWay ps r.us .yes := by rw [HPX.out, ← hrp]; exact HPL2.out.2
                have CA := hid (fun x (hx : Below wr.heap.size wr x) => implApply_yes Ai A' ci c' ps r.us x ((hri.below hx (Nat.le_refl _)).more hx.size) ((HG4.out.below hx (Nat.le_refl _)).more hx.size) hul hyy)
                have HPS' : Hid (setR ps r.us = if p < m + 1 then after rs (zs.take (k + 1)) else after rs (zs.take k)) := by
                  show _ = _
                  rw [HNX.out, if_pos mp, HPX.out, ← hrp]
                  exact HPL2.out.1.symm
                rw [e1] at g1
                rw [e2] at g0
                have D9 := fun n => Wo.Below.drewN (Below.refl wr.heap.size wr) n
                clear e1 e2 hz hyy hrp mp HPS HG4
                go_wp2_with fail
                go_quiet (fail)
                go_wp2_with fail
                refine (CA.out _ (D9 _)).mono ?_
                rintro e w9 ⟨A9, c9, rfl, r9, d9⟩
                clear CA
                go_wp2
                go_roundw
                case rel => exact ⟨m + 1, A9, c9, _, by omega, by go_num, rfl, HPS', r9, (Wo.Below.drewN hbi _).trans (d9.mono (Wo.Below.drewN hbi _).size)⟩
                case measure => simp [intOf]; omega
              · have e5 : (r.k == 1) = false := by rw [beq_eq_false_iff_ne]; exact e2
                have HPS' : Hid (ps = if p < m + 1 then after rs (zs.take (k + 1)) else after rs (zs.take k)) := by
                  show ps = _
                  rw [HNX.out, if_neg fun e => e2 (HIF.out.2 e).2]
                  exact HPS.out
                rw [e1] at g1
                clear e1 e2 hz
                go_wp2_with fail
                go_quiet (fail)
                go_wp2
                go_roundw
                case rel => exact ⟨m + 1, Ai, ci, ps, by omega, by go_num, rfl, HPS', (hri.below (Wo.Below.drewN (Below.refl _ _) _) (Nat.le_refl _)).more (Wo.Below.drewN (Below.refl wr.heap.size wr) _).size, Wo.Below.drewN hbi _⟩
                case measure => simp [intOf]; omega
            · have e5 : (r.t == z) = false := by rw [beq_eq_false_iff_ne]; exact e1
              have HPS' : Hid (ps = if p < m + 1 then after rs (zs.take (k + 1)) else after rs (zs.take k)) := by
                show ps = _
                rw [HNX.out, if_neg fun e => e1 (HIF.out.2 e).1]
                exact HPS.out
              clear e1 hz
              go_wp2_with fail
              go_quiet (fail)
              go_wp2
              go_roundw
              case rel => exact ⟨m + 1, Ai, ci, ps, by omega, by go_num, rfl, HPS', (hri.below (Wo.Below.drewN (Below.refl _ _) _) (Nat.le_refl _)).more (Wo.Below.drewN (Below.refl wr.heap.size wr) _).size, Wo.Below.drewN hbi _⟩
              case measure => simp [intOf]; omega
          · have hm' : m = rs.length := by omega
            subst hm'
            have HQ' : Hid (ps = after rs (zs.take (k + 1))) := by
              show _ = _
              have := HPS.out
              rwa [if_pos hp] at this
            clear hlm
            go_wp2
            go_roundw
            case rel => exact ⟨k + 1, Ai, ci, ps, by omega, by go_num, rfl, HQ', hri, hbi⟩
            case measure => simp [intOf]; omega
      · have hk' : k = zs.length := by omega
        subst hk'
        obtain rfl : qs = s.refs := HQ.out.trans HFN.out
        clear hk hlt
        go_wp2_with fail
        refine (CR.out _ _ dk (HS1.out _ dk)).mono ?_
        rintro e w8 ⟨v8, rfl, sc, d8⟩
        obtain ⟨Be, ce, Bf, cf, rfl, -⟩ := id sc
        unfold stV
        replace hr := (hr.below d8 (Nat.le_refl _)).more d8.size
        replace dk := dk.trans (d8.mono dk.size)
        clear y1 d8 CR hb
        go_upto_region 21 with fail
        have al := (Below.refl (w8).heap.size w8).alloc (Nat.le_refl _) (.cells #[.slice Be s.refs.length ce, .slice Bf s.locks.length cf] 37)
        have xn := Blk2s.new_ w8 37 (.slice Be s.refs.length ce) (.slice Bf s.locks.length cf)
        obtain ⟨w9, hw'⟩ : ∃ x, (w8).alloc (.cells #[.slice Be s.refs.length ce, .slice Bf s.locks.length cf] 37) = x := ⟨_, rfl⟩
        rw [hw'] at al xn ⊢
        clear hw'
        have xc := xn
        replace sc := sc.on al al.size
        replace hr := (hr.below al (Nat.le_refl _)).more al.size
        replace dk := dk.trans (al.mono dk.size)
        clear xn al
        obtain ⟨z0, z1, -⟩ := id xc.reads
        have C1 := hid (sameInts_ret Be Ar ce cr s.refs w9 _ _ (Stt.rows sc).1 hr (by rw [HR4.out]; decide))
        go_wp2_with fail
        refine C1.out.mono ?_
        rintro e w10 ⟨rfl, d10⟩
        clear z0 z1 C1
        go_wp2
        go_ret
        exact .mk_ (bw.trans ((dk.trans (d10.mono dk.size)).mono bw.size))
theorem FnCommittedRefs_any (A : Option Addr) (c : Nat) (bs : List Int) (w : World) (f1 : Row w w.heap.size A (bs.map (Value.int .u8))) (f2 : bs.length ≤ c) (f3 : c ≤ maxLen) (f4 : ∀ n ∈ bs, 0 ≤ n ∧ n < 256) (er0 er1 : Addr) (hE : Errs er0 er1 w) :
    Calls Tryd.prog 3 #[.slice A bs.length c] w (Ret (.bool true) w) := by
  by_cases hl : bs.length ≤ 1048576
  · exact FnCommittedRefs_yes A c bs w ⟨f1, f2, f3, f4⟩ hl er0 er1 hE
  · exact FnCommittedRefs_no A c bs w ⟨f1, f2, f3, f4⟩ hl
end Go.Proofs.YteeffchnbkkpfabDoor
