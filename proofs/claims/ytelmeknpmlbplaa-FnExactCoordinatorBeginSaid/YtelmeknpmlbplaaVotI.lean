/-
  Walk: a transaction after a vote, by the program.
-/
import Derived.Test.YtelmeknpmlbplaaWaiI
namespace Go.Proofs.Ytelmeknpmlbplaa
open Go.RowKit Wo Pu Rf Co

set_option linter.unusedVariables false in
/-- The votes after the first i parts. -/
def vsTo (t : Tx) (k : Nat) (y : Int) (i : Nat) : List Int := if k < i then t.vs.set k y else t.vs
set_option linter.unusedVariables false in
set_option linter.unusedSimpArgs false in
theorem vsTo_len (t : Tx) (k : Nat) (y : Int) (i : Nat) : (vsTo t k y i).length = t.vs.length := by unfold vsTo; split <;> simp
set_option linter.unusedVariables false in
/-- A transaction after a vote. -/
def votedTx (t : Tx) (k : Nat) (y : Int) : Tx := ⟨t.ps, t.vs.set k y, decOf ((t.vs.set k y).count (-1)) ((t.vs.set k y).count 0)⟩
set_option linter.unusedVariables false in
set_option linter.unusedSimpArgs false in
theorem no_tx {t : Tx} {k : Nat} (hk : k < t.vs.length) : votedTx t k (-1) = noTx t k := by
  unfold votedTx noTx decOf
  rw [if_pos (List.count_pos_iff.2 (List.mem_iff_getElem.2 ⟨k, by simpa using hk, by simp⟩))]
set_option linter.unusedVariables false in
set_option linter.unusedSimpArgs false in
theorem yes_tx {t : Tx} {k : Nat} (h : TxV t) (hd : t.d = 0) (hk : k < t.vs.length) : votedTx t k 1 = yesTx t k := by
  have hr : ∀ v ∈ t.vs.set k 1, -1 ≤ v ∧ v ≤ 1 := fun v hv => by
    rcases List.mem_or_eq_of_mem_set hv with h1 | h1
    · exact h.rng v h1
    · omega
  have hn : (t.vs.set k 1).count (-1) = 0 := by
    rw [List.count_eq_zero]
    intro hm
    rcases List.mem_or_eq_of_mem_set hm with h1 | h1
    · rcases h.dec with ⟨-, h2, -⟩ | ⟨h2, -⟩ | ⟨h2, -⟩
      · exact h2 h1
      · omega
      · omega
    · exact absurd h1 (by decide)
  have ha : (t.vs.set k 1).all (· == 1) = true ↔ (t.vs.set k 1).count 0 = 0 := by
    rw [List.count_eq_zero, List.all_eq_true]
    constructor
    · intro h1 hm
      have := h1 0 hm
      simp at this
    · intro h1 v hv
      have h2 := hr v hv
      have h3 : v ≠ -1 := fun e => by subst e; exact absurd (List.count_pos_iff.2 hv) (by omega)
      have h4 : v ≠ 0 := fun e => by subst e; exact h1 hv
      simp
      omega
  unfold votedTx yesTx decOf
  rw [hn, if_neg (by omega)]
  by_cases h0 : (t.vs.set k 1).count 0 = 0
  · rw [if_neg (by omega), if_pos (ha.2 h0)]
  · rw [if_pos (by omega), if_neg (fun e => h0 (ha.1 e))]
set_option linter.unusedVariables false in
set_option linter.unusedSimpArgs false in
/-- A vote in a list of the call's own. -/
theorem tx_vote {w : World} {B k : Nat} {a b : Value} {t : Tx} (h : TxOf (fun _ => 0) 0 w B a b t) (hk : k < t.vs.length) :
    ∃ g c, b = .slice (some ⟨g, 0, none⟩) t.vs.length c ∧ B ≤ g ∧ w.cell? ⟨g, k, none⟩ = some (.int .i64 t.vs[k]) ∧ w.frozen? ⟨g, k, none⟩ = false ∧ (∃ cs fr, w.heap[g]? = some (.cells cs 3 fr)) ∧
      ∀ y : Int, TxOf (fun _ => 0) 0 (w.setCell ⟨g, k, none⟩ (.int .i64 y)) B a b ⟨t.ps, t.vs.set k y, t.d⟩ := by
  obtain ⟨q3, q4, -⟩ := h
  have q4' := q4
  obtain ⟨g, c, rfl, hB, hlt⟩ := World.ownsRow.form q4 (by omega)
  refine ⟨g, c, rfl, hB, ?_, World.ownsRow.frozenAt q4 _, row_typed q4 g rfl, fun y => ?_⟩
  · rw [World.ownsRow.cellAt q4 k (by omega)]
    simp [ints, hk]
  · have st := (World.ownsRow.stored q4 k (.int .i64 y)).1
    have e3 : (ints t.vs).set k (.int .i64 y) = ints (t.vs.set k y) := by unfold ints; rw [List.map_set]
    rw [e3] at st
    refine ⟨q3.keptI (but_set w g k (.int .i64 y)) (row_typed q4), ?_, fun _ _ => rfl⟩
    unfold OwnI
    rw [List.length_set]
    exact st
set_option linter.unusedVariables false in
/-- What the loop over the parts holds. -/
def CpV (w : World) (g : Nat) (Ap : Option Addr) (cp : Nat) (Av : Option Addr) (cv : Nat) (t : Tx) (vs : List Int) (wr : World) : Prop :=
  Blk3s wr (w.heap.size + 1) 33 (.slice none 0 0) (.slice none 0 0) (.int .i64 0) ∧ Blk3s wr g 33 (.slice Ap t.ps.length cp) (.slice Av t.vs.length cv) (.int .i64 t.d) ∧ TxOf (fun _ => 0) 0 wr w.heap.size (.slice Ap t.ps.length cp) (.slice Av t.vs.length cv) ⟨t.ps, vs, t.d⟩ ∧ Below w.heap.size w wr
set_option linter.unusedVariables false in
set_option linter.unusedSimpArgs false in
theorem CpV.later {w wr w' : World} {g cp cv : Nat} {Ap Av : Option Addr} {t : Tx} {vs : List Int} (h : CpV w g Ap cp Av cv t vs wr) (d : Below wr.heap.size wr w') : CpV w g Ap cp Av cv t vs w' := by
  obtain ⟨h1, h2, h3, h4⟩ := h
  exact ⟨h1.later d, h2.later d, h3.below d, h4.trans (d.mono h4.size)⟩
set_option linter.unusedVariables false in
set_option linter.unusedSimpArgs false in
set_option maxRecDepth 100000 in
set_option maxHeartbeats 8000000 in
theorem txVoted_is (A : Option Addr) (c : Nat) (A2 : Option Addr) (c2 : Nat) (t : Tx) (k : Nat) (s y : Int) (w : World) (h1 : Parts w w.heap.size A t.ps) (h2 : Row w w.heap.size A2 (ints t.vs)) (hm : t.ps.length ≤ 100) (hl : t.vs.length = t.ps.length) (hu : ∀ p ∈ t.ps, p.us.length ≤ 1048576) (hs : ∀ j (h : j < t.ps.length), t.ps[j].s = s ↔ j = k) (hk : k < t.ps.length) :
    Calls Try.prog 64 #[.agg #[.slice A t.ps.length c, .slice A2 t.vs.length c2, .int .i64 t.d], .int .i64 s, .int .i64 y] w (NewTx (votedTx t k y) w) := by
  have b1 := ((Below.refl w.heap.size w).alloc (Nat.le_refl _) (.cells #[.slice A t.ps.length c, .slice A2 t.vs.length c2, .int .i64 t.d] 33)).alloc (by simp) (.cells #[.slice none 0 0, .slice none 0 0, .int .i64 0] 33)
  have x0 := (Blk3s.new_ w 33 (.slice A t.ps.length c) (.slice A2 t.vs.length c2) (.int .i64 t.d)).alloc (.cells #[.slice none 0 0, .slice none 0 0, .int .i64 0] 33)
  have x1 := Blk3s.new_ (w.alloc (.cells #[.slice A t.ps.length c, .slice A2 t.vs.length c2, .int .i64 t.d] 33)) 33 (.slice none 0 0) (.slice none 0 0) (.int .i64 0)
  rw [World.size_alloc] at x1
  have HVL := hid hl
  have HS := hid hs
  have CC : Hid (∀ x, Below w.heap.size w x → Calls Try.prog 91 #[.agg #[.slice A t.ps.length c, .slice A2 t.vs.length c2, .int .i64 t.d]] x (NewTx t x)) := fun x hx => txCopied_is A c A2 c2 t x (h1.on hx) ((h2.below hx (Nat.le_refl _)).more hx.size) (by omega) (by omega) hu
  clear hl hs hu
  go_enter Try.func64, Try.ntmps64
  go_upto_region 1 with fail
  obtain ⟨w1, hw1⟩ : ∃ x, (w.alloc (.cells #[.slice A t.ps.length c, .slice A2 t.vs.length c2, .int .i64 t.d] 33)).alloc (.cells #[.slice none 0 0, .slice none 0 0, .int .i64 0] 33) = x := ⟨_, rfl⟩
  rw [hw1] at b1 x0 x1 ⊢
  clear hw1
  obtain ⟨y0, y1, y2, -⟩ := id x0.reads
  go_wp2_with fail
  refine (CC.out _ b1).mono ?_
  rintro e w2 ⟨va, vb, rfl, ox, d⟩
  obtain ⟨Ap, cp, rfl, -, -⟩ := ox.1.form
  obtain ⟨Av, cv, rfl, -, -⟩ := ox.2.1.form
  have al := (Below.refl w2.heap.size w2).alloc (Nat.le_refl _) (.cells #[.slice Ap t.ps.length cp, .slice Av t.vs.length cv, .int .i64 t.d] 33)
  have x7 := Blk3s.new_ w2 33 (.slice Ap t.ps.length cp) (.slice Av t.vs.length cv) (.int .i64 t.d)
  have hg1 : w.heap.size + 1 < w2.heap.size := (x1.later d).lt
  have b2 := b1.trans (d.mono b1.size)
  have S0 : CpV w w2.heap.size Ap cp Av cv t (vsTo t k y 0) (w2.alloc (.cells #[.slice Ap t.ps.length cp, .slice Av t.vs.length cv, .int .i64 t.d] 33)) := ⟨(x1.later d).later al, x7, by
    have := (ox.base b1.size).below al
    unfold vsTo
    rw [if_neg (by omega)]
    exact this, b2.trans (al.mono b2.size)⟩
  clear x0 x1 x7 b1 y0 y1 y2 al ox d CC b2
  go_upto_region 2 with fail
  obtain ⟨w3, hw3⟩ : ∃ x, w2.alloc (.cells #[.slice Ap t.ps.length cp, .slice Av t.vs.length cv, .int .i64 t.d] 33) = x := ⟨_, rfl⟩
  obtain ⟨g, hg⟩ : ∃ x, w2.heap.size = x := ⟨_, rfl⟩
  rw [hw3] at S0 ⊢
  rw [hg] at S0 hg1 ⊢
  clear hw3 hg
  obtain ⟨u0, u1, u2, -⟩ := id S0.2.1.reads
  go_wp2_with fail
  go_loopw [15] (fun i wr => ∃ j : Nat, j ≤ t.ps.length ∧ i = .int .i64 j ∧ CpV w g Ap cp Av cv t (vsTo t k y j) wr) (fun i _ => t.ps.length - (intOf i).toNat)
  case atStart => exact ⟨0, Nat.zero_le _, rfl, S0⟩
  case round =>
    obtain ⟨j, hj, rfl, S⟩ := hrel
    clear S0 u0 u1 u2
    have hb := S.2.2.2
    have hz := hb.size
    by_cases hlt : j < t.ps.length
    · obtain ⟨A9, c9, e9, hP, -⟩ := S.2.2.1.1.form
      have hP' : Parts wr wr.heap.size A9 t.ps := hP
      obtain rfl := (Value.slice.inj e9).1
      clear e9
      obtain ⟨p, ad8, A5, c5, hop, rfl, hbp, p0, p1, -, -⟩ := hP'.part hlt
      have k2 : (0 : Int) ≤ (j : Int) := by omega
      have k3 : (j : Int) < (t.ps.length : Int) := by omega
      have k4 : (j : Int) < (t.vs.length : Int) := by have := HVL.out; omega
      have hjv : j < t.vs.length := by rw [HVL.out]; exact hlt
      have al := (Below.refl wr.heap.size wr).alloc (Nat.le_refl _) (.cells #[.int .i64 p.s, .slice A5 p.us.length c5] 36)
      obtain ⟨z0, z1, -⟩ := (Blk2s.new_ wr 36 (.int .i64 p.s) (.slice A5 p.us.length c5)).reads
      have S2 := S.later al
      have hpk := HS.out j hlt
      rw [hop] at hpk
      clear S hP hP' al hop
      obtain ⟨u0, u1, u2, -⟩ := id S2.2.1.reads
      by_cases hps : p.s = s
      · obtain rfl := hpk.1 hps
        have e1 : (p.s == s) = true := beq_iff_eq.2 hps
        obtain ⟨gv, cv', e5, hgB, v0, v1, hty, hV⟩ := tx_vote S2.2.2.1 (k := j) (by show j < (vsTo t j y j).length; rw [vsTo_len]; exact hjv)
        obtain rfl := (Value.slice.inj e5).1
        clear e5
        have n7 := ty_ne S2.2.1 hty.choose_spec.choose_spec (by decide)
        have n1 := ty_ne S2.1 hty.choose_spec.choose_spec (by decide)
        have S3 : CpV w g (some ad8) cp (some ⟨gv, 0, none⟩) cv t (vsTo t j y (j + 1)) ((wr.alloc (.cells #[.int .i64 p.s, .slice A5 p.us.length c5] 36)).setCell ⟨gv, j, none⟩ (.int .i64 y)) := by
          refine ⟨S2.1.far (p := ⟨gv, j, none⟩) n1 _, S2.2.1.far (p := ⟨gv, j, none⟩) n7 _, ?_, S2.2.2.2.setCell hgB _⟩
          have h5 := hV y
          unfold vsTo at h5 ⊢
          rw [if_neg (by omega)] at h5
          rw [if_pos (by omega)]
          exact h5
        clear S2 hV hty hps hpk
        go_wp2
        go_roundw
        case rel => exact ⟨j + 1, by omega, by go_num, S3⟩
        case measure => simp [intOf]; omega
      · have e1 : (p.s == s) = false := beq_eq_false_iff_ne.2 hps
        have S3 : CpV w g (some ad8) cp Av cv t (vsTo t k y (j + 1)) (wr.alloc (.cells #[.int .i64 p.s, .slice A5 p.us.length c5] 36)) := by
          have : vsTo t k y (j + 1) = vsTo t k y j := by
            have : k ≠ j := fun e => hps (hpk.2 e.symm)
            unfold vsTo
            by_cases h : k < j
            · rw [if_pos h, if_pos (by omega)]
            · rw [if_neg h, if_neg (by omega)]
          rw [this]; exact S2
        clear S2 hps hpk
        go_wp2
        go_roundw
        case rel => exact ⟨j + 1, by omega, by go_num, S3⟩
        case measure => simp [intOf]; omega
    · have hj' : j = t.ps.length := by omega
      subst hj'
      have hvv : vsTo t k y t.ps.length = t.vs.set k y := by unfold vsTo; rw [if_pos hk]
      rw [hvv] at S
      have hvl : (t.vs.set k y).length ≤ 100 := by rw [List.length_set, HVL.out]; exact hm
      obtain ⟨zs, hzs⟩ : ∃ zs, t.vs.set k y = zs := ⟨_, rfl⟩
      have HR : Hid (votedTx t k y = ⟨t.ps, zs, decOf (zs.count (-1)) (zs.count 0)⟩) := by
        show _ = _
        rw [← hzs]; rfl
      have hzl : zs.length = t.vs.length := by rw [← hzs, List.length_set]
      rw [hzs] at S hvl
      have CS := sendVotes_is Av cv zs wr S.2.2.1.2.1.row hvl
      rw [hzl] at CS
      obtain ⟨u0, u1, u2, -⟩ := id S.2.1.reads
      clear hzs hvv hzl HS
      go_wp2_with fail
      refine CS.mono ?_
      rintro e w4 ⟨ch, s9, r9, rfl, hch, hcc, d4⟩
      have S4 := S.later d4
      clear u0 u1 u2 CS
      obtain ⟨u0, u1, u2, -⟩ := id S4.2.1.reads
      go_wp2_with fail
      refine (countVotes_is zs ch _ s9 r9 w4 hcc hvl).mono ?_
      rintro e w5 ⟨rfl, T5⟩
      have S5 := S.later (d4.trans (T5.below d4.size hch))
      clear S S4 u0 u1 u2 hcc T5 d4
      obtain ⟨u0, u1, u2, -⟩ := id S5.2.1.reads
      have CD : Hid (∀ x, Calls Try.prog 95 #[.agg #[.int .i64 (zs.count (-1) : Nat), .int .i64 (zs.count 0 : Nat), .int .i64 (zs.countP wrong : Nat)]] x (Ret (.int .i64 (decOf (zs.count (-1)) (zs.count 0))) x)) := fun x => decision_is _ _ _ x
      obtain ⟨na, hna⟩ : ∃ x, zs.count (-1) = x := ⟨_, rfl⟩
      obtain ⟨nm, hnm⟩ : ∃ x, zs.count 0 = x := ⟨_, rfl⟩
      obtain ⟨nx, hnx⟩ : ∃ x, zs.countP wrong = x := ⟨_, rfl⟩
      rw [hna, hnm, hnx] at CD
      rw [hna, hnm] at HR
      rw [hna, hnm, hnx]
      clear hna hnm hnx
      obtain ⟨dd, hdd⟩ : ∃ x, decOf na nm = x := ⟨_, rfl⟩
      rw [hdd] at CD HR
      clear hdd
      go_wp2_with fail
      refine (CD.out _).mono ?_
      rintro e w6 ⟨rfl, d6⟩
      have S6 := S5.later d6
      clear S5 d6 u0 u1 u2 CD
      obtain ⟨s1, s7, sx, sb⟩ := S6
      have hne : w.heap.size + 1 ≠ g := by omega
      obtain ⟨u0, u1, u2, uf⟩ := id s7.reads
      have uf2 := uf 2
      have t7 := s7.set2 (.int .i64 dd)
      have t1 := s1.far (p := ⟨g, 2, none⟩) hne (.int .i64 dd)
      have tx : TxOf (fun _ => 0) 0 (w6.setCell ⟨g, 2, none⟩ (.int .i64 dd)) w.heap.size (.slice Ap t.ps.length cp) (.slice Av t.vs.length cv) ⟨t.ps, zs, dd⟩ := (sx.keptT (by decide) (by decide) (by decide) (but_set w6 g 2 (.int .i64 dd)) (blk_type s7))
      have tb := sb.setCell (p := ⟨g, 2, none⟩) (by show w.heap.size ≤ g; omega) (.int .i64 dd)
      clear uf s1 s7 sx sb
      go_upto_region 9 with fail
      obtain ⟨w7, hw7⟩ : ∃ x, w6.setCell ⟨g, 2, none⟩ (.int .i64 dd) = x := ⟨_, rfl⟩
      rw [hw7] at t7 t1 tx tb ⊢
      clear hw7 u0 u1 u2 uf2
      obtain ⟨u0, u1, u2, -⟩ := id t7.reads
      obtain ⟨r0, r1, r2, rf⟩ := id t1.reads
      have rf0 := rf 0
      have rf1 := rf 1
      have rf2 := rf 2
      clear rf
      have b9 := ((tb.setCell (p := ⟨w.heap.size + 1, 0, none⟩) (Nat.le_succ _) (.slice Ap t.ps.length cp)).setCell (p := ⟨w.heap.size + 1, 1, none⟩) (Nat.le_succ _) (.slice Av t.vs.length cv)).setCell (p := ⟨w.heap.size + 1, 2, none⟩) (Nat.le_succ _) (.int .i64 dd)
      have o9 := ((tx.keptT (by decide) (by decide) (by decide) (but_set w7 (w.heap.size + 1) 0 (.slice Ap t.ps.length cp)) (blk_type t1)).keptT (by decide) (by decide) (by decide) (but_set _ (w.heap.size + 1) 1 (.slice Av t.vs.length cv)) (blk_type (t1.set0 _))).keptT (by decide) (by decide) (by decide) (but_set _ (w.heap.size + 1) 2 (.int .i64 dd)) (blk_type ((t1.set0 _).set1 _))
      obtain ⟨p0, p1, p2, -⟩ := (((t1.set0 (.slice Ap t.ps.length cp)).set1 (.slice Av t.vs.length cv)).set2 (.int .i64 dd)).reads
      clear t7 t1 tx tb
      go_wp2
      refine bodyPost_ret (v := .agg #[.slice Ap t.ps.length cp, .slice Av t.vs.length cv, .int .i64 dd]) (by simp [results, Try.results64, go_sem, p0, p1, p2]) rfl ?_
      rw [HR.out]
      exact ⟨_, _, rfl, o9, b9⟩
end Go.Proofs.Ytelmeknpmlbplaa
