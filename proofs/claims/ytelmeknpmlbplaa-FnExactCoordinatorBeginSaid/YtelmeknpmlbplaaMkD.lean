/-
  Walks: marks written into transactions and coordinators.
-/
import Derived.Test.YtelmeknpmlbplaaMkC
namespace Go.Proofs.Ytelmeknpmlbplaa
open Go.RowKit Wo Pu Rf Co
set_option linter.unusedVariables false
set_option linter.unusedSimpArgs false

/-- Behind the marks on numbers. -/
def IsMarked (col : Nat → Nat) (c B k : Nat) (v : Value) (n : Nat) (w : World) (e : Ending) (w' : World) : Prop := e = .returned (.int .i64 ((k + n : Nat) : Int)) ∧ OwnI w' B v (marks (k : Int) n) ∧ Only (Hue col c) w w' ∧ ∃ row, w.grownBy w' row ∧ ∀ g, row = some g → ∃ cur fr, w.heap[g]? = some (.cells cur 3 fr)
set_option maxHeartbeats 1000000 in
theorem markInts_C (col : Nat → Nat) (c B k : Nat) (v : Value) (zs : List Int) (w : World) (h : OwnI w B v zs) (hc : ColV col c v) (hm : zs.length ≤ 1048576) (hk : k ≤ 4000000) :
    Calls Try.prog 44 #[v, .int .i64 (k : Int)] w (IsMarked col c B k v zs.length w) := by
  obtain ⟨A, cc, rfl, -, -⟩ := h.form
  by_cases h0 : zs.length = 0
  · have e : zs = [] := List.eq_nil_of_length_eq_zero h0
    subst e
    have hz : Hid (IsMarked col c B k (.slice A 0 cc) 0 w (.returned (.int .i64 (k : Int))) w) := ⟨rfl, h, Only.refl _ _, none, World.grownBy.refl w _, fun g e => by cases e⟩
    clear h hc
    go_enter Try.func44, Try.ntmps44
    go_wp2_with fail
    go_loopw [1, 5] (fun q i wr => i = .int .i64 0 ∧ q = .int .i64 (k : Int) ∧ w = wr) (fun _ _ _ => 0)
    case atStart => exact ⟨rfl, rfl, rfl⟩
    case round =>
      obtain ⟨rfl, rfl, rfl⟩ := hrel
      go_wp2
      go_ret
      exact hz.out
  · obtain ⟨g, cap, e, -⟩ := World.ownsRow.form h (by omega)
    injection e with e1 _ e3
    subst e1 e3
    refine (markIntS_own B g zs.length cc (k : Int) (ints zs) w h hm (by omega) (by omega)).mono ?_
    rintro e w' ⟨rfl, hw, ho⟩
    refine ⟨by congr 2, ?_, ⟨hw.1.os, hw.1.tape, hw.1.output, hw.1.size, fun i hi hn => hw.1.block i hi fun e => ?_⟩, some g, hw.1, fun q hq => ?_⟩
    · unfold OwnI
      rw [marks_length]
      exact ho
    · injection e with e
      exact hn (hc i (by rw [e]; rfl))
    · injection hq with hq
      exact row_typed h q (by rw [hq]; rfl)

/-! ### Transactions. -/
theorem only_cell {S : Nat → Prop} {w x : World} {g o : Nat} (h : Only S w x) (hg : g < w.heap.size) (hs : ¬ S g) : x.cell? ⟨g, o, none⟩ = w.cell? ⟨g, o, none⟩ := World.cell?_of_block (w := w) (a := ⟨g, o, none⟩) (h.block g hg hs)
theorem only_frozen {S : Nat → Prop} {w x : World} {g o : Nat} (h : Only S w x) (hg : g < w.heap.size) (hs : ¬ S g) : x.frozen? ⟨g, o, none⟩ = w.frozen? ⟨g, o, none⟩ := World.frozen?_of_block (w := w) (a := ⟨g, o, none⟩) (h.block g hg hs)
/-- What the round at transaction n finds and leaves. -/
theorem OwnTxs.step {col : Nat → Nat} {B g l cc n : Nat} {w : World} {ts : List Tx} {t : Tx} (h : OwnTxs col w B (.slice (some ⟨g, 0, none⟩) l cc) ts) (hn : n < ts.length) (ht : ts[n] = t) :
    ∃ a b, TxOf col (n + 2) w B a b t ∧ (∀ x, Only (Hue col (n + 2)) w x → x.cell? ⟨g, n * 3, none⟩ = some a ∧ x.cell? ⟨g, n * 3 + 1, none⟩ = some b ∧ x.cell? ⟨g, n * 3 + 2, none⟩ = some (.int .i64 t.d) ∧ ∀ o, x.frozen? ⟨g, o, none⟩ = false) ∧ col g = 1 ∧ g < w.heap.size ∧
      ∀ x (t' : Tx), t'.d = t.d → TxOf col (n + 2) x B a b t' → Only (Hue col (n + 2)) w x → OwnTxs col x B (.slice (some ⟨g, 0, none⟩) l cc) (ts.set n t') := by
  obtain rfl := h.len_
  subst ht
  obtain ⟨xs, h1, h2, h3⟩ := h
  have hl : xs.length = ts.length * 3 := h1.1
  obtain ⟨a, b, q0, q1, q2, q3⟩ := h2 n hn
  have hgl := (World.ownsRow.lt h1 g rfl).2
  have hg1 : col g = 1 := h3 g rfl
  have hns : ¬ Hue col (n + 2) g := fun e => by
    have : col g = n + 2 := e
    omega
  refine ⟨a, b, q3, fun x hx => ⟨(only_cell hx hgl hns).trans ((World.ownsRow.cellAt h1 _ (by omega)).trans q0), (only_cell hx hgl hns).trans ((World.ownsRow.cellAt h1 _ (by omega)).trans q1), (only_cell hx hgl hns).trans ((World.ownsRow.cellAt h1 _ (by omega)).trans q2), fun o => (only_frozen hx hgl hns).trans (World.ownsRow.frozenAt h1 o)⟩, hg1, hgl, fun x t' hd hx hO => ?_⟩
  have hrow : x.ownsRow B 33 3 (.slice (some ⟨g, 0, none⟩) ts.length cc) ts.length xs := row_same h1 fun q hq => hO.block q (World.ownsRow.lt h1 q hq).2 (by
    have e : g = q := by simpa [Value.ownBlock] using hq
    rw [← e]
    exact hns)
  refine ⟨xs, by rw [List.length_set]; exact hrow, fun j hj => ?_, h3⟩
  have hj' : j < ts.length := by rw [List.length_set] at hj; exact hj
  rw [List.getElem_set]
  by_cases e : n = j
  · subst e
    rw [if_pos rfl]
    exact ⟨a, b, q0, q1, by rw [hd]; exact q2, hx⟩
  · rw [if_neg e]
    obtain ⟨a2, b2, r0, r1, r2, r3⟩ := h2 j hj'
    exact ⟨a2, b2, r0, r1, r2, r3.other hO fun i hi e9 => by have : col i = n + 2 := e9; omega⟩
theorem OwnTxs.dec_ {col : Nat → Nat} {w : World} {B g l c n : Nat} {ts : List Tx} {t : Tx} (h : OwnTxs col w B (.slice (some ⟨g, 0, none⟩) l c) ts) (hn : n < ts.length) (ht : ts[n] = t) (x : Int) :
    OwnTxs col (w.setCell ⟨g, n * 3 + 2, none⟩ (.int .i64 x)) B (.slice (some ⟨g, 0, none⟩) l c) (ts.set n ⟨t.ps, t.vs, x⟩) := by
  obtain rfl := h.len_
  subst ht
  exact (h.dec hn x).2.2
theorem OwnTxs.head {col : Nat → Nat} {B l cc : Nat} {w : World} {A : Option Addr} {ts : List Tx} (h : OwnTxs col w B (.slice A l cc) ts) (hp : 0 < ts.length) : ∃ g, A = some ⟨g, 0, none⟩ := by
  obtain rfl := h.len_
  obtain ⟨xs, h1, -⟩ := h
  obtain ⟨g, cap, e, -⟩ := World.ownsRow.form h1 hp
  injection e with e
  exact ⟨g, e⟩
/-- Behind the marks on transactions. -/
def TsMarked (col : Nat → Nat) (B k : Nat) (v : Value) (ts : List Tx) (w : World) (e : Ending) (w' : World) : Prop := e = .returned (.int .i64 ((k + zTs ts : Nat) : Int)) ∧ OwnTxs col w' B v (mkTs k ts) ∧ Only (fun g => 1 ≤ col g ∧ col g < ts.length + 2) w w'
set_option maxRecDepth 100000 in
set_option maxHeartbeats 4000000 in
theorem markTxnS_C (col : Nat → Nat) (B k : Nat) (v : Value) (ts : List Tx) (w : World) (h : OwnTxs col w B v ts) (hm : ts.length ≤ 1048576) (hps : ∀ t ∈ ts, t.ps.length ≤ 1048576 ∧ t.vs.length ≤ 1048576) (hus : ∀ t ∈ ts, ∀ p ∈ t.ps, p.us.length ≤ 1048576) (h1 : 1 ≤ k) (hk : k + zTs ts ≤ 4000000) :
    Calls Try.prog 85 #[v, .int .i64 (k : Int)] w (TsMarked col B k v ts w) := by
  have HKM : Hid (∀ m, m ≤ ts.length → k + preS tZ ts m ≤ 4000000) := fun m hm => by
    have := preS_mono (f := tZ) (l := ts) (i := m) ts.length hm (Nat.le_refl _)
    unfold zTs at hk
    omega
  have HLN := hid (mkTs_length k ts)
  obtain ⟨A, cc, rfl, -, -⟩ := h.form
  by_cases h0 : ts.length = 0
  · have e : ts = [] := List.eq_nil_of_length_eq_zero h0
    subst e
    have hz : Hid (TsMarked col B k (.slice A 0 cc) [] w (.returned (.int .i64 (k : Int))) w) := ⟨rfl, h, Only.refl _ _⟩
    clear h HKM HLN hk hps hus hm
    go_enter Try.func85, Try.ntmps85
    go_wp2_with fail
    go_loopw [1, 5] (fun q i wr => i = .int .i64 0 ∧ q = .int .i64 (k : Int) ∧ w = wr) (fun _ _ _ => 0)
    case atStart => exact ⟨rfl, rfl, rfl⟩
    case round =>
      obtain ⟨rfl, rfl, rfl⟩ := hrel
      go_wp2
      go_ret
      exact hz.out
  · obtain ⟨g, rfl⟩ := h.head (by omega)
    have HP := hid hps
    have HU := hid hus
    have hX : OwnTxs col w B (.slice (some ⟨g, 0, none⟩) ts.length cc) (mixL (mkTs k ts) ts 0) := by rw [mixL_zero]; exact h
    clear hk hus hps h
    go_enter Try.func85, Try.ntmps85
    go_wp2_with fail
    go_loopw [1, 5] (fun q i wr => ∃ m K : Nat, m ≤ ts.length ∧ i = .int .i64 m ∧ q = .int .i64 (K : Nat) ∧ K ≤ 4000000 ∧ 1 ≤ K ∧ Hid (K = k + preS tZ ts m) ∧ OwnTxs col wr B (.slice (some ⟨g, 0, none⟩) ts.length cc) (mixL (mkTs k ts) ts m) ∧ Only (fun g => 1 ≤ col g ∧ col g < ts.length + 2) w wr) (fun _ i _ => ts.length - (intOf i).toNat)
    case atStart => exact ⟨0, k, Nat.zero_le _, rfl, rfl, by have := HKM.out 0 (Nat.zero_le _); rw [preS_zero] at this; omega, h1, by show _ = _; rw [preS_zero]; rfl, hX, Only.refl _ _⟩
    case round =>
      clear hX
      obtain ⟨m, K, hm9, rfl, rfl, hK1, hK2, HK, hX, hO⟩ := hrel
      by_cases hlt : m < ts.length
      · obtain ⟨t, ht⟩ : ∃ t, ts[m] = t := ⟨_, rfl⟩
        have hlm : m < (mixL (mkTs k ts) ts m).length := by rw [mixL_len HLN.out]; exact hlt
        obtain ⟨a, b, hT, hC, hg1, hgl, HN⟩ := hX.step hlm ((mixL_at HLN.out hlt hlm).trans ht)
        have hk2 := HKM.out (m + 1) (by omega)
        have hks := preS_succ (f := tZ) hlt
        have hpl := HP.out t (by rw [← ht]; exact List.getElem_mem hlt)
        have hul := HU.out t (by rw [← ht]; exact List.getElem_mem hlt)
        have HST : Hid ((mixL (mkTs k ts) ts m).set m (mkT K t) = mixL (mkTs k ts) ts (m + 1)) := by
          show _ = _
          rw [← mixL_set HLN.out hlt, mkTs_get hlt, ← HK.out, ht]
        have HKS : Hid (k + preS tZ ts (m + 1) = K + zPs t.ps + t.vs.length + 1) := by
          show _ = _
          rw [hks, ht, HK.out]
          unfold tZ
          omega
        rw [HKS.out] at hk2
        have k0 : 0 ≤ (m : Int) := by omega
        have k1 : (m : Int) < (ts.length : Int) := by omega
        have HNN := hid HN
        have HCC := hid hC
        have hHue : ∀ q, Hue col (m + 2) q → 1 ≤ col q ∧ col q < ts.length + 2 := fun q hq => by
          have : col q = m + 2 := hq
          omega
        have HHU := hid hHue
        have CP := hid (markPartS_C col (m + 2) B K a t.ps wr hT.1 hpl.1 hul hK2 (by omega))
        obtain ⟨A1, c1, A2, c2, rfl, rfl, -⟩ := hT.form
        obtain ⟨c0, c1', c2', cf⟩ := hC wr (Only.refl _ _)
        have HTT := hid hT
        have HML := hid hlm
        clear HN hX hC hks ht hlm hHue hT hul
        go_wp2_with fail
        refine CP.out.mono ?_
        rintro e w2 ⟨rfl, hP2, hO2, hI2⟩
        clear c0 c1' c2' cf CP
        obtain ⟨c0, c1', c2', cf⟩ := HCC.out w2 hO2
        have hV2 : OwnI w2 B (.slice A2 t.vs.length c2) t.vs := hI2 _ _ _ _ _ HTT.out.2.1
        have CI := hid (markInts_C col (m + 2) B (K + zPs t.ps) (.slice A2 t.vs.length c2) t.vs w2 hV2 HTT.out.2.2 hpl.2 (by omega))
        go_wp2_with fail
        refine CI.out.mono ?_
        rintro e w3 ⟨rfl, hV3, hO3, row, hg3, hr3⟩
        clear c0 c1' c2' cf CI
        have hP3 := hP2.keptI hg3 hr3
        have hO4 := hO2.trans hO3
        obtain ⟨c0, c1', c2', cf⟩ := HCC.out w3 hO4
        have hT3 : TxOf col (m + 2) w3 B (.slice A1 t.ps.length c1) (.slice A2 t.vs.length c2) ⟨mkPs K t.ps, marks ((K + zPs t.ps : Nat) : Int) t.vs.length, t.d⟩ := ⟨hP3, hV3, HTT.out.2.2⟩
        have hX3 := HNN.out w3 ⟨mkPs K t.ps, marks ((K + zPs t.ps : Nat) : Int) t.vs.length, t.d⟩ rfl hT3 hO4
        have hlm3 : m < ((mixL (mkTs k ts) ts m).set m ⟨mkPs K t.ps, marks ((K + zPs t.ps : Nat) : Int) t.vs.length, t.d⟩).length := by rw [List.length_set]; exact HML.out
        have hX4 := hX3.dec_ hlm3 (by rw [List.getElem_set_self]) ((K + zPs t.ps + t.vs.length : Nat) : Int)
        rw [List.set_set] at hX4
        have hX5 : OwnTxs col (w3.setCell ⟨g, m * 3 + 2, none⟩ (.int .i64 ((K + zPs t.ps + t.vs.length : Nat) : Int))) B (.slice (some ⟨g, 0, none⟩) ts.length cc) (mixL (mkTs k ts) ts (m + 1)) := by
          rw [← HST.out]
          exact hX4
        have hO5 : Only (fun g => 1 ≤ col g ∧ col g < ts.length + 2) w (w3.setCell ⟨g, m * 3 + 2, none⟩ (.int .i64 ((K + zPs t.ps + t.vs.length : Nat) : Int))) := (hO.trans (hO4.mono HHU.out)).set_ ⟨by omega, by omega⟩ _ _
        have cf2 := cf (m * 3 + 2)
        have HK3 : Hid (K + zPs t.ps + t.vs.length + 1 = k + preS tZ ts (m + 1)) := by show _ = _; rw [HKS.out]
        clear HNN HCC HTT hP2 hO2 hI2 hV2 hV3 hO3 hg3 hr3 hP3 hO4 hT3 hX3 hlm3 hX4 hO cf HST HML
        go_wp2_with fail
        go_roundw
        case rel => exact ⟨m + 1, K + zPs t.ps + t.vs.length + 1, by omega, by go_num, by congr 1, by omega, by omega, HK3, hX5, hO5⟩
        case measure => simp [intOf]; omega
      · have hm' : m = ts.length := by omega
        subst hm'
        rw [mixL_done HLN.out] at hX
        go_wp2
        go_ret
        exact ⟨by rw [HK.out]; rfl, hX, hO⟩

/-! ### Coordinators. -/
/-- Blocks from B up to D keep their colours; all others get the colour n. -/
def band (B D n : Nat) (col : Nat → Nat) : Nat → Nat := fun g => if B ≤ g ∧ g < D then col g else n
theorem band_col {w : World} {col : Nat → Nat} {B sz n c m : Nat} {e : TypeId} {v : Value} {xs : List Value} (h : w.ownsRow B e sz v n xs) (hc : ColV col c v) : ColV (band B w.heap.size m col) c v := fun g hg => by
  unfold band
  rw [if_pos ⟨(World.ownsRow.lt h g hg).1, (World.ownsRow.lt h g hg).2⟩]
  exact hc g hg
/-- Behind the marks on coordinators. -/
def CMarked (B D k : Nat) (v : Value) (q : Crd) (w : World) (e : Ending) (w' : World) : Prop := e = .returned (.int .i64 ((k + zC q : Nat) : Int)) ∧ (∃ col, OwnCr col w' B v (mkC k q)) ∧ OnlyBD B D w w'
set_option maxRecDepth 100000 in
set_option maxHeartbeats 4000000 in
theorem markCoordinator_D (col : Nat → Nat) (B k : Nat) (v : Value) (q : Crd) (wx w : World) (h : OwnCr col wx B v q) (hb : Keeps B wx w) (hf : FitC q) (h1 : 1 ≤ k) (hk : k + zC q ≤ 4000000) :
    Calls Try.prog 38 #[v, .int .i64 (k : Int)] w (CMarked B wx.heap.size k v q w) := by
  have hf1 := hf.ts
  have hf2 := hf.os
  have hf3 := hf.ps
  have hf4 := hf.us
  obtain ⟨co, hco⟩ : ∃ co, band B wx.heap.size (q.ts.length + 2) col = co := ⟨_, rfl⟩
  have hB0 : OwnCr co wx B v q := by
    rw [← hco]
    exact h.map (fun _ _ _ _ _ _ _ hr hc => ⟨hr, band_col hr hc⟩) fun _ _ _ _ hr hc => ⟨hr, band_col hr hc⟩
  have hcS : ∀ g, co g < q.ts.length + 2 → B ≤ g ∧ g < wx.heap.size := fun g hg => by
    rw [← hco] at hg
    unfold band at hg
    by_cases e : B ≤ g ∧ g < wx.heap.size
    · exact e
    · rw [if_neg e] at hg
      omega
  have hB1 := hB0.keep hb
  obtain ⟨A, c1, A2, c2, rfl, -, -, -, -, hT, hI, hc0⟩ := hB1.form
  unfold crV at *
  have al := (Below.refl w.heap.size w).alloc (Nat.le_refl _) (.cells #[.slice A q.ts.length c1, .slice A2 q.os.length c2] 26)
  have x0 := Blk2s.new_ w 26 (.slice A q.ts.length c1) (.slice A2 q.os.length c2)
  have HC := hid hcS
  have hz : k + zTs q.ts ≤ 4000000 := by unfold zC at hk; omega
  have hDw : wx.heap.size ≤ w.heap.size := hb.1
  clear h hB0 hB1 hcS hco hb hf
  go_enter Try.func38, Try.ntmps38
  go_upto_region 1 with fail
  obtain ⟨w1, hw1⟩ : ∃ x, w.alloc (.cells #[.slice A q.ts.length c1, .slice A2 q.os.length c2] 26) = x := ⟨_, rfl⟩
  rw [hw1] at al x0 ⊢
  clear hw1
  have hT1 := hT.below al
  have hI1 := hI.below al (Nat.le_refl _)
  have CT := hid (markTxnS_C co B k (.slice A q.ts.length c1) q.ts w1 hT1 hf1 hf3 hf4 h1 hz)
  have hO0 : OnlyBD B wx.heap.size w w1 := OnlyBD.of_below al
  obtain ⟨y0, y1, -⟩ := id x0.reads
  clear hT hI al hf3 hf4
  go_wp2_with fail
  refine CT.out.mono ?_
  rintro e w2 ⟨rfl, hT2, hO2⟩
  have hI2 : OwnI w2 B (.slice A2 q.os.length c2) q.os := row_same hI1 fun g hg => hO2.block g (World.ownsRow.lt hI1 g hg).2 (by
    have := hc0 g hg
    omega)
  have x2 : Blk2s w2 w.heap.size 26 (.slice A q.ts.length c1) (.slice A2 q.os.length c2) := (hO2.block _ x0.lt fun hs => by
    have := HC.out _ hs.2
    omega).trans x0
  have CI := hid (markInts_C co 0 B (k + zTs q.ts) (.slice A2 q.os.length c2) q.os w2 hI2 hc0 hf2 hz)
  clear y0 y1 x0 CT hT1 hI1 hI2
  obtain ⟨y0, y1, -⟩ := id x2.reads
  go_wp2_with fail
  refine CI.out.mono ?_
  rintro e w3 ⟨rfl, hI3, hO3, -⟩
  have hT3 := hT2.other hO3 fun g hg hs => by
    have : co g = 0 := hs
    omega
  have hO4 : OnlyBD B wx.heap.size w w3 := (hO0.trans (OnlyBD.of_only hO2 fun g hg _ => HC.out g hg.2)).trans (OnlyBD.of_only hO3 fun g hg _ => HC.out g (by have : co g = 0 := hg; omega))
  have e1 : (mkTs k q.ts).length = q.ts.length := mkTs_length _ _
  have hR : Hid (CMarked B wx.heap.size k (.agg #[.slice A q.ts.length c1, .slice A2 q.os.length c2]) q w (.returned (.int .i64 ((k + zTs q.ts + q.os.length : Nat) : Int))) w3) := by
    refine ⟨?_, ⟨co, _, _, rfl, hT3, hI3, hc0⟩, hO4⟩
    unfold zC
    rw [Nat.add_assoc]
  clear CI y0 y1 x2 hT2 hO2 hI3 hO3 hT3 hO4
  go_wp2
  go_ret
  exact hR.out
/-- Behind the marks on parts. -/
def PMarked (B D k : Nat) (v : Value) (ps : List Part) (w : World) (e : Ending) (w' : World) : Prop := e = .returned (.int .i64 ((k + zPs ps : Nat) : Int)) ∧ (∃ col c, OwnPs col c w' B v (mkPs k ps)) ∧ OnlyBD B D w w'
theorem markPartS_D (col : Nat → Nat) (c B k : Nat) (v : Value) (ps : List Part) (wx w : World) (h : OwnPs col c wx B v ps) (hb : Keeps B wx w) (hm : ps.length ≤ 1048576) (hu : ∀ p ∈ ps, p.us.length ≤ 1048576) (h1 : 1 ≤ k) (hk : k + zPs ps ≤ 4000000) :
    Calls Try.prog 39 #[v, .int .i64 (k : Int)] w (PMarked B wx.heap.size k v ps w) := by
  have hB0 : OwnPs (band B wx.heap.size 1 (fun _ => 0)) 0 wx B v ps := h.map fun _ _ _ _ _ _ hr hc => ⟨hr, band_col hr fun _ _ => rfl⟩
  refine (markPartS_C _ 0 B k v ps w (hB0.keep hb) hm hu h1 hk).mono ?_
  rintro e w' ⟨he, ho, hO, -⟩
  refine ⟨he, ⟨_, _, ho⟩, OnlyBD.of_only hO fun g hg _ => ?_⟩
  have e2 : band B wx.heap.size 1 (fun _ => 0) g = 0 := hg
  unfold band at e2
  by_cases e : B ≤ g ∧ g < wx.heap.size
  · exact e
  · rw [if_neg e] at e2
    omega
end Go.Proofs.Ytelmeknpmlbplaa
