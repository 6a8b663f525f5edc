/-
  Walks: marks written into parts, transactions and coordinators of the call's own, whose lists lie apart.
-/
import Derived.Test.YtelmeknpmlbplaaToC
namespace Go.Proofs.Ytelmeknpmlbplaa
open Go.RowKit Wo Pu Rf Co
set_option linter.unusedVariables false
set_option linter.unusedSimpArgs false

/-! ### The marks. -/
def pZ (p : Part) : Nat := 1 + 3 * p.us.length
def zPs (ps : List Part) : Nat := preS pZ ps ps.length
def mkP (k : Nat) (p : Part) : Part := ⟨(k : Int), mksU (k + 1) p.us.length⟩
def mkPs (k : Nat) (ps : List Part) : List Part := (List.finRange ps.length).map fun j => mkP (k + preS pZ ps j.1) ps[j.1]
def tZ (t : Tx) : Nat := zPs t.ps + t.vs.length + 1
def zTs (ts : List Tx) : Nat := preS tZ ts ts.length
def mkT (k : Nat) (t : Tx) : Tx := ⟨mkPs k t.ps, marks ((k + zPs t.ps : Nat) : Int) t.vs.length, ((k + zPs t.ps + t.vs.length : Nat) : Int)⟩
def mkTs (k : Nat) (ts : List Tx) : List Tx := (List.finRange ts.length).map fun j => mkT (k + preS tZ ts j.1) ts[j.1]
def zC (q : Crd) : Nat := zTs q.ts + q.os.length
def mkC (k : Nat) (q : Crd) : Crd := ⟨mkTs k q.ts, marks ((k + zTs q.ts : Nat) : Int) q.os.length⟩
theorem mkPs_length (k : Nat) (ps : List Part) : (mkPs k ps).length = ps.length := by simp [mkPs]
theorem mkPs_get {k : Nat} {ps : List Part} {j : Nat} (h : j < ps.length) : (mkPs k ps)[j]'(by rw [mkPs_length]; exact h) = mkP (k + preS pZ ps j) ps[j] := by simp [mkPs]
theorem mkTs_length (k : Nat) (ts : List Tx) : (mkTs k ts).length = ts.length := by simp [mkTs]
theorem mkTs_get {k : Nat} {ts : List Tx} {j : Nat} (h : j < ts.length) : (mkTs k ts)[j]'(by rw [mkTs_length]; exact h) = mkT (k + preS tZ ts j) ts[j] := by simp [mkTs]
theorem zPs_le (ps : List Part) : zPs ps ≤ 3 * allP ps := by
  have : ∀ k, k ≤ ps.length → preS pZ ps k ≤ k + 3 * preS uN ps k := by
    intro k
    induction k with
    | zero => intro _; simp [preS_zero]
    | succ k ih =>
      intro h
      rw [preS_succ (by omega), preS_succ (by omega)]
      have h1 := ih (by omega)
      have e1 : pZ ps[k] = 1 + 3 * ps[k].us.length := rfl
      have e2 : uN ps[k] = ps[k].us.length := rfl
      omega
  have := this ps.length (Nat.le_refl _)
  unfold zPs allP
  omega
theorem zTs_le (ts : List Tx) : zTs ts ≤ 3 * allT ts := by
  have : ∀ k, k ≤ ts.length → preS tZ ts k ≤ k + 3 * preS tN ts k := by
    intro k
    induction k with
    | zero => intro _; simp [preS_zero]
    | succ k ih =>
      intro h
      rw [preS_succ (by omega), preS_succ (by omega)]
      have h1 := ih (by omega)
      have h2 := zPs_le ts[k].ps
      have e1 : tZ ts[k] = zPs ts[k].ps + ts[k].vs.length + 1 := rfl
      have e2 : tN ts[k] = allP ts[k].ps + ts[k].vs.length := rfl
      omega
  have := this ts.length (Nat.le_refl _)
  unfold zTs allT
  omega
theorem zC_le (q : Crd) : zC q ≤ 3 * allC q := by
  have := zTs_le q.ts
  unfold zC allC
  omega

/-! ### Parts. -/
/-- Rows of numbers stay. -/
def KeepI (w w' : World) : Prop := ∀ (B sz n : Nat) (u : Value) (ys : List Value), w.ownsRow B 3 sz u n ys → w'.ownsRow B 3 sz u n ys
theorem KeepI.refl (w : World) : KeepI w w := fun _ _ _ _ _ h => h
theorem KeepI.trans {a b c : World} (h : KeepI a b) (k : KeepI b c) : KeepI a c := fun _ _ _ _ _ r => k _ _ _ _ _ (h _ _ _ _ _ r)
/-- What the round at part n finds and leaves. -/
theorem OwnPs.mark {col : Nat → Nat} {c B g l cc n : Nat} {w : World} {ps : List Part} {p : Part} (h : OwnPs col c w B (.slice (some ⟨g, 0, none⟩) l cc) ps) (hn : n < ps.length) (hp : ps[n] = p) (x : Int) :
    ∃ (A : Option Addr) (c' : Nat), (∃ v, w.cell? ⟨g, n * 2, none⟩ = some v) ∧ w.frozen? ⟨g, n * 2, none⟩ = false ∧ w.cell? ⟨g, n * 2 + 1, none⟩ = some (.slice A p.us.length c') ∧ col g = c ∧ g < w.heap.size ∧
      (∀ q, (Value.slice A p.us.length c').ownBlock = some q → col q = c) ∧ OwnUps (w.setCell ⟨g, n * 2, none⟩ (.int .i64 x)) B (.slice A p.us.length c') p.us ∧
      ∀ R w2 (us' : List Up), us'.length = p.us.length → InB A R → (A = none → w.heap.size ≤ R) → But R (w.setCell ⟨g, n * 2, none⟩ (.int .i64 x)) w2 → OwnUps w2 B (.slice A p.us.length c') us' → OwnPs col c w2 B (.slice (some ⟨g, 0, none⟩) l cc) (ps.set n ⟨x, us'⟩) ∧ KeepI w w2 := by
  obtain rfl := h.len_
  subst hp
  obtain ⟨xs, h1, h2, h3, h4, h5⟩ := h
  have hl : xs.length = ps.length * 2 := h1.1
  obtain ⟨A, c', q0, q1, q2, q3⟩ := h2 n hn
  have s1 := (World.ownsRow.stored h1 (n * 2) (.int .i64 x)).1
  have keep : ∀ {u : Value} {us : List Up}, OwnUps w B u us → OwnUps (w.setCell ⟨g, n * 2, none⟩ (.int .i64 x)) B u us := fun h => row_far_type h (by decide) (but_set w g _ _) (row_typed h1)
  have hgl := (World.ownsRow.lt h1 g rfl).2
  refine ⟨A, c', ⟨_, (World.ownsRow.cellAt h1 _ (by omega)).trans (List.getElem?_eq_getElem (by omega))⟩, World.ownsRow.frozenAt h1 _, (World.ownsRow.cellAt h1 _ (by omega)).trans q1, h5 g rfl, hgl, fun q hq => h4 n _ hn q1 q hq, keep q3, fun R w2 us' hus hR hN hb ho => ?_⟩
  have notR : ∀ q, q < w.heap.size → (∀ ad, A = some ad → ad.block ≠ q) → q ≠ R := fun q hq hne => by
    rcases A with _ | ad
    · have := hN rfl; omega
    · have := hR ad rfl
      have := hne ad rfl
      omega
  have keptR : ∀ {e : TypeId} {sz m : Nat} {u : Value} {ys : List Value}, (w.setCell ⟨g, n * 2, none⟩ (.int .i64 x)).ownsRow B e sz u m ys → (∀ q, u.ownBlock = some q → ∀ ad, A = some ad → ad.block ≠ q) → w2.ownsRow B e sz u m ys := fun hr hne => by
    refine World.ownsRow.kept hr hb ?_
    rcases hu : Value.ownBlock _ with _ | q
    · exact .inl rfl
    · refine .inr fun e => ?_
      injection e with e
      have hq := (World.ownsRow.lt hr q hu).2
      have := notR q (by simpa [World.setCell] using hq) (hne q hu)
      omega
  have hgA : ∀ ad, A = some ad → ad.block ≠ g := fun ad e1 e2 => by
    subst e1
    obtain ⟨cur, fr, t1⟩ := row_typed q3 ad.block rfl
    obtain ⟨cur2, fr2, t2⟩ := row_typed h1 g rfl
    rw [e2, t2] at t1
    injection t1 with t1
    injection t1 with _ t1
    exact absurd t1 (by decide)
  have hrow : w2.ownsRow B 36 2 (.slice (some ⟨g, 0, none⟩) ps.length cc) ps.length (xs.set (n * 2) (.int .i64 x)) := keptR s1 fun q hq ad e => by
    have e2 : g = q := by simpa [Value.ownBlock] using hq
    rw [← e2]
    exact hgA ad e
  have hI : KeepI w w2 := fun B' sz m u ys hr => by
    have r1 := row_far_type hr (by decide) (but_set w g (n * 2) (.int .i64 x)) (row_typed h1)
    refine World.ownsRow.kept r1 hb ?_
    rcases hu : u.ownBlock with _ | q
    · exact .inl rfl
    · refine .inr fun e => ?_
      injection e with e
      have hq := (World.ownsRow.lt hr q hu).2
      have := notR q hq fun ad e1 e2 => by
        subst e1
        obtain ⟨cur, fr, t1⟩ := row_typed q3 ad.block rfl
        obtain ⟨cur2, fr2, t2⟩ := row_typed hr q hu
        rw [e2, t2] at t1
        injection t1 with t1
        injection t1 with _ t1
        exact absurd t1 (by decide)
      omega
  refine ⟨?_, hI⟩
  refine ⟨xs.set (n * 2) (.int .i64 x), by rw [List.length_set]; exact hrow, fun j hj => ?_, fun i j a b hi hj hij ha hb' => ?_, fun i a hi ha => ?_, h5⟩
  · have hj' : j < ps.length := by rw [List.length_set] at hj; exact hj
    rw [List.getElem_set]
    by_cases e : n = j
    · subst e
      rw [if_pos rfl]
      refine ⟨A, c', List.getElem?_set_self (by omega), ?_, ?_, ?_⟩
      · rw [List.getElem?_set_ne (by omega)]
        show _ = some (Value.slice A us'.length c')
        rw [hus]; exact q1
      · show us'.length ≤ c'
        rw [hus]; exact q2
      · show OwnUps w2 B (.slice A us'.length c') us'
        rw [hus]; exact ho
    · rw [if_neg e]
      obtain ⟨A2, c2, r0, r1, r2, r3⟩ := h2 j hj'
      refine ⟨A2, c2, by rw [List.getElem?_set_ne (by omega)]; exact r0, by rw [List.getElem?_set_ne (by omega)]; exact r1, r2, keptR (keep r3) fun q hq ad e1 e2 => ?_⟩
      subst e1
      exact h3 j n _ _ hj' hn (fun q => e q.symm) r1 q1 q hq (by show some ad.block = some q; rw [e2])
  · rw [List.length_set] at hi hj
    rw [List.getElem?_set_ne (by omega)] at ha hb'
    exact h3 i j a b hi hj hij ha hb'
  · rw [List.length_set] at hi
    rw [List.getElem?_set_ne (by omega)] at ha
    exact h4 i a hi ha
theorem OwnPs.head {col : Nat → Nat} {c B l cc : Nat} {w : World} {A : Option Addr} {ps : List Part} (h : OwnPs col c w B (.slice A l cc) ps) (hp : 0 < ps.length) : ∃ g, A = some ⟨g, 0, none⟩ := by
  obtain rfl := h.len_
  obtain ⟨xs, h1, -⟩ := h
  obtain ⟨g, cap, e, -⟩ := World.ownsRow.form h1 hp
  injection e with e
  exact ⟨g, e⟩
/-- Behind the marks on parts. -/
def PsMarked (col : Nat → Nat) (c B k : Nat) (v : Value) (ps : List Part) (w : World) (e : Ending) (w' : World) : Prop := e = .returned (.int .i64 ((k + zPs ps : Nat) : Int)) ∧ OwnPs col c w' B v (mkPs k ps) ∧ Only (Hue col c) w w' ∧ KeepI w w'
set_option maxRecDepth 100000 in
set_option maxHeartbeats 4000000 in
theorem markPartS_C (col : Nat → Nat) (c B k : Nat) (v : Value) (ps : List Part) (w : World) (h : OwnPs col c w B v ps) (hm : ps.length ≤ 1048576) (hu : ∀ p ∈ ps, p.us.length ≤ 1048576) (h1 : 1 ≤ k) (hk : k + zPs ps ≤ 4000000) :
    Calls Try.prog 39 #[v, .int .i64 (k : Int)] w (PsMarked col c B k v ps w) := by
  have HKM : Hid (∀ m, m ≤ ps.length → k + preS pZ ps m ≤ 4000000) := fun m hm => by
    have := preS_mono (f := pZ) (l := ps) (i := m) ps.length hm (Nat.le_refl _)
    unfold zPs at hk
    omega
  have HLN := hid (mkPs_length k ps)
  obtain ⟨A, cc, rfl, -, -⟩ := h.form
  by_cases h0 : ps.length = 0
  · have e : ps = [] := List.eq_nil_of_length_eq_zero h0
    subst e
    have hz : Hid (PsMarked col c B k (.slice A 0 cc) [] w (.returned (.int .i64 (k : Int))) w) := ⟨rfl, h, Only.refl _ _, KeepI.refl _⟩
    clear h HKM HLN hk hu hm
    go_enter Try.func39, Try.ntmps39
    go_wp2_with fail
    go_loopw [1, 5] (fun q i wr => i = .int .i64 0 ∧ q = .int .i64 (k : Int) ∧ w = wr) (fun _ _ _ => 0)
    case atStart => exact ⟨rfl, rfl, rfl⟩
    case round =>
      obtain ⟨rfl, rfl, rfl⟩ := hrel
      go_wp2
      go_ret
      exact hz.out
  · obtain ⟨g, rfl⟩ := h.head (by omega)
    have HU := hid hu
    have hX : OwnPs col c w B (.slice (some ⟨g, 0, none⟩) ps.length cc) (mixL (mkPs k ps) ps 0) := by rw [mixL_zero]; exact h
    clear hk hu h
    go_enter Try.func39, Try.ntmps39
    go_wp2_with fail
    go_loopw [1, 5] (fun q i wr => ∃ m K : Nat, m ≤ ps.length ∧ i = .int .i64 m ∧ q = .int .i64 (K : Nat) ∧ K ≤ 4000000 ∧ 1 ≤ K ∧ Hid (K = k + preS pZ ps m) ∧ OwnPs col c wr B (.slice (some ⟨g, 0, none⟩) ps.length cc) (mixL (mkPs k ps) ps m) ∧ Only (Hue col c) w wr ∧ KeepI w wr) (fun _ i _ => ps.length - (intOf i).toNat)
    case atStart => exact ⟨0, k, Nat.zero_le _, rfl, rfl, by have := HKM.out 0 (Nat.zero_le _); rw [preS_zero] at this; omega, h1, by show _ = _; rw [preS_zero]; rfl, hX, Only.refl _ _, KeepI.refl _⟩
    case round =>
      clear hX
      obtain ⟨m, K, hm9, rfl, rfl, hK1, hK2, HK, hX, hO, hI⟩ := hrel
      by_cases hlt : m < ps.length
      · obtain ⟨p, hp⟩ : ∃ p, ps[m] = p := ⟨_, rfl⟩
        have hlm : m < (mixL (mkPs k ps) ps m).length := by rw [mixL_len HLN.out]; exact hlt
        obtain ⟨A, c', ⟨v0, c0⟩, f0, c1, hcg, hgl, hq, ou, HN⟩ := hX.mark hlm ((mixL_at HLN.out hlt hlm).trans hp) (K : Nat)
        have hk2 := HKM.out (m + 1) (by omega)
        have hks := preS_succ (f := pZ) hlt
        have hul := HU.out p (by rw [← hp]; exact List.getElem_mem hlt)
        have HST : Hid ((mixL (mkPs k ps) ps m).set m (mkP K p) = mixL (mkPs k ps) ps (m + 1)) := by
          show _ = _
          rw [← mixL_set HLN.out hlt, mkPs_get hlt, ← HK.out, hp]
        have HKS : Hid (k + preS pZ ps (m + 1) = K + (1 + 3 * p.us.length)) := by
          show _ = _
          rw [hks, hp, HK.out]
          unfold pZ
          omega
        rw [HKS.out] at hk2
        obtain ⟨R, hR1, hR2⟩ := inB_of A wr.heap.size
        have k0 : 0 ≤ (m : Int) := by omega
        have k1 : (m : Int) < (ps.length : Int) := by omega
        have HOS : Hid (Only (Hue col c) w (wr.setCell ⟨g, m * 2, none⟩ (.int .i64 (K : Nat)))) := hO.set_ hcg _ _
        have HNN := hid HN
        have HRR : Hid (∀ w2, But R (wr.setCell ⟨g, m * 2, none⟩ (.int .i64 (K : Nat))) w2 → Only (Hue col c) w w2) := fun w2 hb => by
          refine HOS.out.trans ⟨hb.os, hb.tape, hb.output, hb.size, fun i hi hc => hb.block i hi fun e => ?_⟩
          injection e with e
          rcases A with _ | ad
          · have := hR2 rfl
            simp [World.setCell] at hi
            omega
          · refine hc (hq i ?_)
            have := hR1 ad rfl
            show some ad.block = some i
            rw [this, e]
        have e2 : ((K + 1 : Nat) : Int) = (K : Int) + 1 := by omega
        have HMU : Hid (∀ x : World, OwnUps x B (.slice A p.us.length c') p.us → Calls Try.prog 86 #[.slice A p.us.length c', .int .i64 ((K : Int) + 1)] x (UpsMarked ((K : Int) + 1 + 3 * (p.us.length : Int)) (.slice A p.us.length c') (K + 1) p.us.length R B x)) := fun x ho => by
          have := markUps_to ((K : Int) + 1 + 3 * (p.us.length : Int)) (K + 1) R B A c' p.us x ho hR1 hul (by omega) (by omega) (by omega)
          rwa [e2] at this
        have HOU := hid ou
        clear HN hX hO hks hq hp e2 ou hlm
        go_wp2_with fail
        refine (HMU.out _ HOU.out).mono ?_
        rintro e w2 ⟨rfl, ho2, hb2⟩
        obtain ⟨X2, I2⟩ := HNN.out R w2 (mksU (K + 1) p.us.length) (mksU_length _ _) hR1 (fun e => by rw [hR2 e]; exact Nat.le_refl _) hb2 ho2
        have O2 := HRR.out w2 hb2
        have I3 := hI.trans I2
        have X3 : OwnPs col c w2 B (.slice (some ⟨g, 0, none⟩) ps.length cc) (mixL (mkPs k ps) ps (m + 1)) := by rw [← HST.out]; exact X2
        have HK3 : Hid (K + 1 + 3 * p.us.length = k + preS pZ ps (m + 1)) := by show _ = _; rw [HKS.out]; omega
        clear HMU HNN HOS HOU ho2 hb2 X2 HRR HST I2 hI
        go_wp2_with fail
        go_roundw
        case rel => exact ⟨m + 1, K + 1 + 3 * p.us.length, by omega, by go_num, by congr 1, by omega, by omega, HK3, X3, O2, I3⟩
        case measure => simp [intOf]; omega
      · have hm' : m = ps.length := by omega
        subst hm'
        rw [mixL_done HLN.out] at hX
        go_wp2
        go_ret
        exact ⟨by rw [HK.out]; rfl, hX, hO, hI⟩
end Go.Proofs.Ytelmeknpmlbplaa
