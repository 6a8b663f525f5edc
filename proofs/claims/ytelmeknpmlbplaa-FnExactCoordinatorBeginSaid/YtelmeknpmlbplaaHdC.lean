/-
  Walks: marks read again in parts, transactions and coordinators.
-/
import Derived.Test.YtelmeknpmlbplaaMkD
namespace Go.Proofs.Ytelmeknpmlbplaa
open Go.RowKit Wo Pu Rf Co
set_option linter.unusedVariables false
set_option linter.unusedSimpArgs false

set_option maxRecDepth 100000 in
set_option maxHeartbeats 4000000 in
theorem heldPartS_is (k : Nat) (A : Option Addr) (c : Nat) (ps : List Part) (w : World) (h : Parts w w.heap.size A (mkPs k ps)) (hm : ps.length ≤ 1048576) (hu : ∀ p ∈ ps, p.us.length ≤ 1048576) (h1 : 1 ≤ k) (hk : k + zPs ps ≤ 4000000) :
    Calls Try.prog 108 #[.slice A ps.length c, .int .i64 (k : Int)] w (Ret (.int .i64 ((k + zPs ps : Nat) : Int)) w) := by
  have HKM : Hid (∀ m, m ≤ ps.length → k + preS pZ ps m ≤ 4000000) := fun m hm => by
    have := preS_mono (f := pZ) (l := ps) (i := m) ps.length hm (Nat.le_refl _)
    unfold zPs at hk
    omega
  have HU := hid hu
  clear hu hk
  go_enter Try.func108, Try.ntmps108
  go_wp2_with fail
  go_loopw [1, 5] (fun q i wr => ∃ m K : Nat, m ≤ ps.length ∧ i = .int .i64 m ∧ q = .int .i64 (K : Nat) ∧ K ≤ 4000000 ∧ 1 ≤ K ∧ Hid (K = k + preS pZ ps m) ∧ Below w.heap.size w wr) (fun _ i _ => ps.length - (intOf i).toNat)
  case atStart => exact ⟨0, k, Nat.zero_le _, rfl, rfl, by have := HKM.out 0 (Nat.zero_le _); rw [preS_zero] at this; omega, h1, by show _ = _; rw [preS_zero]; rfl, Below.refl _ _⟩
  case round =>
    obtain ⟨m, K, hm9, rfl, rfl, hK1, hK2, HK, hb⟩ := hrel
    by_cases hlt : m < ps.length
    · obtain ⟨p, hp⟩ : ∃ p, ps[m] = p := ⟨_, rfl⟩
      have hk2 := HKM.out (m + 1) (by omega)
      have hks := preS_succ (f := pZ) hlt
      have hul := HU.out p (by rw [← hp]; exact List.getElem_mem hlt)
      have hlt' : m < (mkPs k ps).length := by rw [mkPs_length]; exact hlt
      obtain ⟨p', ad, A', c', hre, rfl, ha, g0, g1, -, g3⟩ := (h.on hb).part hlt'
      rw [mkPs_get hlt, hp, ← HK.out] at hre
      subst hre
      have e3 : (mkP K p).us.length = p.us.length := mksU_length _ _
      have e4 : (mkP K p).s = (K : Int) := rfl
      rw [e3] at g1
      rw [e4] at g0
      have HKS : Hid (k + preS pZ ps (m + 1) = K + (1 + 3 * p.us.length)) := by
        show _ = _
        rw [hks, hp, HK.out]
        unfold pZ
        omega
      rw [HKS.out] at hk2
      have k0 : 0 ≤ (m : Int) := by omega
      have k1 : (m : Int) < (ps.length : Int) := by omega
      have e2 : ((K + 1 : Nat) : Int) = (K : Int) + 1 := by omega
      have HUU : Hid (Calls Try.prog 116 #[.slice A' p.us.length c', .int .i64 ((K : Int) + 1)] wr (Ret (.int .i64 ((K : Int) + 1 + 3 * (p.us.length : Int))) wr)) := by
        have := heldUps_to ((K : Int) + 1 + 3 * (p.us.length : Int)) (K + 1) A' c' p.us.length wr g3 hul (by omega) (by omega)
        rwa [e2] at this
      clear e2 hks hp hlt' e3 e4
      go_wp2_with fail
      refine HUU.out.mono ?_
      rintro e w2 ⟨rfl, d⟩
      have hb2 := hb.trans (d.mono hb.size)
      have HK3 : Hid (K + 1 + 3 * p.us.length = k + preS pZ ps (m + 1)) := by show _ = _; rw [HKS.out]; omega
      have hneg : ¬ ((K : Int) + 1 + 3 * (p.us.length : Int) < 0) := by omega
      clear HUU d g0 g1 g3
      go_wp2_with fail
      go_roundw
      case rel => exact ⟨m + 1, K + 1 + 3 * p.us.length, by omega, by go_num, by congr 1, by omega, by omega, HK3, hb2⟩
      case measure => simp [intOf]; omega
    · have hm' : m = ps.length := by omega
      subst hm'
      go_wp2
      go_ret
      exact ⟨by rw [HK.out]; rfl, hb⟩
set_option maxRecDepth 100000 in
set_option maxHeartbeats 4000000 in
theorem heldTxnS_is (k : Nat) (A : Option Addr) (c : Nat) (ts : List Tx) (w : World) (h : Txs w w.heap.size A (mkTs k ts)) (hm : ts.length ≤ 1048576) (hps : ∀ t ∈ ts, t.ps.length ≤ 1048576 ∧ t.vs.length ≤ 1048576) (hus : ∀ t ∈ ts, ∀ p ∈ t.ps, p.us.length ≤ 1048576) (h1 : 1 ≤ k) (hk : k + zTs ts ≤ 4000000) :
    Calls Try.prog 87 #[.slice A ts.length c, .int .i64 (k : Int)] w (Ret (.int .i64 ((k + zTs ts : Nat) : Int)) w) := by
  have HKM : Hid (∀ m, m ≤ ts.length → k + preS tZ ts m ≤ 4000000) := fun m hm => by
    have := preS_mono (f := tZ) (l := ts) (i := m) ts.length hm (Nat.le_refl _)
    unfold zTs at hk
    omega
  have HP := hid hps
  have HU := hid hus
  clear hus hps hk
  go_enter Try.func87, Try.ntmps87
  go_wp2_with fail
  go_loopw [1, 5] (fun q i wr => ∃ m K : Nat, m ≤ ts.length ∧ i = .int .i64 m ∧ q = .int .i64 (K : Nat) ∧ K ≤ 4000000 ∧ 1 ≤ K ∧ Hid (K = k + preS tZ ts m) ∧ Below w.heap.size w wr) (fun _ i _ => ts.length - (intOf i).toNat)
  case atStart => exact ⟨0, k, Nat.zero_le _, rfl, rfl, by have := HKM.out 0 (Nat.zero_le _); rw [preS_zero] at this; omega, h1, by show _ = _; rw [preS_zero]; rfl, Below.refl _ _⟩
  case round =>
    obtain ⟨m, K, hm9, rfl, rfl, hK1, hK2, HK, hb⟩ := hrel
    by_cases hlt : m < ts.length
    · obtain ⟨t, ht⟩ : ∃ t, ts[m] = t := ⟨_, rfl⟩
      have hk2 := HKM.out (m + 1) (by omega)
      have hks := preS_succ (f := tZ) hlt
      have hpl := HP.out t (by rw [← ht]; exact List.getElem_mem hlt)
      have hul := HU.out t (by rw [← ht]; exact List.getElem_mem hlt)
      have hlt' : m < (mkTs k ts).length := by rw [mkTs_length]; exact hlt
      obtain ⟨t', ad, A1, c1, B1, e1, hre, rfl, ha, g0, g1, g2, -, -, g5, g6⟩ := (h.on hb).tx hlt'
      rw [mkTs_get hlt, ht, ← HK.out] at hre
      subst hre
      have e3 : (mkT K t).ps.length = t.ps.length := mkPs_length _ _
      have e4 : (mkT K t).vs.length = t.vs.length := marks_length _ _
      have e5 : (mkT K t).d = ((K + zPs t.ps + t.vs.length : Nat) : Int) := rfl
      rw [e3] at g0
      rw [e4] at g1
      rw [e5] at g2
      have HKS : Hid (k + preS tZ ts (m + 1) = K + zPs t.ps + t.vs.length + 1) := by
        show _ = _
        rw [hks, ht, HK.out]
        unfold tZ
        omega
      rw [HKS.out] at hk2
      have k0 : 0 ≤ (m : Int) := by omega
      have k1 : (m : Int) < (ts.length : Int) := by omega
      have CP := hid (heldPartS_is K A1 c1 t.ps wr g5 hpl.1 hul hK2 (by omega))
      have HCC : Hid (∀ x, Below wr.heap.size wr x → x.cell? (ad.add (m * 3)) = some (.slice A1 t.ps.length c1) ∧ x.cell? ⟨(ad.add (m * 3)).block, (ad.add (m * 3)).off + 1, none⟩ = some (.slice B1 t.vs.length e1) ∧ x.cell? ⟨(ad.add (m * 3)).block, (ad.add (m * 3)).off + 2, none⟩ = some (.int .i64 ((K + zPs t.ps + t.vs.length : Nat) : Int))) := fun x hx =>
        ⟨(hx.cell ha).trans g0, (hx.cell (p := ⟨(ad.add (m * 3)).block, (ad.add (m * 3)).off + 1, none⟩) ha).trans g1, (hx.cell (p := ⟨(ad.add (m * 3)).block, (ad.add (m * 3)).off + 2, none⟩) ha).trans g2⟩
      have hV : Row wr wr.heap.size B1 (ints (marks ((K + zPs t.ps : Nat) : Int) t.vs.length)) := g6
      clear hks ht hlt' e3 e4 e5 g5 g6
      go_wp2_with fail
      refine CP.out.mono ?_
      rintro e w2 ⟨rfl, d⟩
      have hb2 := hb.trans (d.mono hb.size)
      clear g0 g1 g2 CP
      obtain ⟨g0, g1, g2⟩ := HCC.out _ d
      have n1 : ¬ (((K + zPs t.ps : Nat) : Int) < 0) := by omega
      have CI := hid (heldIntS_yes _ B1 e1 t.vs.length ((K + zPs t.ps : Nat) : Int) w2 (hV.below d (Nat.le_refl _)) hpl.2 (by omega) (by omega))
      go_wp2_with fail
      refine CI.out.mono ?_
      rintro e w3 ⟨rfl, rfl⟩
      have n2 : ¬ (((K + zPs t.ps : Nat) : Int) + (t.vs.length : Int) < 0) := by omega
      have n3 : ((K + zPs t.ps + t.vs.length : Nat) : Int) = ((K + zPs t.ps : Nat) : Int) + (t.vs.length : Int) := by omega
      rw [n3] at g2
      have HK3 : Hid (K + zPs t.ps + t.vs.length + 1 = k + preS tZ ts (m + 1)) := by show _ = _; rw [HKS.out]
      clear CI HCC n3
      go_wp2_with fail
      go_roundw
      case rel => exact ⟨m + 1, K + zPs t.ps + t.vs.length + 1, by omega, by go_num, by congr 1, by omega, by omega, HK3, hb2⟩
      case measure => simp [intOf]; omega
    · have hm' : m = ts.length := by omega
      subst hm'
      go_wp2
      go_ret
      exact ⟨by rw [HK.out]; rfl, hb⟩
set_option maxRecDepth 100000 in
set_option maxHeartbeats 4000000 in
theorem heldCoordinator_is (k : Nat) (v : Value) (q : Crd) (w : World) (h : Crdd w w.heap.size v (mkC k q)) (hf : FitC q) (h1 : 1 ≤ k) (hk : k + zC q ≤ 4000000) :
    Calls Try.prog 40 #[v, .int .i64 (k : Int)] w (Ret (.int .i64 ((k + zC q : Nat) : Int)) w) := by
  have hf2 := hf.os
  obtain ⟨A, c, A2, c2, rfl, hT, hc, hO, hc2⟩ := h
  have e1 : (mkC k q).ts.length = q.ts.length := mkTs_length _ _
  have e2 : (mkC k q).os.length = q.os.length := marks_length _ _
  have hz : k + zTs q.ts ≤ 4000000 := by unfold zC at hk; omega
  rw [e1, e2]
  unfold crV
  have al := (Below.refl w.heap.size w).alloc (Nat.le_refl _) (.cells #[.slice A q.ts.length c, .slice A2 q.os.length c2] 26)
  have x0 := Blk2s.new_ w 26 (.slice A q.ts.length c) (.slice A2 q.os.length c2)
  go_enter Try.func40, Try.ntmps40
  go_upto_region 1 with fail
  obtain ⟨w1, hw1⟩ : ∃ x, w.alloc (.cells #[.slice A q.ts.length c, .slice A2 q.os.length c2] 26) = x := ⟨_, rfl⟩
  rw [hw1] at al x0 ⊢
  clear hw1
  have CT := hid (heldTxnS_is k A c q.ts w1 (hT.on al) hf.ts hf.ps hf.us h1 hz)
  obtain ⟨y0, y1, -⟩ := id x0.reads
  clear e1 e2
  go_wp2_with fail
  refine CT.out.mono ?_
  rintro e w2 ⟨rfl, d⟩
  replace al := al.trans (d.mono al.size)
  replace x0 := x0.later d
  clear CT y0 y1
  obtain ⟨y0, y1, -⟩ := id x0.reads
  have n1 : ¬ (((k + zTs q.ts : Nat) : Int) < 0) := by omega
  have CI := hid (heldIntS_yes _ A2 c2 q.os.length ((k + zTs q.ts : Nat) : Int) w2 (hO.below al (Nat.le_refl _)) hf2 (by omega) (by omega))
  go_wp2_with fail
  refine CI.out.mono ?_
  rintro e w3 ⟨rfl, rfl⟩
  have n2 : ¬ (((k + zTs q.ts : Nat) : Int) + (q.os.length : Int) < 0) := by omega
  have HR : Hid (Ret (.int .i64 ((k + zC q : Nat) : Int)) w (.returned (.int .i64 (((k + zTs q.ts : Nat) : Int) + (q.os.length : Int)))) w2) := ⟨by congr 2; unfold zC; omega, al⟩
  clear CI
  go_wp2
  go_ret
  exact HR.out
end Go.Proofs.Ytelmeknpmlbplaa
