/- The coordinator with the slices $SA and $SB is stored as the answer, with the word $BB. -/
/- Laws on coordinators: a coordinator is boxed. -/
/- On to the world behind D. -/
/- An exact law begins: the argument's box, its size, a copy for the model. -/
/- The program's own copy of the argument is boxed. -/
/- The program's copy is as the argument; the region draws. -/
/- Laws on functions that answer numbers. -/
/- What the boxes hold is read again. -/
/- The coordinator with the slices P4 and P5 is boxed as P6, in block P7, behind it the world P3; ahead of region P1. -/
/- The draw, the program's answer, the model's, and that they are the same: behind it w5, all facts on it by way of dx. -/
/-
  Walk: which coordinators are valid, by the model.
-/
import Derived.Test.YtjplondblkkpmaaCooS
namespace Go.Proofs.Ytjplondblkkpmaa
open Go.RowKit Wo Pu Rf Lk Co

/-- The first k transactions are good, and ordered where they are committed. -/
def CGood (c : Crd) (k : Nat) : Prop := ∀ j (h : j < c.ts.length), j < k → TxV c.ts[j] ∧ (c.ts[j].d = 2 ↔ (j : Int) ∈ c.os)
theorem CGood.zero (c : Crd) : CGood c 0 := fun _ _ h => absurd h (Nat.not_lt_zero _)
theorem CGood.succ {c : Crd} {k : Nat} (h : CGood c k) (hk : k < c.ts.length) (h1 : TxV c.ts[k]) (h2 : c.ts[k].d = 2 ↔ (k : Int) ∈ c.os) : CGood c (k + 1) := fun j hj hjk => by
  by_cases e : j = k
  · subst e; exact ⟨h1, h2⟩
  · exact h j hj (by omega)
theorem cv_iff {c : Crd} : CV c ↔ c.ts.length ≤ 12 ∧ CGood c c.ts.length ∧ c.os.length = c.ts.countP isCom := by
  constructor
  · intro h
    exact ⟨h.many, fun j hj _ => ⟨h.txs _ (List.getElem_mem hj), h.ord j hj⟩, h.cnt⟩
  · rintro ⟨h1, h2, h3⟩
    refine ⟨h1, fun t ht => ?_, fun i hi => (h2 i hi hi).2, h3⟩
    obtain ⟨j, hj, rfl⟩ := List.mem_iff_getElem.1 ht
    exact (h2 j hj hj).1
theorem com_succ {ts : List Tx} {k : Nat} (hk : k < ts.length) : (ts.take (k + 1)).countP isCom = (ts.take k).countP isCom + if ts[k].d = 2 then 1 else 0 := by
  rw [List.take_succ_eq_append_getElem hk, List.countP_append]
  congr 1
  unfold isCom
  by_cases e : ts[k].d = 2
  · rw [if_pos e]; simp [e]
  · rw [if_neg e]; simp [e]
set_option linter.unusedSimpArgs false in
set_option maxRecDepth 100000 in
set_option maxHeartbeats 4000000 in
theorem specCoordinatorValid_is (b : Bool) (v : Value) (q : Crd) (w : World) (h : Crdd w w.heap.size v q) (hf : FitC q) (hb : b = true ↔ CV q) :
    Calls Try.prog 19 #[v] w (Ret (.bool b) w) := by
  have HB : Hid (b = true ↔ _) := hb.trans cv_iff
  obtain ⟨A, c, A2, c2, rfl, h1, -, h2, -⟩ := h
  have f1 := hf.ts
  have f2 := hf.os
  have HF := hid hf
  unfold crV
  have al := (Below.refl w.heap.size w).alloc (Nat.le_refl _) (.cells #[.slice A q.ts.length c, .slice A2 q.os.length c2] 26)
  have x0 := Blk2s.new_ w 26 (.slice A q.ts.length c) (.slice A2 q.os.length c2)
  obtain ⟨w1, hw1⟩ : ∃ x, w.alloc (.cells #[.slice A q.ts.length c, .slice A2 q.os.length c2] 26) = x := ⟨_, rfl⟩
  rw [hw1] at al x0
  have HR1 : Hid (∀ y, Below w1.heap.size w1 y → Txs y y.heap.size A q.ts) := fun y hy => (h1.on al).on hy
  have HR2 : Hid (∀ y, Below w1.heap.size w1 y → Row y y.heap.size A2 (ints q.os)) := fun y hy => (((h2.below al (Nat.le_refl _)).more al.size).below hy (Nat.le_refl _)).more hy.size
  have HX : Hid (∀ y, Below w1.heap.size w1 y → y.cell? ⟨w.heap.size, 0, none⟩ = some (.slice A q.ts.length c) ∧ y.cell? ⟨w.heap.size, 1, none⟩ = some (.slice A2 q.os.length c2)) := fun y hy => ⟨(x0.later hy).reads.1, (x0.later hy).reads.2.1⟩
  have no : b ≠ true → b = false := fun h => by cases b; rfl; exact absurd rfl h
  have NO := hid no
  clear h1 h2 hb hf x0 no
  go_enter Try.func19, Try.ntmps19
  go_wp2_with fail
  clear hw1
  go_loopw [3, 4] (fun n i wr => ∃ k : Nat, k ≤ q.ts.length ∧ i = .int .i64 k ∧ n = .int .i64 ((q.ts.take k).countP isCom : Nat) ∧ Hid (CGood q k) ∧ Below w1.heap.size w1 wr) (fun _ i _ => q.ts.length - (intOf i).toNat)
  case atStart => exact ⟨0, Nat.zero_le _, rfl, rfl, .zero _, Below.refl _ _⟩
  case round =>
    obtain ⟨k, hk, rfl, rfl, H, hb⟩ := hrel
    have hN : (q.ts.take k).countP isCom ≤ k := Nat.le_trans List.countP_le_length (by rw [List.length_take]; omega)
    obtain ⟨y0, y1⟩ := HX.out _ hb
    by_cases hlt : k < q.ts.length
    · have HS := hid (com_succ hlt)
      obtain ⟨N, hNN⟩ : ∃ N, (q.ts.take k).countP isCom = N := ⟨_, rfl⟩
      rw [hNN] at hN HS ⊢
      obtain ⟨t, ad, A', c', A3, c3, ho, e2, had, g0, g1, g2, -, -, g5, g6⟩ := (HR1.out _ hb).tx hlt
      have hps := HF.out.ps t (by rw [← ho]; exact List.getElem_mem hlt)
      have hus := HF.out.us t (by rw [← ho]; exact List.getElem_mem hlt)
      have k0 : (0 : Int) ≤ (k : Int) := by omega
      have k1 : (k : Int) < (q.ts.length : Int) := by omega
      obtain ⟨bt, hbt⟩ := bool_ofP' (TxV t)
      have CT := hid (l22Txn_is bt A' c' A3 c3 t wr g5 g6 (by omega) (by omega) (fun p hp => Nat.le_trans (hus p hp) (by omega)) hbt)
      have HO := hid ho
      have HBT := hid hbt
      have HTX := hid (fun y (hy : Below wr.heap.size wr y) => (show y.cell? ⟨(ad.add (k * 3)).block, (ad.add (k * 3)).off + 2, none⟩ = some (.int .i64 t.d) from (hy.cell (p := ⟨(ad.add (k * 3)).block, (ad.add (k * 3)).off + 2, none⟩) had).trans g2))
      subst e2
      clear hNN hbt ho g5 g6 hps hus
      go_wp2_with fail
      refine CT.out.mono ?_
      rintro e w2 ⟨rfl, d2⟩
      have hb2 := hb.trans (d2.mono hb.size)
      have g2' := HTX.out _ d2
      clear y0 y1 g0 g1 g2 CT
      obtain ⟨y0, y1⟩ := HX.out _ hb2
      cases bt with
      | false =>
        have F : Hid (b = false) := NO.out fun e => by have := HBT.out.2 (HO.out ▸ ((HB.out.1 e).2.1 k hlt hlt).1); cases this
        go_wp2
        go_ret
        rw [F.out]
        exact .mk_ (al.trans (hb2.mono al.size))
      | true =>
        obtain ⟨bh, hbh⟩ := bool_of ((k : Int) ∈ q.os)
        have CH := hid (fun y (hy : Below w1.heap.size w1 y) => l1Has_is bh A2 c2 q.os (k : Int) y _ (HR2.out y hy) (by omega) hbh)
        have HBH := hid hbh
        clear hbh
        by_cases hd : t.d = 2
        · rw [hd] at g2'
          have HS' : Hid ((q.ts.take (k + 1)).countP isCom = N + 1) := by show _ = _; rw [HS.out, if_pos (by rw [HO.out]; exact hd)]
          cases bh with
          | true =>
            have HN := hid (H.out.succ hlt (by rw [HO.out]; exact HBT.out.1 rfl) (by rw [HO.out]; exact ⟨fun _ => HBH.out.1 rfl, fun _ => hd⟩))
            clear hd HTX
            go_wp2_with fail
            go_quiet ((go_at_call 46; exact Calls.quiet_of_same ((CH.out _ (Wo.Below.drewN hb2 _)).mono (by rintro e w' ⟨rfl, rfl⟩; exact ⟨rfl, rfl⟩))))
            go_wp2
            go_roundw
            case rel => exact ⟨k + 1, by omega, by go_num, by rw [HS'.out]; go_num, HN, Wo.Below.drewN hb2 _⟩
            case measure => simp [intOf]; omega
          | false =>
            have F : Hid (b = false) := NO.out fun e => by have := HBH.out.2 (((HB.out.1 e).2.1 k hlt hlt).2.1 (by rw [HO.out]; exact hd)); cases this
            clear hd HTX
            go_wp2_with fail
            go_quiet ((go_at_call 46; exact Calls.quiet_of_same ((CH.out _ (Wo.Below.drewN hb2 _)).mono (by rintro e w' ⟨rfl, rfl⟩; exact ⟨rfl, rfl⟩))))
            go_wp2
            go_ret
            rw [F.out]
            exact .mk_ (al.trans ((Wo.Below.drewN hb2 _).mono al.size))
        · have HS' : Hid ((q.ts.take (k + 1)).countP isCom = N) := by show _ = _; rw [HS.out, if_neg (by rw [HO.out]; exact hd)]; rfl
          have e5 : (t.d == 2) = false := by rw [beq_eq_false_iff_ne]; exact hd
          cases bh with
          | false =>
            have HN := hid (H.out.succ hlt (by rw [HO.out]; exact HBT.out.1 rfl) (by rw [HO.out]; exact ⟨fun e => absurd e hd, fun e => by have := HBH.out.2 e; cases this⟩))
            clear hd HTX
            go_wp2_with fail
            go_quiet ((go_at_call 46; exact Calls.quiet_of_same ((CH.out _ (Wo.Below.drewN hb2 _)).mono (by rintro e w' ⟨rfl, rfl⟩; exact ⟨rfl, rfl⟩))))
            go_wp2
            go_roundw
            case rel => exact ⟨k + 1, by omega, by go_num, by rw [HS'.out], HN, Wo.Below.drewN hb2 _⟩
            case measure => simp [intOf]; omega
          | true =>
            have F : Hid (b = false) := NO.out fun e => hd (by have := ((HB.out.1 e).2.1 k hlt hlt).2.2 (HBH.out.1 rfl); rwa [HO.out] at this)
            clear hd HTX
            go_wp2_with fail
            go_quiet ((go_at_call 46; exact Calls.quiet_of_same ((CH.out _ (Wo.Below.drewN hb2 _)).mono (by rintro e w' ⟨rfl, rfl⟩; exact ⟨rfl, rfl⟩))))
            go_wp2
            go_ret
            rw [F.out]
            exact .mk_ (al.trans ((Wo.Below.drewN hb2 _).mono al.size))
    · have hk' : k = q.ts.length := by omega
      subst hk'
      have HG := H
      rw [List.take_length] at hN ⊢
      obtain ⟨N, hNN⟩ : ∃ N, q.ts.countP isCom = N := ⟨_, rfl⟩
      rw [hNN] at HB hN ⊢
      clear hNN
      by_cases h12 : q.ts.length ≤ 12
      · have e1 : decide ((q.ts.length : Int) ≤ 12) = true := decide_eq_true (by omega)
        have e2 : decide (q.ts.length ≤ 12) = true := decide_eq_true h12
        by_cases ho : q.os.length = N
        · have e3 : ((q.os.length : Int) == (N : Int)) = true := by rw [beq_iff_eq]; omega
          have e4 : (q.os.length == N) = true := by rw [beq_iff_eq]; exact ho
          have F : Hid (b = true) := HB.out.2 ⟨h12, HG.out, ho⟩
          clear h12 ho
          go_wp2
          go_ret
          rw [F.out]
          exact .mk_ (al.trans (hb.mono al.size))
        · have e3 : ((q.os.length : Int) == (N : Int)) = false := by rw [beq_eq_false_iff_ne]; omega
          have e4 : (q.os.length == N) = false := by rw [beq_eq_false_iff_ne]; exact ho
          have F : Hid (b = false) := NO.out fun e => ho (HB.out.1 e).2.2
          clear h12 ho
          go_wp2
          go_ret
          rw [F.out]
          exact .mk_ (al.trans (hb.mono al.size))
      · have e1 : decide ((q.ts.length : Int) ≤ 12) = false := decide_eq_false (by omega)
        have e2 : decide (q.ts.length ≤ 12) = false := decide_eq_false h12
        have F : Hid (b = false) := NO.out fun e => h12 (HB.out.1 e).1
        clear h12
        go_wp2
        go_ret
        rw [F.out]
        exact .mk_ (al.trans (hb.mono al.size))
end Go.Proofs.Ytjplondblkkpmaa
