/-
  Walk: the updates of a transaction for a shard, by the program.
-/
import Derived.Test.YtjplondblkkpmaaG5C
import Derived.Test.YtjplondblkkpmaaTxnI
namespace Go.Proofs.Ytjplondblkkpmaa
open Go.RowKit Wo Pu Rf Co

/-- Behind it: updates that can be read. -/
def ReadU (B : Nat) (us : List Up) (w : World) (e : Ending) (w' : World) : Prop := ∃ A c, e = .returned (.slice A us.length c) ∧ Row w' B A (upsV us) ∧ Below w.heap.size w w'
set_option linter.unusedSimpArgs false in
set_option linter.unusedVariables false in
set_option maxRecDepth 100000 in
set_option maxHeartbeats 8000000 in
theorem updatesFor_is (B : Nat) (A : Option Addr) (c : Nat) (A2 : Option Addr) (c2 : Nat) (t : Tx) (s : Int) (w : World) (hB : B ≤ w.heap.size) (h1 : Parts w B A t.ps) (hm : t.ps.length ≤ 1048576) :
    Calls Try.prog 64 #[.agg #[.slice A t.ps.length c, .slice A2 t.vs.length c2, .int .i64 t.d], .int .i64 s] w (ReadU B (usAt t.ps s) w) := by
  have b1 := (Below.refl w.heap.size w).alloc (Nat.le_refl _) (.cells #[.slice A t.ps.length c, .slice A2 t.vs.length c2, .int .i64 t.d] 33)
  have x0 := Blk3s.new_ w 33 (.slice A t.ps.length c) (.slice A2 t.vs.length c2) (.int .i64 t.d)
  go_enter Try.func64, Try.ntmps64
  go_upto_region 1 with fail
  obtain ⟨w1, hw1⟩ : ∃ x, w.alloc (.cells #[.slice A t.ps.length c, .slice A2 t.vs.length c2, .int .i64 t.d] 33) = x := ⟨_, rfl⟩
  rw [hw1] at b1 x0 ⊢
  clear hw1
  obtain ⟨y0, y1, y2, -⟩ := id x0.reads
  go_wp2_with fail
  go_loopw [10] (fun i wr => ∃ k : Nat, k ≤ t.ps.length ∧ i = .int .i64 k ∧ Hid (∀ j (hj : j < t.ps.length), j < k → t.ps[j].s ≠ s) ∧ Below w.heap.size w wr) (fun i _ => t.ps.length - (intOf i).toNat)
  case atStart => exact ⟨0, Nat.zero_le _, rfl, fun j _ h => absurd h (Nat.not_lt_zero _), b1⟩
  case round =>
    clear b1 x0 y0 y1 y2
    obtain ⟨k, hk, rfl, H, hb⟩ := hrel
    have hz := hb.size
    by_cases hlt : k < t.ps.length
    · obtain ⟨p, ad, A5, c5, hop, rfl, hbp, p0, p1, -, p3⟩ := (h1.below hb hB).part hlt
      have k0 : (0 : Int) ≤ (k : Int) := by omega
      have k1 : (k : Int) < (t.ps.length : Int) := by omega
      have al := (Below.refl wr.heap.size wr).alloc (Nat.le_refl _) (.cells #[.int .i64 p.s, .slice A5 p.us.length c5] 36)
      obtain ⟨z0, z1, -⟩ := (Blk2s.new_ wr 36 (.int .i64 p.s) (.slice A5 p.us.length c5)).reads
      have hb2 := hb.trans (al.mono hz)
      by_cases hps : p.s = s
      · have e0 : (p.s == s) = true := beq_iff_eq.2 hps
        have HU : Hid (usAt t.ps s = p.us) := by
          show _ = _
          rw [usAt_at hlt (by rw [hop]; exact hps) H.out, hop]
        have r3 := p3.below al (Nat.le_trans hB hz)
        clear hps hop H al p3
        go_wp2
        go_ret
        rw [HU.out]
        exact ⟨A5, c5, rfl, r3, hb2⟩
      · have e0 : (p.s == s) = false := beq_eq_false_iff_ne.2 hps
        have HN : Hid (∀ j (hj : j < t.ps.length), j < k + 1 → t.ps[j].s ≠ s) := fun j hj hl => by
          by_cases e : j = k
          · subst e; rw [hop]; exact hps
          · exact H.out j hj (by omega)
        clear hps hop H al p3
        go_wp2
        go_roundw
        case rel => exact ⟨k + 1, by omega, by go_num, HN, hb2⟩
        case measure => simp [intOf]; omega
    · have HU : Hid (usAt t.ps s = []) := usAt_no fun j hj => H.out j hj (by omega)
      clear H
      go_wp2
      go_ret
      rw [HU.out]
      exact ⟨none, 0, rfl, .inl rfl, hb⟩
end Go.Proofs.Ytjplondblkkpmaa
