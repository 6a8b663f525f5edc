/- The coordinator with the slices $SA and $SB is stored as the answer, with the word $BB. -/
/-
  Walks: what a record tells the program's ledger.
-/
import Derived.Test.YteeffchnbkkpfabDoorLedD
import Derived.Test.YteeffchnbkkpfabDoorShdC
namespace Go.Proofs.YteeffchnbkkpfabDoor
open Go.RowKit Wo Pu Rf Lk Sh

/-- A record that is right by itself. -/
def RightR (r : Rec) : Prop := TV r.t ∧ ((r.k = 1 ∧ UV r.us) ∨ (r.k = 2 ∧ r.us.length = 0) ∨ (r.k = 3 ∧ r.us.length = 0))
/-- What it tells. -/
def entV (A : Option Addr) (c : Nat) (r : Rec) : Value :=
  if r.k = 1 then .iface 128 (.agg #[.int .i64 r.t, .slice A r.us.length c]) else if r.k = 2 then .iface 130 (.agg #[.int .i64 r.t]) else .iface 131 (.agg #[.int .i64 r.t])
def EntO (A : Option Addr) (c : Nat) (r : Rec) (b : Bool) (w : World) (e : Ending) (w' : World) : Prop := e = .returned (.tuple #[if b then entV A c r else .nilIface, .bool b]) ∧ Below w.heap.size w w'
/- The end: nothing is told. -/
set_option maxRecDepth 100000 in
set_option maxHeartbeats 4000000 in
theorem entry_is (b : Bool) (A : Option Addr) (c : Nat) (r : Rec) (w : World) (hu : Row w w.heap.size A (upsV r.us)) (hul : r.us.length ≤ 1048600) (hb : b = true ↔ RightR r) :
    Calls Tryd.prog 84 #[.agg #[.int .i64 r.k, .int .i64 r.t, .slice A r.us.length c]] w (EntO A c r b w) := by
  obtain ⟨vt, hvt⟩ := bool_of (TV r.t)
  obtain ⟨vu, hvu⟩ := bool_of (UV r.us)
  have CT : Hid (∀ x, Calls Tryd.prog 61 #[.int .i64 r.t] x (Same (.bool vt) x)) := fun x => txnValid_is vt r.t x hvt
  have CU : Hid (∀ x, Row x x.heap.size A (upsV r.us) → Calls Tryd.prog 54 #[.slice A r.us.length c] x (Ret (.bool vu) x)) := fun x hx => implUpdatesValid_is vu A c r.us x hx hul hvu
  have HB := hid hb
  have HT := hid hvt
  have HU := hid hvu
  have b1 := (Below.refl w.heap.size w).alloc (Nat.le_refl _) (.cells #[.int .i64 r.k, .int .i64 r.t, .slice A r.us.length c] 33)
  have x1 := Blk3s.new_ w 33 (.int .i64 r.k) (.int .i64 r.t) (.slice A r.us.length c)
  clear hb hvt hvu
  go_enter Tryd.func84, Tryd.ntmps84
  go_upto_region 1 with fail
  obtain ⟨w1, hw1⟩ : ∃ x, w.alloc (.cells #[.int .i64 r.k, .int .i64 r.t, .slice A r.us.length c] 33) = x := ⟨_, rfl⟩
  rw [hw1] at b1 x1 ⊢
  clear hw1
  obtain ⟨y0, y1, y2, -⟩ := id x1.reads
  go_wp2_with fail
  refine (CT.out _).mono ?_
  rintro e w2 ⟨rfl, rfl⟩
  cases vt with
  | false =>
    have F : Hid (b = false) := by
      show b = false
      rw [← Bool.not_eq_true]
      exact fun e => by have := HT.out.2 (HB.out.1 e).1; cases this
    go_wp2
    go_ret2
    rw [F.out]
    exact ⟨rfl, b1⟩
  | true =>
    have tv := hid (HT.out.1 rfl)
    by_cases h1 : r.k = 1
    · have e1 : (r.k == 1) = true := by rw [beq_iff_eq]; exact h1
      have e2 : (r.k == 2) = false := by rw [beq_eq_false_iff_ne]; omega
      have e3 : (r.k == 3) = false := by rw [beq_eq_false_iff_ne]; omega
      have HV : Hid (entV A c r = .iface 128 (.agg #[.int .i64 r.t, .slice A r.us.length c])) := by show _ = _; unfold entV; rw [if_pos h1]
      have H1 := hid h1
      clear h1
      go_wp2_with fail
      refine (CU.out _ (row_on hu b1)).mono ?_
      rintro e w2 ⟨rfl, d2⟩
      replace x1 := x1.later d2
      replace b1 := b1.trans (d2.mono b1.size)
      clear y0 y1 y2 d2
      obtain ⟨y0, y1, y2, -⟩ := id x1.reads
      cases vu with
      | true =>
        have F : Hid (b = true) := HB.out.2 ⟨tv.out, .inl ⟨H1.out, HU.out.1 rfl⟩⟩
        clear hu hul
        go_wp2
        go_ret2
        rw [F.out]
        refine ⟨?_, b1⟩
        rw [if_pos rfl, HV.out]
        rfl
      | false =>
        have F : Hid (b = false) := by
          show b = false
          rw [← Bool.not_eq_true]
          intro e
          have h1 := H1.out
          rcases (HB.out.1 e).2 with h | h | h
          · have := HU.out.2 h.2; cases this
          · omega
          · omega
        clear hu hul
        go_wp2
        go_ret2
        rw [F.out]
        exact ⟨rfl, b1⟩
    · have e1 : (r.k == 1) = false := by rw [beq_eq_false_iff_ne]; exact h1
      clear CU
      by_cases h0 : r.us.length = 0
      · have e0 : ((r.us.length : Int) == 0) = true := by rw [beq_iff_eq]; omega
        by_cases h2 : r.k = 2
        · have e2 : (r.k == 2) = true := by rw [beq_iff_eq]; exact h2
          have HV : Hid (entV A c r = .iface 130 (.agg #[.int .i64 r.t])) := by show _ = _; unfold entV; rw [if_neg h1, if_pos h2]
          have F : Hid (b = true) := HB.out.2 ⟨tv.out, .inr (.inl ⟨h2, h0⟩)⟩
          clear h1 h2 h0 hu hul
          go_wp2
          go_ret2
          rw [F.out]
          refine ⟨?_, b1⟩
          rw [if_pos rfl, HV.out]
          rfl
        · have e2 : (r.k == 2) = false := by rw [beq_eq_false_iff_ne]; exact h2
          by_cases h3 : r.k = 3
          · have e3 : (r.k == 3) = true := by rw [beq_iff_eq]; exact h3
            have HV : Hid (entV A c r = .iface 131 (.agg #[.int .i64 r.t])) := by show _ = _; unfold entV; rw [if_neg h1, if_neg h2]
            have F : Hid (b = true) := HB.out.2 ⟨tv.out, .inr (.inr ⟨h3, h0⟩)⟩
            clear h1 h2 h3 h0 hu hul
            go_wp2
            go_ret2
            rw [F.out]
            refine ⟨?_, b1⟩
            rw [if_pos rfl, HV.out]
            rfl
          · have e3 : (r.k == 3) = false := by rw [beq_eq_false_iff_ne]; exact h3
            have F : Hid (b = false) := by
              show b = false
              rw [← Bool.not_eq_true]
              exact fun e => by rcases (HB.out.1 e).2 with h | h | h <;> omega
            clear h1 h2 h3 h0 hu hul
            go_wp2
            go_ret2
            rw [F.out]
            exact ⟨rfl, b1⟩
      · have e0 : ((r.us.length : Int) == 0) = false := by rw [beq_eq_false_iff_ne]; omega
        have F : Hid (b = false) := by
          show b = false
          rw [← Bool.not_eq_true]
          exact fun e => by rcases (HB.out.1 e).2 with h | h | h <;> omega
        clear h0 hu hul
        by_cases h2 : r.k = 2
        · have e2 : (r.k == 2) = true := by rw [beq_iff_eq]; exact h2
          have e3 : (r.k == 3) = false := by rw [beq_eq_false_iff_ne]; omega
          clear h1 h2
          go_wp2
          go_ret2
          rw [F.out]
          exact ⟨rfl, b1⟩
        · have e2 : (r.k == 2) = false := by rw [beq_eq_false_iff_ne]; exact h2
          by_cases h3 : r.k = 3
          · have e3 : (r.k == 3) = true := by rw [beq_iff_eq]; exact h3
            clear h1 h2 h3
            go_wp2
            go_ret2
            rw [F.out]
            exact ⟨rfl, b1⟩
          · have e3 : (r.k == 3) = false := by rw [beq_eq_false_iff_ne]; exact h3
            clear h1 h2 h3
            go_wp2
            go_ret2
            rw [F.out]
            exact ⟨rfl, b1⟩
end Go.Proofs.YteeffchnbkkpfabDoor
