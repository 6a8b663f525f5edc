/-
  Walks inside a fence: the iterator over the records of bytes.
-/
import Derived.Test.YtclonfhpabdpgaaLogH
import Derived.RangeFuncNested
import Derived.RangeFuncBound
import Derived.RangeFuncBox
import Derived.RangeFuncCalls
import Derived.RangeFuncLeaves
import Derived.Shelf.Abstract
import Derived.Shelf.RegionOpen
import Derived.OwnWalkIn
import Derived.TacticsInMore
import Derived.LoopNIn
import Derived.LoopIn
namespace Go.Proofs.Ytclonfhpabdpgaa
open Go.RowKit Go.Shelf Go.Lib Wo Pu Lg

/-- A text that may be a record. -/
abbrev Rec := { s : ByteArray // s.size ≤ 12 }
def mkRec (r : List UInt8) : Rec := ⟨mk (r.take 12), by rw [mk_size, List.length_take]; omega⟩
theorem mkRec_val {r : List UInt8} (h : r.length ≤ 12) : (mkRec r).1 = mk r := by show mk (r.take 12) = mk r; rw [List.take_of_length_le h]
/-- The records that are read. -/
def recs (L : List UInt8) : List Rec := (scan L).map mkRec
theorem recs_none {L : List UInt8} (h : first L = none) : recs L = [] := by unfold recs; rw [scan_none h]; rfl
theorem recs_some {L r : List UInt8} (h : first L = some r) : recs L = mkRec r :: recs (L.drop (r.length + 2)) := by unfold recs; rw [scan_some h]; rfl
theorem recs_length (L : List UInt8) : (recs L).length = (scan L).length := List.length_map _

def strSz : Value → Nat
  | .string s => s.size
  | _ => 0

theorem grow_of {w w' : World} (h : Below w.heap.size w w') : w.grownBy w' none := ⟨h.os, h.tape, h.output, h.size, fun k hk _ => h.block k hk⟩

set_option maxRecDepth 100000 in
set_option maxHeartbeats 4000000 in
theorem recsIter_in (l Bn : Nat) (s : ByteArray) (hs : s.size ≤ maxLen) (n₀ : Nat) (J Jx : List Rec → World → Prop) (W : World)
    (hJ : ∀ pre X Y, J pre X → X.grownBy Y none → J pre Y)
    (hY : ∀ pre (x : Rec) W1, J pre W1 → pre.length < (recs (bl s)).length → YieldAt Fence.wide (3 - 1 - 1) Try.prog l #[.string x.1] W1 fun e W' =>
      (e = .returned (.bool true) ∧ J (pre ++ [x]) W' ∧ Below n₀ W1 W') ∨ (e = .returned (.bool false) ∧ Jx (pre ++ [x]) W'))
    (hBn : W.cell? ⟨Bn, 0, none⟩ = some (.string s)) (h0 : J [] W) :
    CallsIn Fence.wide (3 - 1) Try.prog 46 #[.func (.yield l) #[] #[], .pointer (some ⟨Bn, 0, none⟩)] W fun e W' => (∃ v, e = .returned v) ∧
      ((∃ ys, ys = recs (bl s) ∧ J ys W') ∨ (∃ pre, pre <+: recs (bl s) ∧ Jx pre W')) := by
  refine callsIn_of_wp Try.func46 rfl trivial ?_ rfl
  simp only [Try.ntmps46, List.size_toArray, List.length_cons, List.length_nil, Nat.reduceAdd, Nat.reduceSub, Array.replicate_succ, Array.replicate_zero, List.push_toArray, List.append_toArray, List.nil_append, List.cons_append]
  gi_wp2
  gi_loopw [3] (fun p wr => ∃ (pre : List Rec) (t : ByteArray), p = .string t ∧ t.size ≤ s.size ∧ Hid (recs (bl s) = pre ++ recs (bl t)) ∧ J pre wr)
    (fun p _ => strSz p)
  case atStart => exact ⟨[], s, rfl, Nat.le_refl _, rfl, h0⟩
  case round =>
    obtain ⟨pre, t, rfl, ht, HX, hJs⟩ := hrel
    have htm : t.size ≤ maxLen := by omega
    cases hf : first (bl t) with
    | none =>
      have HE : Hid (recs (bl s) = pre) := by show _ = _; rw [HX.out, recs_none hf, List.append_nil]
      have HF := hid hf
      clear hf HX
      gi_wp2_with (refine ⟨trivial, ?_⟩; gi_at_call 47; refine (callsIn_wide.2 (firstRec_no t _ htm HF.out)).mono ?_; rintro e w' ⟨rfl, hb⟩)
      refine ⟨fun _ h => (by cases h), ?_⟩
      gi_wp2
      refine bodyPost_ret (results_none rfl _ _ _) rfl ?_
      exact ⟨⟨_, rfl⟩, .inl ⟨pre, HE.out.symm, hJ _ _ _ hJs (grow_of hb)⟩⟩
    | some r =>
      have hlen := first_len hf
      obtain ⟨hfit, -⟩ := first_some hf
      rw [bl_size] at hlen
      have HX2 : Hid (recs (bl s) = (pre ++ [mkRec r]) ++ recs (bl (t.extract (r.length + 2) t.size))) := by
        show _ = _
        rw [HX.out, recs_some hf, bl_extract, List.append_assoc, List.singleton_append, List.take_of_length_le (by rw [List.length_drop, bl_size]; exact Nat.le_refl _)]
      have hpl : pre.length < (recs (bl s)).length := by rw [HX.out, recs_some hf, List.length_append, List.length_cons]; omega
      have HF := hid hf
      have HV := hid (mkRec_val hfit.2)
      have HK := hid (mk_size r)
      have hY1 := fun W1 (h : J pre W1) => hY pre (mkRec r) W1 h hpl
      clear hf HX hpl hfit
      gi_wp2_with (refine ⟨trivial, ?_⟩; gi_at_call 47; refine (callsIn_wide.2 (firstRec_yes t r _ htm HF.out)).mono ?_; rintro e w' ⟨rfl, hb⟩; obtain ⟨fn, tmps, assign, body, hy, hR⟩ := hY1 _ (hJ _ _ _ hJs (grow_of hb)); rw [HV.out] at hy)
      refine hR.mono ?_
      clear hR hy hY1
      rintro e W3 (⟨rfl, hJ3, -⟩ | ⟨rfl, hJx3⟩)
      · have k0 := HK.out
        unfold maxLen at htm
        have q1 : (r.length : Int) + 2 ≤ (t.size : Int) := by omega
        gi_wp2
        go_roundw
        case rel => exact ⟨pre ++ [mkRec r], _, rfl, by rw [ByteArray.size_extract]; omega, HX2, hJ3⟩
        case measure => simp [strSz, ByteArray.size_extract]; omega
      · have HP : Hid (pre ++ [mkRec r] <+: recs (bl s)) := ⟨_, HX2.out.symm⟩
        gi_wp2
        refine bodyPost_ret (results_none rfl _ _ _) rfl ?_
        exact ⟨⟨_, rfl⟩, .inr ⟨pre ++ [mkRec r], HP.out, hJx3⟩⟩
end Go.Proofs.Ytclonfhpabdpgaa
