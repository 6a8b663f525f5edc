/-
  Walk: the program's PackDepth.
-/
import Derived.Test.YtkekbobnbipmoaaLink
import Derived.Test.YtkekbobnbipmoaaNode
namespace Go.Proofs.Ytkekbobnbipmoaa
open Go.RowKit Wo Pu

theorem pDep_no {es : List Ent} {i : Int} (h : ¬ (basB es = true ∧ 0 ≤ i ∧ i < (es.length : Int))) : pDep es i = -1 := if_neg h
theorem pDep_yes {es : List Ent} {i : Nat} (h1 : basB es = true) (h2 : i < es.length) : pDep es (i : Int) = (dep es i : Int) := by
  unfold pDep
  rw [if_pos ⟨h1, by omega, by omega⟩, show ((i : Int)).toNat = i from by omega]

set_option maxHeartbeats 2000000 in
theorem implPackDepth_any (A : Option Addr) (c : Nat) (es : List Ent) (i : Int) (w : World) (h : Ents w w.heap.size A es) (hn : es.length ≤ 1048576) (hfe : FitE es) :
    Calls Try.prog 14 #[.slice A es.length c, .int .i64 i] w (Ret (.int .i64 (pDep es i)) w) := by
  go_enter Try.func14, Try.ntmps14
  go_wp2_with fail
  refine (linkEntries_any A c es w h hn hfe).mono ?_
  rintro e w1 (⟨hb, rfl, b1⟩ | ⟨hb, v, ns, rfl, hch, _, _, b1⟩)
  · have HP := hid (pDep_no (es := es) (i := i) (fun e => by rw [hb] at e; exact Bool.noConfusion e.1))
    go_wp2
    go_ret
    rw [HP.out]
    exact .mk_ b1
  · obtain ⟨A1, c1, rfl, hrow, _⟩ := hch.row
    have hnl := hch.1
    by_cases h0 : 0 ≤ i
    · obtain ⟨k, rfl⟩ : ∃ k : Nat, i = (k : Int) := ⟨i.toNat, by omega⟩
      by_cases hlt : k < es.length
      · have hk2 : k < ns.length := by omega
        have HP := hid (pDep_yes hb hlt)
        have i1 : (k : Int) < (ns.length : Int) := by omega
        obtain ⟨ad, rfl, hadb, g0⟩ := hrow.ptr_ hk2
        go_wp2_with (go_at_call 44; refine (depth_any _ _ es ns k w1 hch hlt hk2 hn).mono ?_; rintro e w' ⟨rfl, rfl⟩)
        go_ret
        rw [HP.out]
        exact .mk_ b1
      · have HP := hid (pDep_no (es := es) (i := (k : Int)) (fun e => hlt (by omega)))
        have i1 : ¬ (k : Int) < (ns.length : Int) := by omega
        go_wp2
        go_ret
        rw [HP.out]
        exact .mk_ b1
    · have HP := hid (pDep_no (es := es) (i := i) (fun e => h0 e.2.1))
      have i1 : i < 0 := by omega
      go_wp2
      go_ret
      rw [HP.out]
      exact .mk_ b1
end Go.Proofs.Ytkekbobnbipmoaa
