/-
  Walks: a store that is seldom invalid, as the draws make it.
  Walks: the drawn arguments of StoreValid and of StoreGet.
-/
import Derived.Test.YtblknnifccmpkaaDrawSt
import Derived.Test.YtblknnifccmpkaaDrawOb
namespace Go.Proofs.Ytblknnifccmpkaa
open Go.RowKit Wo Pu

/-- A list of valid objects has been drawn. -/
def SpDrawn (R : Nat) (q : Int) (w : World) (e : Ending) (w' : World) : Prop :=
  ∃ v os, e = .returned v ∧ OwnObs w' w.heap.size v os ∧ os.length ≤ 22 ∧ (∀ p ∈ os, vOb p = true) ∧ Rd w' R (q + 50002) ∧ But R w w'

set_option maxHeartbeats 4000000 in
theorem l91Spoilt_any (R : Nat) (q : Int) (w : World) (hR : Rd w R q) (hq : q ≤ 600000000) :
    Calls Try.prog 96 #[.pointer (some ⟨R, 0, none⟩)] w (SpDrawn R q w) := by
  have hRl := hR.lt
  go_enter Try.func96, Try.ntmps96
  go_wp2_with fail
  refine (l91Store_any R q w hR (by omega)).mono ?_
  rintro e w1 ⟨v, os, rfl, h1, hl, hv, R1, T1⟩
  have hwf := h1
  obtain ⟨ys, hrow, hos⟩ := hwf
  rcases hrow.2 with ⟨rfl, h0⟩ | ⟨g, cap, cur, rfl, hgB, hgh, hgn, _⟩
  · go_wp2
    go_ret
    exact ⟨_, os, rfl, h1, by omega, hv, R1.more (by omega), T1⟩
  · by_cases h0 : os.length = 0
    · obtain rfl := List.length_eq_zero_iff.1 h0
      clear h0
      go_wp2
      go_ret
      exact ⟨_, [], rfl, h1, by omega, hv, R1.more (by omega), T1⟩
    · have e0 : (((os.length : Nat) : Int) == 0) = false := by rw [beq_eq_false_iff_ne]; omega
      go_wp2_with fail
      refine (pick_any R (q + 50000) 20 w1 R1 (by omega) (by omega) (by omega)).mono ?_
      rintro e w2 ⟨x, rfl, x0, x1, R2, T2⟩
      have T3 := T1.trans T2
      have h2 := h1.but T2 hRl
      clear h1 hrow hos
      by_cases hx : 0 < x
      · go_wp2
        go_ret
        exact ⟨_, os, rfl, h2, by omega, hv, R2.more (by omega), T3⟩
      · go_wp2_with fail
        refine (pick_any R (q + 50000 + 1) os.length w2 R2 (by omega) (by omega) (by omega)).mono ?_
        rintro e w3 ⟨y, rfl, y0, y1, R3, T4⟩
        obtain ⟨j, rfl⟩ : ∃ j : Nat, y = (j : Int) := ⟨y.toNat, by omega⟩
        have hj : j < os.length := by omega
        have T5 := T3.trans T4
        have h3 := h2.but T4 hRl
        clear h2
        obtain ⟨zs3, hrow3, hos3⟩ := h3
        obtain ⟨A', c', q0, q1, q2, q3⟩ := hos3 j hj
        have hvj := hv _ (List.getElem_mem hj)
        have hmem : os[j] ∈ os := List.getElem_mem hj
        generalize os[j] = o at *
        have hz3 := hrow3.1
        have g0 : w3.cell? ⟨g, j * 3, none⟩ = some (.int .i64 o.kd) := (World.ownsRow.cellAt hrow3 _ (by omega)).trans q0
        have g1 : w3.cell? ⟨g, j * 3 + 1, none⟩ = some (.slice A' o.zs.length c') := (World.ownsRow.cellAt hrow3 _ (by omega)).trans q1
        have g2 : w3.cell? ⟨g, j * 3 + 2, none⟩ = some (.string o.s) := (World.ownsRow.cellAt hrow3 _ (by omega)).trans q2
        obtain ⟨i0, hi, hz0, hz1, hz2⟩ := info_of info_ob
        have zT := T5.size
        go_wp2_with (at_builtin; go_must (refine wpList_append_own _ rfl _ _ 23 rfl w.heap.size 38 i0 (.agg #[.int .i64 0, .slice none 0 0, .string ⟨#[]⟩]) 3 48 Try.underlying23 hi hz0 hz1 hz2 rfl (by decide) _ os.length zs3 rfl (World.ownsRow.alloc hrow3 _) ⟨w3.heap.size, 0, none⟩ 1 1 [.int .i64 o.kd, .slice A' o.zs.length c', .string o.s] rfl rfl (new_three _ _ _ _ _) (obj_cells o A' c') (by unfold maxLen; omega) (by omega) (by simp; omega) ?_); intro v' w5 hown hg _)
        replace hg : (w3.alloc (.cells #[.int .i64 o.kd, .slice A' o.zs.length c', .string o.s] 38)).grownBy w5 (Value.slice (some ⟨g, 0, none⟩) os.length cap).ownBlock := hg
        have hv5 : OwnObs w5 w.heap.size v' (os ++ [o]) := OwnObs.app hos3 hz3 q3 hrow3 hown hg
        have al := (Below.refl w3.heap.size w3).alloc (Nat.le_refl _) (.cells #[.int .i64 o.kd, .slice A' o.zs.length c', .string o.s] 38)
        have lt3 := World.ownsRow.lt hrow3
        have T7 : But R w w5 := World.grownBy.andThen (T5.trans (.of_below al)) hg (fun k hk => .inl (lt3 k hk).1)
        have R7 : Rd w5 R (q + 50000 + 1 + 1) := R3.below (((Below.refl w.heap.size w3).alloc zT (.cells #[.int .i64 o.kd, .slice A' o.zs.length c', .string o.s] 38)).grown hg (by simp; omega) (fun k hk => (lt3 k hk).1)) hRl
        clear hown hg hos3 hrow3 al
        go_wp2
        go_ret
        refine ⟨_, os ++ [o], rfl, hv5, by simp; omega, fun p hp => ?_, R7.more (by omega), T7⟩
        rcases List.mem_append.1 hp with hp | hp
        · exact hv p hp
        · rw [List.mem_singleton.1 hp]; exact hvj
end Go.Proofs.Ytblknnifccmpkaa
namespace Go.Proofs.Ytblknnifccmpkaa
open Go.RowKit Wo Pu

/-- A list of valid objects of the call's own. -/
def StMade (w : World) (e : Ending) (w' : World) : Prop :=
  ∃ v os, e = .returned v ∧ OwnObs w' w.heap.size v os ∧ os.length ≤ 22 ∧ (∀ p ∈ os, vOb p = true) ∧ Below w.heap.size w w'
/-- The same, and a number. -/
def SgMade (w : World) (e : Ending) (w' : World) : Prop :=
  ∃ v os x, e = .returned (.tuple #[v, .int .i64 x]) ∧ OwnObs w' w.heap.size v os ∧ os.length ≤ 22 ∧ (∀ p ∈ os, vOb p = true) ∧ -1 ≤ x ∧ x ≤ 999 ∧ Below w.heap.size w w'

end Go.Proofs.Ytblknnifccmpkaa
