/-
  Walks: slices.Clone of objects and slices.Insert of one object into a row of the call's own, told by their cells.
-/
import Derived.Test.YtblknnifccmpkaaInsert
import Derived.Lib.Overlaps
namespace Go.Proofs.Ytblknnifccmpkaa
open Go.RowKit Go.Lib Wo Pu

theorem shape_cells {w : World} {g : Nat} {cur : Array Value} {t : TypeId} (h : w.heap[g]? = some (.cells cur t (0, 0))) : w.shape? g = some (t, cur.size) := by
  unfold World.shape?
  rw [h]
theorem frozen_cells {w : World} {g : Nat} {cur : Array Value} {t : TypeId} (h : w.heap[g]? = some (.cells cur t (0, 0))) (k : Nat) : w.frozen? ⟨g, k, none⟩ = false := by
  unfold World.frozen?
  rw [h]
  simp
/-- Behind it: the row, one object longer. -/
def RowIn (B n : Nat) (zs : List Value) (w : World) (e : Ending) (w' : World) : Prop := ∃ v, e = .returned v ∧ w'.ownsRow B 38 3 v (n + 1) zs ∧ Below B w w'
set_option maxHeartbeats 1000000 in
set_option maxRecDepth 100000 in
theorem insertRow_any (B b r n : Nat) (v v0 v1 v2 : Value) (ys zs : List Value) (hzs : Hid (zs = ys.take (r * 3) ++ [v0, v1, v2] ++ ys.drop (r * 3))) (w : World) (hrow : w.ownsRow B 38 3 v n ys) (hb : Blk w b 38 v0 v1 v2)
    (hy1 : ∀ u ∈ ys, u.oneCell' = true) (ht1 : ∀ u ∈ [v0, v1, v2], u.oneCell' = true) (hr : r ≤ n) (hn : n ≤ 1000) (hB : B ≤ w.heap.size) (hbo : v.ownBlock ≠ some b) :
    Calls Try.prog 111 #[v, .int .i64 r, .slice (some ⟨b, 0, none⟩) 1 1] w (RowIn B n zs w) := by
  obtain ⟨i0, hi, hz0, hz1, hz2⟩ := info_of info_ob
  have hyl : ys.length = n * 3 := hrow.1
  have HY1 := hid hy1
  by_cases hrn : r = n
  · subst hrn
    have HT : Hid (zs = ys ++ [v0, v1, v2]) := by
      show _ = _
      rw [hzs.out, List.take_of_length_le (by omega), List.drop_of_length_le (by omega), List.append_nil]
    rcases hrow.2 with ⟨rfl, h0⟩ | ⟨g, cap, cur, rfl, _, _, hrc, hcm, _⟩
    · subst h0
      go_enter Try.func111, Try.ntmps111
      go_wp2_with (at_builtin; go_must (refine wpList_append_own _ rfl _ _ 23 rfl B 38 i0 (.agg #[.int .i64 0, .slice none 0 0, .string ⟨#[]⟩]) 3 48 Try.underlying23 hi hz0 hz1 hz2 rfl (by decide) _ 0 ys rfl hrow ⟨b, 0, none⟩ 1 1 [v0, v1, v2] rfl rfl (row_news hb.row3) ht1 (by unfold maxLen; omega) (by omega) hB ?_); intro v' w5 hown hg _)
      have lt1 := World.ownsRow.lt hrow
      have b5 : Below B w w5 := (Below.refl B w).grown hg hB (fun j hj => (lt1 j hj).1)
      have hf5 : ∃ (A : Option Addr) (c : Nat), v' = .slice A (0 + 1) c := by
        rcases hown.2 with ⟨_, h0⟩ | ⟨g, cap, cur, rfl, _⟩
        · omega
        · exact ⟨_, _, rfl⟩
      obtain ⟨A5, c5, rfl⟩ := hf5
      clear hg lt1 hrow
      go_wp2
      go_ret
      exact ⟨_, rfl, by rw [HT.out]; exact hown, b5⟩
    · unfold maxLen at hcm
      by_cases hcr : cap = r
      · skip
        go_enter Try.func111, Try.ntmps111
        go_wp2_with (at_builtin; go_must (refine wpList_append_own _ rfl _ _ 23 rfl B 38 i0 (.agg #[.int .i64 0, .slice none 0 0, .string ⟨#[]⟩]) 3 48 Try.underlying23 hi hz0 hz1 hz2 rfl (by decide) _ r ys rfl hrow ⟨b, 0, none⟩ 1 1 [v0, v1, v2] rfl rfl (row_news hb.row3) ht1 (by unfold maxLen; omega) (by omega) hB ?_); intro v' w5 hown hg _)
        have lt1 := World.ownsRow.lt hrow
        have b5 : Below B w w5 := (Below.refl B w).grown hg hB (fun j hj => (lt1 j hj).1)
        have hf5 : ∃ (A : Option Addr) (c : Nat), v' = .slice A (r + 1) c := by
          rcases hown.2 with ⟨_, h0⟩ | ⟨g, cap, cur, rfl, _⟩
          · omega
          · exact ⟨_, _, rfl⟩
        obtain ⟨A5, c5, rfl⟩ := hf5
        clear hg lt1 hrow
        go_wp2
        go_ret
        exact ⟨_, rfl, by rw [HT.out]; exact hown, b5⟩
      · skip
        go_enter Try.func111, Try.ntmps111
        go_wp2_with (at_builtin; go_must (refine wpList_append_own _ rfl _ _ 23 rfl B 38 i0 (.agg #[.int .i64 0, .slice none 0 0, .string ⟨#[]⟩]) 3 48 Try.underlying23 hi hz0 hz1 hz2 rfl (by decide) _ r ys rfl hrow ⟨b, 0, none⟩ 1 1 [v0, v1, v2] rfl rfl (row_news hb.row3) ht1 (by unfold maxLen; omega) (by omega) hB ?_); intro v' w5 hown hg _)
        have lt1 := World.ownsRow.lt hrow
        have b5 : Below B w w5 := (Below.refl B w).grown hg hB (fun j hj => (lt1 j hj).1)
        have hf5 : ∃ (A : Option Addr) (c : Nat), v' = .slice A (r + 1) c := by
          rcases hown.2 with ⟨_, h0⟩ | ⟨g, cap, cur, rfl, _⟩
          · omega
          · exact ⟨_, _, rfl⟩
        obtain ⟨A5, c5, rfl⟩ := hf5
        clear hg lt1 hrow
        go_wp2
        go_ret
        exact ⟨_, rfl, by rw [HT.out]; exact hown, b5⟩
  · have hlt : r < n := by omega
    obtain ⟨g, cap, cur, rfl, hgB, hgc, hncap, hcapm, hcs, hct⟩ : ∃ g cap cur, v = .slice (some ⟨g, 0, none⟩) n cap ∧ B ≤ g ∧ w.heap[g]? = some (.cells cur 38 (0, 0)) ∧ n ≤ cap ∧ cap ≤ maxLen ∧ cur.size = cap * 3 ∧ cur.toList.take (n * 3) = ys := by
      rcases hrow.2 with ⟨_, h0⟩ | h
      · omega
      · exact h
    have hgb : b ≠ g := fun e => hbo (by rw [e]; rfl)
    obtain ⟨T3, hT3⟩ : ∃ T3 : List Value, Hid (T3 = [v0, v1, v2]) := ⟨_, rfl⟩
    have hT3l : T3.length = 3 := by rw [hT3.out]; rfl
    have hol : (ys.take (r * 3)).length = r * 3 := by rw [List.length_take]; omega
    have hdl : (ys.drop (r * 3)).length = (n - r) * 3 := by rw [List.length_drop]; omega
    have hcell : ∀ j v, ys[j]? = some v → w.cell? ((⟨g, 0, none⟩ : Addr).add j) = some v := World.ownsRow.cells hrow (g := g) rfl
    have hgl : g < w.heap.size := (World.ownsRow.lt hrow g rfl).2
    have hbl : b < w.heap.size := hb.lt
    have hobj : (Try.prog.info? 38).map (·.size) = some 3 := by rw [hi]; simp [hz1]
    have hmx : cap ≤ 9223372036854775807 := by unfold maxLen at hcapm; omega
    by_cases hroom : n + 1 ≤ cap
    · -- there is room
      obtain ⟨R1, hR1⟩ : ∃ R1 : Array Value, Hid (R1 = (cur.toList.take ((r + 1) * 3) ++ ys.drop (r * 3) ++ cur.toList.drop ((r + 1) * 3 + (ys.drop (r * 3)).length)).toArray) := ⟨_, rfl⟩
      obtain ⟨R2, hR2⟩ : ∃ R2 : Array Value, Hid (R2 = (R1.toList.take (r * 3) ++ T3 ++ R1.toList.drop (r * 3 + T3.length)).toArray) := ⟨_, rfl⟩
      have hR1s : R1.size = cap * 3 := by
        rw [hR1.out]
        simp only [List.size_toArray, List.length_append, List.length_take, List.length_drop, Array.length_toList, hcs, hdl]
        omega
      have hR2s : R2.size = cap * 3 := by
        rw [hR2.out]
        simp only [List.size_toArray, List.length_append, List.length_take, List.length_drop, Array.length_toList, hR1s, hT3l]
        omega
      have hR2t : R2.toList.take ((n + 1) * 3) = ys.take (r * 3) ++ T3 ++ ys.drop (r * 3) := by
        have e1 : R1.toList.take (r * 3) = ys.take (r * 3) := by
          rw [hR1.out]
          show (cur.toList.take ((r + 1) * 3) ++ ys.drop (r * 3) ++ cur.toList.drop ((r + 1) * 3 + (ys.drop (r * 3)).length)).take (r * 3) = _
          have hl1 : (cur.toList.take ((r + 1) * 3)).length = (r + 1) * 3 := by rw [List.length_take, Array.length_toList, hcs]; omega
          rw [List.append_assoc, List.take_append_of_le_length (by omega), List.take_take, ← hct, List.take_take]
          congr 1
          omega
        have e2 : R1.toList.drop (r * 3 + T3.length) = ys.drop (r * 3) ++ cur.toList.drop ((r + 1) * 3 + (ys.drop (r * 3)).length) := by
          have hl1 : (cur.toList.take ((r + 1) * 3)).length = (r + 1) * 3 := by rw [List.length_take, Array.length_toList, hcs]; omega
          rw [hR1.out]
          show (cur.toList.take ((r + 1) * 3) ++ ys.drop (r * 3) ++ cur.toList.drop ((r + 1) * 3 + (ys.drop (r * 3)).length)).drop (r * 3 + T3.length) = _
          rw [List.append_assoc, List.drop_left' (by rw [hl1, hT3l]; omega)]
        rw [hR2.out]
        show (R1.toList.take (r * 3) ++ T3 ++ R1.toList.drop (r * 3 + T3.length)).take ((n + 1) * 3) = _
        rw [e1, e2, ← List.append_assoc, List.take_left' (by rw [List.length_append, List.length_append, hol, hT3l, hdl]; omega)]
      have hcA : Hid (∀ ty dc sc, (Builtin.copy_ #[23, 23] ty #[.slice (some ⟨g, (r + 1) * 3, none⟩) (n - r) dc, .slice (some ⟨g, r * 3, none⟩) (n + 1 - r) sc]).run Try.prog w.drew = .ok (goInt (Nat.min (n + 1 - r) (n - r))) (w.drew.setRow g R1)) := fun ty dc sc => by
        rw [hR1.out]
        refine run_copy_row3 w.drew _ _ ty 38 g ((r + 1) * 3) (n - r) dc ⟨g, r * 3, none⟩ (n + 1 - r) sc cur 38 (ys.drop (r * 3)) Try.underlying23 hobj hgc ?_ ?_ (by rw [hdl, hcs]; omega) (fun v hv => HY1.out v (List.mem_of_mem_drop hv))
        · rw [hdl, show Nat.min (n + 1 - r) (n - r) = n - r from Nat.min_eq_right (by omega)]
        · intro j v hj
          rw [List.getElem?_drop] at hj
          have hc := hcell _ v hj
          rw [add_lit] at hc
          rw [add_off]
          exact hc
      obtain ⟨W1, hW1⟩ : ∃ W1, W1 = w.drew.setRow g R1 := ⟨_, rfl⟩
      have hg1 : W1.heap[g]? = some (.cells R1 38 (0, 0)) := by rw [hW1]; exact set_row_heap w.drew g hgc R1
      have hcB : Hid (∀ (W : World), W.heap = W1.heap → ∀ ty dc, (Builtin.copy_ #[23, 23] ty #[.slice (some ⟨g, r * 3, none⟩) (n + 1 - r) dc, .slice (some ⟨b, 0, none⟩) 1 1]).run Try.prog W = .ok (goInt (Nat.min 1 (n + 1 - r))) (W.setRow g R2)) := fun W hW ty dc => by
        rw [hR2.out]
        refine run_copy_row3 W _ _ ty 38 g (r * 3) (n + 1 - r) dc ⟨b, 0, none⟩ 1 1 R1 38 T3 Try.underlying23 hobj (by rw [hW]; exact hg1) ?_ ?_ (by rw [hT3l, hR1s]; omega) (by rw [hT3.out]; exact ht1)
        · rw [hT3l, show Nat.min 1 (n + 1 - r) = 1 from Nat.min_eq_left (by omega)]
        · intro j v hj
          rw [hT3.out] at hj
          have hc := row_news hb.row3 j v hj
          rw [← hc]
          refine World.cell?_of_block ?_
          rw [add_block, hW, hW1]
          show ((w.drew.setRow g R1).heap)[b]? = w.heap[b]?
          rw [row_far _ _ _ hgb]
          rfl
      have hov : ∀ lb cb, (callFunc 124 #[.slice (some ⟨b, 0, none⟩) 1 1, .slice (some ⟨g, (r + 1) * 3, none⟩) lb cb]).run Try.prog w = .ok (.value (.bool false)) w := fun lb cb => by
        rw [run_callFunc_extern Try.func124 (by kernel_rfl) (by kernel_rfl) (by kernel_rfl) (e := Extern.SlicesOverlaps.overlaps #[23, 23] #[4]) (by kernel_rfl),
          Lib.run_overlaps_apart w 23 4 38 Try.underlying23 3 (fun w => by simp [sizeOf, typeInfo, hi, hz1]) ⟨b, 0, none⟩ ⟨g, (r + 1) * 3, none⟩ 1 1 lb cb hgb 38 38 3 (cap * 3) (shape_cells hb) (by rw [← hcs]; exact shape_cells hgc) (by omega) (frozen_cells hb 0) (frozen_cells hb 3)]
        rfl
      have hw1 : IntKind.i64.wrap ((r : Int) + 1) = (r : Int) + 1 := IntWalk.i64_in _ (by omega)
      have e1 : (((r : Nat) : Int) == ((n : Nat) : Int)) = false := by rw [beq_eq_false_iff_ne]; omega
      have k1 : ¬ ((cap : Int) < (n : Int) + 1) := by omega
      have l0 : 0 ≤ (r : Int) := by omega
      have l1 : 0 ≤ (r : Int) + 1 := by omega
      have l2 : (r : Int) + 1 ≤ (n : Int) + 1 := by omega
      have l3 : ((r : Int) + 1).toNat = r + 1 := by omega
      have l4 : (n : Int) + 1 ≤ (cap : Int) := by omega
      have l5 : ((n : Int) + 1).toNat = n + 1 := by omega
      have l6 : (0 : Int) ≤ (n : Int) + 1 := by omega
      have l7 : (r : Int) ≤ (n : Int) + 1 := by omega
      have l8 : ¬ cap = r + 1 := by omega
      have l9 : ¬ cap = r := by omega
      have l10 : ¬ n = r := by omega
      have hcA1 := hcA.out
      clear hcell hR1 hR2 hyl hol hdl hT3l hcA hct hrow hobj
      go_enter Try.func111, Try.ntmps111
      go_wp2_with (simp only [hov])
      go_region_law (refine step_copy_is rfl _ _ 23 23 rfl _ _ (by simp [Act.eval, Act.put]) (by simp [Act.eval, Act.put]) (hcA1 _ _ _) ?_)
      rw [← hW1]
      have hh : Hid (W1.heap = (w.drew.setRow g R1).heap) := by show _ = _; rw [hW1]
      have hcB1 := hcB.out W1 rfl 3 (cap - r)
      have hos : Hid (W1.os = w.os ∧ W1.tape = w.tape ∧ W1.output = w.output) := by rw [hW1]; exact ⟨rfl, rfl, rfl⟩
      clear hW1
      go_wp2
      go_ret
      have h3 := set_row_heap W1 g hg1 R2
      have bW : Below B w (W1.setRow g R2) := ⟨hos.out.1, hos.out.2.1, hos.out.2.2, by
        show w.heap.size ≤ (W1.heap.modify _ _).size
        rw [Array.size_modify, hh.out]
        show _ ≤ (w.heap.modify _ _).size
        rw [Array.size_modify]
        exact Nat.le_refl _, fun z hz => by
        rw [row_far _ _ _ (by omega), hh.out]
        show ((w.drew.setRow g R1).heap)[z]? = _
        rw [row_far _ _ _ (by omega)]
        rfl⟩
      refine ⟨_, rfl, ?_, bW⟩
      rw [hzs.out]
      refine ⟨?_, .inr ⟨g, cap, R2, rfl, hgB, h3, hroom, hcapm, hR2s, by rw [hR2t, hT3.out]⟩⟩
      rw [← hT3.out, ← hR2t, List.length_take, Array.length_toList, hR2s]
      omega
    · -- there is none
      obtain rfl : n = cap := by omega
      obtain ⟨n, hnn⟩ : ∃ n', n' = n := ⟨_, rfl⟩
      subst hnn
      have hold : (Builtin.firstCells i0.size r (.slice (some ⟨g, 0, none⟩) r n)).run Try.prog w.drew = .ok (ys.take (r * 3)).toArray w.drew := by
        rw [hz1]
        exact run_firstCells_some w.drew 3 r ⟨g, 0, none⟩ r n (ys.take (r * 3)) hol (fun j v hj => by
          rw [List.getElem?_take] at hj
          split at hj
          · exact hcell j v hj
          · cases hj)
      obtain ⟨G, hG⟩ : ∃ G, G = grownCap w (n + 1) n 38 := ⟨_, rfl⟩
      have hG1 : n + 1 ≤ G := by rw [hG]; exact grownCap_ge w _ _ _
      have hG2 : G ≤ maxLen := by rw [hG]; exact grownCap_le_maxLen w (n + 1) n 38 (by unfold maxLen; omega)
      obtain ⟨R1, hR1⟩ : ∃ R1 : Array Value, Hid (R1 = (ys.take (r * 3)).toArray ++ Builtin.zeroCells (Value.agg #[.int .i64 0, .slice none 0 0, .string ⟨#[]⟩]).cells (n + 1 - r) ++ Builtin.zeroCells (Value.agg #[.int .i64 0, .slice none 0 0, .string ⟨#[]⟩]).cells (G - (n + 1))) := ⟨_, rfl⟩
      have hR1s : R1.size = G * 3 := by
        have hz : (Value.agg #[.int .i64 0, .slice none 0 0, .string ⟨#[]⟩]).cells.size = 3 := rfl
        rw [hR1.out]
        simp only [Array.size_append, List.size_toArray, size_zeroCells, hz, hol]
        omega
      have hR1t : R1.toList.take (r * 3) = ys.take (r * 3) := by
        rw [hR1.out]
        simp only [Array.toList_append, List.append_assoc]
        rw [List.take_left' hol]
      have hrz : Hid (∀ ty, (Builtin.append_ #[23, 3] ty #[.slice (some ⟨g, 0, none⟩) r n, .int .i64 ((n : Int) + 1 - (r : Int))]).run Try.prog w = .ok (.slice (some ⟨w.heap.size, 0, none⟩) (n + 1) G) (w.drew.alloc (.cells R1 38))) := fun ty => by
        have h := run_append_grow_zeros w 23 3 ty 38 i0 _ .i64 .i64 Try.underlying23 Try.underlying3 hi hz0 (some ⟨g, 0, none⟩) r n (ys.take (r * 3)) hold (n + 1 - r) (by omega) (by omega) (by omega) (by omega) (by rw [hz2]; omega) (by rw [hz2, show r + (n + 1 - r) = n + 1 from by omega]; exact growslice_fits (by omega) (by omega))
        rw [show r + (n + 1 - r) = n + 1 from by omega, ← hG, ← hR1.out] at h
        rw [show (n : Int) + 1 - (r : Int) = ((n + 1 - r : Nat) : Int) from by omega]
        exact h
      obtain ⟨R2, hR2⟩ : ∃ R2 : Array Value, Hid (R2 = (R1.toList.take (r * 3) ++ T3 ++ R1.toList.drop (r * 3 + T3.length)).toArray) := ⟨_, rfl⟩
      obtain ⟨R3, hR3⟩ : ∃ R3 : Array Value, Hid (R3 = (R2.toList.take ((r + 1) * 3) ++ ys.drop (r * 3) ++ R2.toList.drop ((r + 1) * 3 + (ys.drop (r * 3)).length)).toArray) := ⟨_, rfl⟩
      have hR2s : R2.size = G * 3 := by
        rw [hR2.out]
        simp only [List.size_toArray, List.length_append, List.length_take, List.length_drop, Array.length_toList, hR1s, hT3l]
        omega
      have hR3s : R3.size = G * 3 := by
        rw [hR3.out]
        simp only [List.size_toArray, List.length_append, List.length_take, List.length_drop, Array.length_toList, hR2s, hdl]
        omega
      have hR3t : R3.toList.take ((n + 1) * 3) = ys.take (r * 3) ++ T3 ++ ys.drop (r * 3) := by
        have h2t : R2.toList.take ((r + 1) * 3) = ys.take (r * 3) ++ T3 := by
          rw [hR2.out]
          show (R1.toList.take (r * 3) ++ T3 ++ R1.toList.drop (r * 3 + T3.length)).take ((r + 1) * 3) = _
          rw [hR1t, List.take_left' (by rw [List.length_append, hol, hT3l]; omega)]
        rw [hR3.out]
        show (R2.toList.take ((r + 1) * 3) ++ ys.drop (r * 3) ++ R2.toList.drop ((r + 1) * 3 + (ys.drop (r * 3)).length)).take ((n + 1) * 3) = _
        rw [h2t, List.take_left' (by rw [List.length_append, List.length_append, hol, hT3l, hdl]; omega)]
      have hobj : (Try.prog.info? 38).map (·.size) = some 3 := by rw [hi]; simp [hz1]
      have hcA : Hid (∀ (W : World), W.heap = (w.alloc (.cells R1 38)).heap → ∀ ty dc, (Builtin.copy_ #[23, 23] ty #[.slice (some ⟨w.heap.size, r * 3, none⟩) (n + 1 - r) dc, .slice (some ⟨b, 0, none⟩) 1 1]).run Try.prog W = .ok (goInt (Nat.min 1 (n + 1 - r))) (W.setRow w.heap.size R2)) := fun W hW ty dc => by
        rw [hR2.out]
        refine run_copy_row3 W _ _ ty 38 w.heap.size (r * 3) (n + 1 - r) dc ⟨b, 0, none⟩ 1 1 R1 38 T3 Try.underlying23 hobj (by rw [hW]; exact heap_alloc_new w _) ?_ ?_ (by rw [hT3l, hR1s]; omega) (by rw [hT3.out]; exact ht1)
        · rw [hT3l, show Nat.min 1 (n + 1 - r) = 1 from Nat.min_eq_left (by omega)]
        · intro j v hj
          rw [hT3.out] at hj
          have hc := row_news hb.row3 j v hj
          rw [← hc]
          refine World.cell?_of_block ?_
          rw [add_block, hW, Below.heap_alloc w _ b hbl]
      have hcB : Hid (∀ (W : World), W.heap = ((w.alloc (.cells R1 38)).setRow w.heap.size R2).heap → ∀ ty dc sc, (Builtin.copy_ #[23, 23] ty #[.slice (some ⟨w.heap.size, (r + 1) * 3, none⟩) (n + 1 - (r + 1)) dc, .slice (some ⟨g, r * 3, none⟩) (n - r) sc]).run Try.prog W = .ok (goInt (Nat.min (n - r) (n + 1 - (r + 1)))) (W.setRow w.heap.size R3)) := fun W hW ty dc sc => by
        rw [hR3.out]
        refine run_copy_row3 W _ _ ty 38 w.heap.size ((r + 1) * 3) (n + 1 - (r + 1)) dc ⟨g, r * 3, none⟩ (n - r) sc R2 38 (ys.drop (r * 3)) Try.underlying23 hobj (by rw [hW]; exact set_row_heap _ _ (heap_alloc_new w _) R2) ?_ ?_ (by rw [hdl, hR2s]; omega) ?_
        · rw [hdl, show n + 1 - (r + 1) = n - r from by omega, show Nat.min (n - r) (n - r) = n - r from Nat.min_self _]
        · intro j v hj
          rw [List.getElem?_drop] at hj
          have hc := hcell _ v hj
          rw [add_lit] at hc
          rw [add_off, ← hc]
          refine World.cell?_of_block ?_
          show W.heap[g]? = w.heap[g]?
          rw [hW, row_far _ _ _ (by omega), Below.heap_alloc w _ g hgl]
        · exact fun v hv => HY1.out v (List.mem_of_mem_drop hv)
      clear hcell hold hG hR1 hR1s hR1t hR2 hR2s hR3 hobj hrow hyl hol hdl hT3l
      have hGn : ¬ G = r := by omega
      have hGm : ¬ G = r + 1 := by omega
      have hnr : ¬ n = r := by omega
      unfold maxLen at hG2
      have e1 : (((r : Nat) : Int) == ((n : Nat) : Int)) = false := by rw [beq_eq_false_iff_ne]; omega
      have k1 : (n : Int) < (n : Int) + 1 := by omega
      have k2 : (r : Int) ≤ (n : Int) := by omega
      go_enter Try.func111, Try.ntmps111
      have hcA1 := hcA.out ((w.alloc (.cells R1 38)).drew) rfl 3 (G - r)
      go_wp2_with (at_builtin; refine wpList_append_run _ rfl _ _ _ _ rfl _ _ rfl rfl _ _ (hrz.out _) ?_)
      obtain ⟨W2, hW2⟩ : ∃ W2, W2 = (w.alloc (.cells R1 38)).drew.setRow w.heap.size R2 := ⟨_, rfl⟩
      have hh : Hid (W2.heap = ((w.alloc (.cells R1 38)).setRow w.heap.size R2).heap) := by show _ = _; rw [hW2]; rfl
      have hos2 : Hid (W2.os = w.os ∧ W2.tape = w.tape ∧ W2.output = w.output) := by rw [hW2]; exact ⟨rfl, rfl, rfl⟩
      rw [← hW2]
      clear hW2 hcA1 hrz hcA
      have hcB1 := hcB.out W2.drew hh.out 3 (G - (r + 1)) (n - r)
      have l0 : 0 ≤ (r : Int) := by omega
      have l1 : 0 ≤ (r : Int) + 1 := by omega
      have l2 : (r : Int) + 1 ≤ (n : Int) + 1 := by omega
      have l3 : ((r : Int) + 1).toNat = r + 1 := by omega
      have l4 : IntKind.i64.wrap ((r : Int) + 1) = (r : Int) + 1 := IntWalk.i64_in _ (by omega)
      go_region_law (refine step_copy_is rfl _ _ 23 23 rfl (.slice (some ⟨w.heap.size, (r + 1) * 3, none⟩) (n + 1 - (r + 1)) (G - (r + 1))) (.slice (some ⟨g, r * 3, none⟩) (n - r) (n - r)) (by simp [Act.eval, Act.put]) (by simp [Act.eval, Act.put]) hcB1 ?_)
      clear l4 hcB1
      go_wp2
      go_ret
      have h2 : W2.drew.heap[w.heap.size]? = some (.cells R2 38 (0, 0)) := by
        show W2.heap[w.heap.size]? = _
        rw [hh.out]; exact set_row_heap _ _ (heap_alloc_new w _) R2
      have h3 := set_row_heap W2.drew w.heap.size h2 R3
      have hz3 : (W2.drew.setRow w.heap.size R3).heap.size = w.heap.size + 1 := by
        show (W2.heap.modify _ _).size = _
        rw [Array.size_modify, hh.out]
        show (((w.alloc (.cells R1 38)).heap.modify _ _).size) = _
        rw [Array.size_modify]; simp
      have bW : Below w.heap.size w (W2.drew.setRow w.heap.size R3) := ⟨hos2.out.1, hos2.out.2.1, hos2.out.2.2, by rw [hz3]; omega, fun z hz => by
        rw [row_far _ _ _ (by omega)]
        show W2.heap[z]? = _
        rw [hh.out, row_far _ _ _ (by omega), Below.heap_alloc w _ z hz]⟩
      refine ⟨_, rfl, ?_, bW.mono hB⟩
      rw [hzs.out]
      refine ⟨?_, .inr ⟨w.heap.size, G, R3, rfl, hB, h3, hG1, by unfold maxLen; exact hG2, hR3s, by rw [hR3t, hT3.out]⟩⟩
      rw [← hT3.out, ← hR3t, List.length_take, Array.length_toList, hR3s]
      omega
end Go.Proofs.Ytblknnifccmpkaa
