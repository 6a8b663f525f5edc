/-
  Walk: slices.Insert of one object into a list of the call's own that is full.
-/
import Derived.Test.YtblknnifccmpkaaG5C
import Derived.IntWalk
namespace Go.Proofs.Ytblknnifccmpkaa
open Go.RowKit Go.Lib Wo Pu

/-- One object more; its cells lie in a block of their own. -/
theorem OwnObs.app2 {w w1 : World} {B c : Nat} {A : Option Addr} {v v' : Value} {os : List Ob} {o : Ob} {ys : List Value} (hos : ∀ j (hj : j < os.length), ObIs w B ys j os[j]) (hlen : ys.length = os.length * 3)
    (hlinks : Own w B (.slice A o.zs.length c) o.zs) (hrow : w.ownsRow B 38 3 v os.length ys)
    (hown : w1.ownsRow B 38 3 v' (os.length + 1) (ys ++ [.int .i64 o.kd, .slice A o.zs.length c, .string o.s]))
    (hg : w.grownBy w1 v.ownBlock) : OwnObs w1 B v' (os ++ [o]) := by
  have keep : ∀ {u : Value} {zs : List Int}, Own w B u zs → Own w1 B u zs := fun {u zs} h => by
    refine World.ownsRow.kept h hg ?_
    rcases hu : u.ownBlock with _ | k
    · exact .inl rfl
    · refine .inr (fun e => ?_)
      rcases h.2 with ⟨rfl, _⟩ | ⟨g, _, cur, rfl, _, hh, _⟩
      · cases hu
      · have hk : g = k := by simpa [Value.ownBlock] using hu
        subst hk
        rcases hrow.2 with ⟨rfl, _⟩ | ⟨g2, _, cur2, rfl, _, hh2, _⟩
        · cases e
        · have hk : g = g2 := by simpa [Value.ownBlock] using e
          subst hk
          rw [hh] at hh2
          injection hh2 with h3
          injection h3 with _ h3
          exact absurd h3 (by decide)
  refine ⟨_, by simpa using hown, fun j hj => ?_⟩
  by_cases e : j < os.length
  · obtain ⟨A', c', q0, q1, q2, q3⟩ := hos j e
    rw [List.getElem_append_left e]
    exact ⟨A', c', by rw [List.getElem?_append_left (by omega)]; exact q0, by rw [List.getElem?_append_left (by omega)]; exact q1, by rw [List.getElem?_append_left (by omega)]; exact q2, keep q3⟩
  · have ej : j = os.length := by simp at hj; omega
    subst ej
    have eo : (os ++ [o])[os.length]'(by simp) = o := by simp
    rw [eo]
    refine ⟨A, c, ?_, ?_, ?_, keep hlinks⟩
    · rw [List.getElem?_append_right (by omega), hlen]; simp
    · rw [List.getElem?_append_right (by omega), hlen, show os.length * 3 + 1 - os.length * 3 = 1 from by omega]; rfl
    · rw [List.getElem?_append_right (by omega), hlen, show os.length * 3 + 2 - os.length * 3 = 2 from by omega]; rfl
theorem ObIs.cells_ {w : World} {B : Nat} {os : List Ob} {ys : List Value} (hos : ∀ j (hj : j < os.length), ObIs w B ys j os[j]) (hlen : ys.length = os.length * 3) : ∀ u ∈ ys, u.oneCell' = true := by
  intro u hu
  obtain ⟨i, hi, rfl⟩ := List.mem_iff_getElem.1 hu
  obtain ⟨A, c, q0, q1, q2, _⟩ := hos (i / 3) (by omega)
  have key : i = i / 3 * 3 ∨ i = i / 3 * 3 + 1 ∨ i = i / 3 * 3 + 2 := by omega
  have hg := List.getElem?_eq_getElem hi
  rcases key with e | e | e
  · rw [← e, hg] at q0; injection q0 with q0; rw [q0]; rfl
  · rw [← e, hg] at q1; injection q1 with q1; rw [q1]; rfl
  · rw [← e, hg] at q2; injection q2 with q2; rw [q2]; rfl
/-- One object laid in between. -/
theorem ObIs.laid {w : World} {B r c : Nat} {A : Option Addr} {os : List Ob} {o : Ob} {ys : List Value} (hos : ∀ j (hj : j < os.length), ObIs w B ys j os[j]) (hlen : ys.length = os.length * 3) (hr : r ≤ os.length)
    (hlinks : Own w B (.slice A o.zs.length c) o.zs) : ∀ j (hj : j < (os.take r ++ o :: os.drop r).length), ObIs w B (ys.take (r * 3) ++ [.int .i64 o.kd, .slice A o.zs.length c, .string o.s] ++ ys.drop (r * 3)) j (os.take r ++ o :: os.drop r)[j] := by
  intro j hj
  have hl : (os.take r).length = r := by rw [List.length_take]; omega
  have hyl : (ys.take (r * 3)).length = r * 3 := by rw [List.length_take]; omega
  have hjl : j < os.length + 1 := by simp at hj; omega
  by_cases e : j < r
  · obtain ⟨A', c', q0, q1, q2, q3⟩ := hos j (by omega)
    rw [List.getElem_append_left (by omega), List.getElem_take]
    have t : ∀ d, d < 3 → (ys.take (r * 3) ++ [.int .i64 o.kd, .slice A o.zs.length c, .string o.s] ++ ys.drop (r * 3))[j * 3 + d]? = ys[j * 3 + d]? := fun d hd => by
      rw [List.append_assoc, List.getElem?_append_left (by omega), List.getElem?_take, if_pos (by omega)]
    exact ⟨A', c', by rw [show j * 3 = j * 3 + 0 from rfl, t 0 (by omega)]; exact q0, by rw [t 1 (by omega)]; exact q1, by rw [t 2 (by omega)]; exact q2, q3⟩
  · by_cases e2 : j = r
    · subst e2
      have eo : (os.take j ++ o :: os.drop j)[j]'hj = o := by rw [List.getElem_append_right (by omega)]; simp [hl]
      rw [eo]
      have t : ∀ d, d < 3 → (ys.take (j * 3) ++ [.int .i64 o.kd, .slice A o.zs.length c, .string o.s] ++ ys.drop (j * 3))[j * 3 + d]? = [.int .i64 o.kd, .slice A o.zs.length c, .string o.s][d]? := fun d hd => by
        rw [List.append_assoc, List.getElem?_append_right (by omega), hyl, show j * 3 + d - j * 3 = d from by omega, List.getElem?_append_left (by show d < 3; exact hd)]
      exact ⟨A, c, by have t0 := t 0 (by omega); rw [Nat.add_zero] at t0; rw [t0]; rfl, by rw [t 1 (by omega)]; rfl, by rw [t 2 (by omega)]; rfl, hlinks⟩
    · obtain ⟨A', c', q0, q1, q2, q3⟩ := hos (j - 1) (by omega)
      have eo : (os.take r ++ o :: os.drop r)[j]'hj = os[j - 1]'(by omega) := by
        rw [List.getElem_append_right (by omega)]
        have : (o :: os.drop r)[j - (os.take r).length]'(by simp; omega) = (os.drop r)[j - r - 1]'(by simp; omega) := by
          simp only [hl]
          obtain ⟨q, hq⟩ : ∃ q, j - r = q + 1 := ⟨j - r - 1, by omega⟩
          simp only [hq, List.getElem_cons_succ, Nat.add_sub_cancel]
        rw [this, List.getElem_drop]
        congr 1
        omega
      rw [eo]
      have t : ∀ d, d < 3 → (ys.take (r * 3) ++ [.int .i64 o.kd, .slice A o.zs.length c, .string o.s] ++ ys.drop (r * 3))[j * 3 + d]? = ys[(j - 1) * 3 + d]? := fun d hd => by
        rw [List.getElem?_append_right (by simp only [List.length_append, hyl, List.length_cons, List.length_nil]; omega), List.getElem?_drop]
        congr 1
        simp only [List.length_append, hyl, List.length_cons, List.length_nil]
        omega
      exact ⟨A', c', by rw [show j * 3 = j * 3 + 0 from rfl, t 0 (by omega)]; exact q0, by rw [t 1 (by omega)]; exact q1, by rw [t 2 (by omega)]; exact q2, q3⟩

theorem add_off (g n j : Nat) : (⟨g, n, none⟩ : Addr).add j = ⟨g, n + j, none⟩ := by
  unfold Addr.add
  split
  · rename_i h; subst h; rfl
  · rfl
theorem row_far (w : World) (g z : Nat) (h : z ≠ g) {cs : Array Value} : (w.setRow g cs).heap[z]? = w.heap[z]? := by
  unfold World.setRow
  simp [Array.getElem?_modify, Ne.symm h]
/-- Behind it: the longer list. -/
def Longer (B : Nat) (os : List Ob) (w : World) (e : Ending) (w' : World) : Prop := ∃ v, e = .returned v ∧ OwnObs w' B v os ∧ Below B w w'

theorem set_row_heap (w : World) (g : Nat) {cur : Array Value} {t : TypeId} (h : w.heap[g]? = some (.cells cur t (0, 0))) (cs : Array Value) : (w.setRow g cs).heap[g]? = some (.cells cs t (0, 0)) := setRow_heap w g cur cs t (0, 0) h

set_option maxHeartbeats 400000 in
theorem insert_any (B g b r c' : Nat) (A' : Option Addr) (os : List Ob) (o : Ob) (w : World) (hv : OwnObs w B (.slice (some ⟨g, 0, none⟩) os.length os.length) os)
    (hb : Blk w b 38 (.int .i64 o.kd) (.slice A' o.zs.length c') (.string o.s)) (hl : Own w B (.slice A' o.zs.length c') o.zs) (hr : r ≤ os.length) (hn : os.length ≤ 1000) (hB : B ≤ w.heap.size) :
    Calls Try.prog 111 #[.slice (some ⟨g, 0, none⟩) os.length os.length, .int .i64 r, .slice (some ⟨b, 0, none⟩) 1 1] w (Longer B (os.take r ++ o :: os.drop r) w) := by
  obtain ⟨i0, hi, hz0, hz1, hz2⟩ := info_of info_ob
  obtain ⟨ys, hrow, hos⟩ := hv
  have hyl : ys.length = os.length * 3 := hrow.1
  have HOS := hid hos
  have HY1 := hid (ObIs.cells_ hos hyl)
  clear hos
  by_cases hrn : r = os.length
  · subst hrn
    have HT : Hid (os ++ [o] = os.take os.length ++ o :: os.drop os.length) := by show _ = _; rw [List.take_length, List.drop_length]
    go_enter Try.func111, Try.ntmps111
    go_wp2_with (at_builtin; go_must (refine wpList_append_own _ rfl _ _ 23 rfl B 38 i0 (.agg #[.int .i64 0, .slice none 0 0, .string ⟨#[]⟩]) 3 48 Try.underlying23 hi hz0 hz1 hz2 rfl (by decide) _ os.length ys rfl hrow ⟨b, 0, none⟩ 1 1 [.int .i64 o.kd, .slice A' o.zs.length c', .string o.s] rfl rfl (row_news hb.row3) (obj_cells o A' c') (by unfold maxLen; omega) (by omega) hB ?_); intro v' w5 hown hg _)
    have h5 := OwnObs.app2 HOS.out hyl hl hrow hown hg
    have lt1 := World.ownsRow.lt hrow
    have b5 : Below B w w5 := (Below.refl B w).grown hg hB (fun j hj => (lt1 j hj).1)
    rw [HT.out] at h5
    clear hown hg lt1 hrow
    obtain ⟨A5, c5, rfl, _⟩ := h5.form
    go_wp2
    go_ret
    exact ⟨_, rfl, h5, b5⟩
  · have hlt : r < os.length := by omega
    obtain ⟨n, hnn⟩ : ∃ n, n = os.length := ⟨_, rfl⟩
    have HNN := hid hnn
    rw [← hnn] at hrow hyl hlt hn hrn ⊢
    clear hr hnn
    obtain ⟨T3, hT3⟩ : ∃ T3 : List Value, Hid (T3 = [.int .i64 o.kd, .slice A' o.zs.length c', .string o.s]) := ⟨_, rfl⟩
    have hT3l : T3.length = 3 := by rw [hT3.out]; rfl
    have hol : (ys.take (r * 3)).length = r * 3 := by rw [List.length_take]; omega
    have hdl : (ys.drop (r * 3)).length = (n - r) * 3 := by rw [List.length_drop]; omega
    have hcell : ∀ j v, ys[j]? = some v → w.cell? ((⟨g, 0, none⟩ : Addr).add j) = some v := World.ownsRow.cells hrow (g := g) rfl
    have hgl : g < w.heap.size := (World.ownsRow.lt hrow g rfl).2
    have hbl : b < w.heap.size := hb.lt
    have hold : (Builtin.firstCells i0.size r (.slice (some ⟨g, 0, none⟩) r n)).run Try.prog w.drew = .ok (ys.take (r * 3)).toArray w.drew := by
      rw [hz1]
      exact run_firstCells_some w.drew 3 r ⟨g, 0, none⟩ r n (ys.take (r * 3)) hol (fun j v hj => by
        rw [List.getElem?_take] at hj
        split at hj
        · exact hcell j v hj
        · cases hj)
    obtain ⟨G, hG⟩ : ∃ G, G = grownCap w (n + 1) n 38 := ⟨_, rfl⟩
    have hG1 : n + 1 ≤ G := by rw [hG]; exact grownCap_ge w _ _ _
    have hG2 : G ≤ maxLen := by rw [hG]; exact grownCap_le_maxLen w (n + 1) n 38 (by unfold maxLen; omega)
    obtain ⟨R1, hR1⟩ : ∃ R1 : Array Value, Hid (R1 = (ys.take (r * 3)).toArray ++ Builtin.zeroCells (Value.agg #[.int .i64 0, .slice none 0 0, .string ⟨#[]⟩]).cells (n + 1 - r) ++ Builtin.zeroCells (Value.agg #[.int .i64 0, .slice none 0 0, .string ⟨#[]⟩]).cells (G - (n + 1))) := ⟨_, rfl⟩
    have hR1s : R1.size = G * 3 := by
      have hz : (Value.agg #[.int .i64 0, .slice none 0 0, .string ⟨#[]⟩]).cells.size = 3 := rfl
      rw [hR1.out]
      simp only [Array.size_append, List.size_toArray, size_zeroCells, hz, hol]
      omega
    have hR1t : R1.toList.take (r * 3) = ys.take (r * 3) := by
      rw [hR1.out]
      simp only [Array.toList_append, List.append_assoc]
      rw [List.take_left' hol]
    have hrz : Hid (∀ ty, (Builtin.append_ #[23, 3] ty #[.slice (some ⟨g, 0, none⟩) r n, .int .i64 ((n : Int) + 1 - (r : Int))]).run Try.prog w = .ok (.slice (some ⟨w.heap.size, 0, none⟩) (n + 1) G) (w.drew.alloc (.cells R1 38))) := fun ty => by
      have h := run_append_grow_zeros w 23 3 ty 38 i0 _ .i64 .i64 Try.underlying23 Try.underlying3 hi hz0 (some ⟨g, 0, none⟩) r n (ys.take (r * 3)) hold (n + 1 - r) (by omega) (by omega) (by omega) (by omega) (by rw [hz2]; omega) (by rw [hz2, show r + (n + 1 - r) = n + 1 from by omega]; exact growslice_fits (by omega) (by omega))
      rw [show r + (n + 1 - r) = n + 1 from by omega, ← hG, ← hR1.out] at h
      rw [show (n : Int) + 1 - (r : Int) = ((n + 1 - r : Nat) : Int) from by omega]
      exact h
    obtain ⟨R2, hR2⟩ : ∃ R2 : Array Value, Hid (R2 = (R1.toList.take (r * 3) ++ T3 ++ R1.toList.drop (r * 3 + T3.length)).toArray) := ⟨_, rfl⟩
    obtain ⟨R3, hR3⟩ : ∃ R3 : Array Value, Hid (R3 = (R2.toList.take ((r + 1) * 3) ++ ys.drop (r * 3) ++ R2.toList.drop ((r + 1) * 3 + (ys.drop (r * 3)).length)).toArray) := ⟨_, rfl⟩
    have hR2s : R2.size = G * 3 := by
      rw [hR2.out]
      simp only [List.size_toArray, List.length_append, List.length_take, List.length_drop, Array.length_toList, hR1s, hT3l]
      omega
    have hR3s : R3.size = G * 3 := by
      rw [hR3.out]
      simp only [List.size_toArray, List.length_append, List.length_take, List.length_drop, Array.length_toList, hR2s, hdl]
      omega
    have hR3t : R3.toList.take ((n + 1) * 3) = ys.take (r * 3) ++ T3 ++ ys.drop (r * 3) := by
      have h2t : R2.toList.take ((r + 1) * 3) = ys.take (r * 3) ++ T3 := by
        rw [hR2.out]
        show (R1.toList.take (r * 3) ++ T3 ++ R1.toList.drop (r * 3 + T3.length)).take ((r + 1) * 3) = _
        rw [hR1t, List.take_left' (by rw [List.length_append, hol, hT3l]; omega)]
      rw [hR3.out]
      show (R2.toList.take ((r + 1) * 3) ++ ys.drop (r * 3) ++ R2.toList.drop ((r + 1) * 3 + (ys.drop (r * 3)).length)).take ((n + 1) * 3) = _
      rw [h2t, List.take_left' (by rw [List.length_append, List.length_append, hol, hT3l, hdl]; omega)]
    have hobj : (Try.prog.info? 38).map (·.size) = some 3 := by rw [hi]; simp [hz1]
    have hcA : Hid (∀ (W : World), W.heap = (w.alloc (.cells R1 38)).heap → ∀ ty dc, (Builtin.copy_ #[23, 23] ty #[.slice (some ⟨w.heap.size, r * 3, none⟩) (n + 1 - r) dc, .slice (some ⟨b, 0, none⟩) 1 1]).run Try.prog W = .ok (goInt (Nat.min 1 (n + 1 - r))) (W.setRow w.heap.size R2)) := fun W hW ty dc => by
      rw [hR2.out]
      refine run_copy_row3 W _ _ ty 38 w.heap.size (r * 3) (n + 1 - r) dc ⟨b, 0, none⟩ 1 1 R1 38 T3 Try.underlying23 hobj (by rw [hW]; exact heap_alloc_new w _) ?_ ?_ (by rw [hT3l, hR1s]; omega) (by rw [hT3.out]; exact obj_cells o A' c')
      · rw [hT3l, show Nat.min 1 (n + 1 - r) = 1 from Nat.min_eq_left (by omega)]
      · intro j v hj
        rw [hT3.out] at hj
        have hc := row_news hb.row3 j v hj
        rw [← hc]
        refine World.cell?_of_block ?_
        rw [add_block, hW, Below.heap_alloc w _ b hbl]
    have hcB : Hid (∀ (W : World), W.heap = ((w.alloc (.cells R1 38)).setRow w.heap.size R2).heap → ∀ ty dc sc, (Builtin.copy_ #[23, 23] ty #[.slice (some ⟨w.heap.size, (r + 1) * 3, none⟩) (n + 1 - (r + 1)) dc, .slice (some ⟨g, r * 3, none⟩) (n - r) sc]).run Try.prog W = .ok (goInt (Nat.min (n - r) (n + 1 - (r + 1)))) (W.setRow w.heap.size R3)) := fun W hW ty dc sc => by
      rw [hR3.out]
      refine run_copy_row3 W _ _ ty 38 w.heap.size ((r + 1) * 3) (n + 1 - (r + 1)) dc ⟨g, r * 3, none⟩ (n - r) sc R2 38 (ys.drop (r * 3)) Try.underlying23 hobj (by rw [hW]; exact set_row_heap _ _ (heap_alloc_new w _) R2) ?_ ?_ (by rw [hdl, hR2s]; omega) ?_
      · rw [hdl, show n + 1 - (r + 1) = n - r from by omega, show Nat.min (n - r) (n - r) = n - r from Nat.min_self _]
      · intro j v hj
        rw [List.getElem?_drop] at hj
        have hc := hcell _ v hj
        rw [add_lit] at hc
        rw [add_off, ← hc]
        refine World.cell?_of_block ?_
        show W.heap[g]? = w.heap[g]?
        rw [hW, row_far _ _ _ (by omega), Below.heap_alloc w _ g hgl]
      · exact fun v hv => HY1.out v (List.mem_of_mem_drop hv)
    have HA := hid (ObIs.laid (r := r) HOS.out (by rw [hyl, HNN.out]) (by have := HNN.out; omega) hl)
    clear hcell hold hG hR1 hR1s hR1t hR2 hR2s hR3 hobj hrow hyl hol hdl hT3l
    have hGn : ¬ G = r := by omega
    have hGm : ¬ G = r + 1 := by omega
    have hnr : ¬ n = r := by omega
    unfold maxLen at hG2
    have e1 : (((r : Nat) : Int) == ((n : Nat) : Int)) = false := by rw [beq_eq_false_iff_ne]; omega
    have k1 : (n : Int) < (n : Int) + 1 := by omega
    have k2 : (r : Int) ≤ (n : Int) := by omega
    go_enter Try.func111, Try.ntmps111
    have hcA1 := hcA.out ((w.alloc (.cells R1 38)).drew) rfl 3 (G - r)
    go_wp2_with (at_builtin; refine wpList_append_run _ rfl _ _ _ _ rfl _ _ rfl rfl _ _ (hrz.out _) ?_)
    obtain ⟨W2, hW2⟩ : ∃ W2, W2 = (w.alloc (.cells R1 38)).drew.setRow w.heap.size R2 := ⟨_, rfl⟩
    have hh : Hid (W2.heap = ((w.alloc (.cells R1 38)).setRow w.heap.size R2).heap) := by show _ = _; rw [hW2]; rfl
    have hos2 : Hid (W2.os = w.os ∧ W2.tape = w.tape ∧ W2.output = w.output) := by rw [hW2]; exact ⟨rfl, rfl, rfl⟩
    rw [← hW2]
    clear hW2 hcA1 hrz hcA
    have hcB1 := hcB.out W2.drew hh.out 3 (G - (r + 1)) (n - r)
    have l0 : 0 ≤ (r : Int) := by omega
    have l1 : 0 ≤ (r : Int) + 1 := by omega
    have l2 : (r : Int) + 1 ≤ (n : Int) + 1 := by omega
    have l3 : ((r : Int) + 1).toNat = r + 1 := by omega
    have l4 : IntKind.i64.wrap ((r : Int) + 1) = (r : Int) + 1 := IntWalk.i64_in _ (by omega)
    go_region_law (refine step_copy_is rfl _ _ 23 23 rfl (.slice (some ⟨w.heap.size, (r + 1) * 3, none⟩) (n + 1 - (r + 1)) (G - (r + 1))) (.slice (some ⟨g, r * 3, none⟩) (n - r) (n - r)) (by simp [Act.eval, Act.put]) (by simp [Act.eval, Act.put]) hcB1 ?_)
    clear l4 hcB1
    go_wp2
    go_ret
    have h2 : W2.drew.heap[w.heap.size]? = some (.cells R2 38 (0, 0)) := by
      show W2.heap[w.heap.size]? = _
      rw [hh.out]; exact set_row_heap _ _ (heap_alloc_new w _) R2
    have h3 := set_row_heap W2.drew w.heap.size h2 R3
    have hz3 : (W2.drew.setRow w.heap.size R3).heap.size = w.heap.size + 1 := by
      show (W2.heap.modify _ _).size = _
      rw [Array.size_modify, hh.out]
      show (((w.alloc (.cells R1 38)).heap.modify _ _).size) = _
      rw [Array.size_modify]; simp
    have bW : Below w.heap.size w (W2.drew.setRow w.heap.size R3) := ⟨hos2.out.1, hos2.out.2.1, hos2.out.2.2, by rw [hz3]; omega, fun z hz => by
      rw [row_far _ _ _ (by omega)]
      show W2.heap[z]? = _
      rw [hh.out, row_far _ _ _ (by omega), Below.heap_alloc w _ z hz]⟩
    have hlen : (os.take r ++ o :: os.drop r).length = n + 1 := by simp; have := HNN.out; omega
    refine ⟨_, rfl, ⟨ys.take (r * 3) ++ T3 ++ ys.drop (r * 3), ?_, fun j hj => ?_⟩, bW.mono hB⟩
    · rw [hlen]
      refine ⟨?_, .inr ⟨w.heap.size, G, R3, rfl, hB, h3, hG1, by unfold maxLen; exact hG2, hR3s, hR3t⟩⟩
      rw [← hR3t, List.length_take, Array.length_toList, hR3s]
      omega
    · have := HA.out j hj
      rw [← hT3.out] at this
      obtain ⟨A1, c1, q0, q1, q2, q3⟩ := this
      exact ⟨A1, c1, q0, q1, q2, q3.below bW (Nat.le_refl _)⟩
end Go.Proofs.Ytblknnifccmpkaa
