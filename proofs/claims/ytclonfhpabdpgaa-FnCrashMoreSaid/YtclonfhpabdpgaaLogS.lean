/-
  Walk: the records that are read of bytes, by the program.
-/
import Derived.Test.YtclonfhpabdpgaaLogI
import Derived.Maps.AppendAt
namespace Go.Proofs.Ytclonfhpabdpgaa
open Go.RowKit Go.Shelf Go.Lib Wo Pu Lg

attribute [local go_sem] Oper.semAt_some

theorem recordsOf_any (s : ByteArray) (w : World) :
    Calls Try.prog 40 #[.string s] w fun e w' => e = .returned (.func (.func 46) #[] #[.pointer (some ⟨w.heap.size, 0, none⟩)]) ∧ w' = w.alloc (.cells #[.string s] 9) := by
  go_enter Try.func40, Try.ntmps40
  go_wp2
  go_ret
  exact ⟨rfl, rfl⟩

theorem recs_stops (s : ByteArray) (hs : s.size ≤ maxLen) (Bn n₀ : Nat) (w : World) (hBn : Bn < w.heap.size) (hc : w.cell? ⟨Bn, 0, none⟩ = some (.string s)) :
    SeqStopsK Fence.wide (3 - 1) Try.prog 46 #[.pointer (some ⟨Bn, 0, none⟩)] (fun x : Rec => #[Value.string x.1]) (Below n₀) (fun ys => ys = recs (bl s)) (fun pre => pre <+: recs (bl s)) (recs (bl s)).length w := fun l J Jx W hW hJ _ hY h0 =>
  recsIter_in l Bn s hs n₀ J Jx W (fun pre X Y hj hg => hJ pre X Y none hj hg (fun r e => by cases e)) hY ((hW.cell (p := ⟨Bn, 0, none⟩) hBn).trans hc) h0

/-- Texts as values. -/
def txts (ts : List ByteArray) : List Value := ts.map Value.string
/-- The slice v, of the call's own, holds the texts ts. -/
def OwnT (w : World) (B : Nat) (v : Value) (ts : List ByteArray) : Prop := w.ownsRow B 9 1 v ts.length (txts ts)
def texts (L : List UInt8) : List ByteArray := (recs L).map (·.1)
theorem texts_length (L : List UInt8) : (texts L).length = (scan L).length := by unfold texts; rw [List.length_map, recs_length]
/-- What LogScan answers. -/
def Scanned (s : ByteArray) (w : World) (e : Ending) (w' : World) : Prop := ∃ v, e = .returned (.tuple #[v, .int .i64 (used (bl s) : Nat)]) ∧ OwnT w' w.heap.size v (texts (bl s)) ∧ Below w.heap.size w w'

/-- How many bytes the frames of records take. -/
def usedR (pre : List Rec) : Nat := (pre.map (fun x => x.1.size + 2)).sum
theorem usedR_nil : usedR [] = 0 := rfl
theorem usedR_snoc (pre : List Rec) (x : Rec) : usedR (pre ++ [x]) = usedR pre + (x.1.size + 2) := by simp [usedR]
theorem usedR_le (pre : List Rec) : usedR pre ≤ 14 * pre.length := by
  induction pre with
  | nil => exact Nat.zero_le _
  | cons x xs ih => have := x.2; simp only [usedR, List.map_cons, List.sum_cons, List.length_cons] at *; omega
theorem usedR_recs (L : List UInt8) : usedR (recs L) = used L := by
  have hf := scan_fits L
  unfold recs used
  generalize scan L = rs at *
  induction rs with
  | nil => rfl
  | cons r rs ih =>
    have h1 := hf r (List.mem_cons_self ..)
    have h2 := ih (fun x hx => hf x (List.mem_cons_of_mem _ hx))
    rw [flat_cons, List.length_append, fr_length, ← h2]
    show (mkRec r).1.size + 2 + usedR (rs.map mkRec) = _
    rw [mkRec_val h1.2, mk_size]

/-- 'append' in a region that draws its order, inside a round. -/
theorem stepIn_append_own {F : Fence} {n : Nat} {P : Program} (w : World) {ops : Array Oper} {o : Oper} {a : Act} {K : Act → World → Prop} {Q : Exit → Act → World → Prop} {E : Prop}
    (hg : o.guard = none) (s x : Operand) (t : TypeId) (hop : o.op = Op.call { callee := Callee.builtin Builtin.append, args := #[s, x], argTypes := #[t, t] })
    (v : Value) (hs : a.eval s = v) (ad : Addr) (m c : Nat) (hx : a.eval x = .slice (some ad) m c) (v' : Value) (w' : World)
    (hrun : (Builtin.append_ #[t, t] o.type #[v, .slice (some ad) m c]).run P w = .ok v' w') (hK : K (a.put o.dst v') w') :
    if Region.wanted o (yielded ops a.tmps) = true then o.wpIn F n P a w K Q else E := by
  have hw : Region.wanted o (yielded ops a.tmps) = true := by simp [Region.wanted, hg]
  rw [if_pos hw]
  unfold Oper.wpIn
  refine ⟨?_, ?_⟩
  · simp [Oper.about, hop, resolve, Target.leads, Sem.run_pure]
  · rw [Oper.semAt_plain F _ _ (by rw [hop]; intro c hc'; cases hc')]
    simp [execOp, hop, resolve, invoke, builtin, hs, hx, hrun, Result.andThen]
    exact hK

theorem info_str : (Try.prog.info? 9).map (fun i => (i.zero, i.size, i.bytes)) = some (some (.string ⟨#[]⟩), 1, 16) := by kernel_rfl

theorem keeps_of {W W' : World} (h : Below W.heap.size W W') : KeepsOthers W W' := ⟨h.size, fun k _ hk _ => (h.block k (Array.getElem?_eq_some_iff.1 hk).1).trans hk⟩
/-- What one round of the loop leaves. -/
def Rnd (n k : Nat) (W X : World) (v' u' : Value) (ys : List Value) : Prop :=
  Boxed X (n + 1) 25 v' ∧ X.ownsRow n 9 1 v' (k + 1) ys ∧ Boxed X (n + 1 + 1) 3 u' ∧ KeepsOthers W X ∧ Below n W X
theorem Rnd.fin {n B : Nat} {w W X : World} {v' u' : Value} {pre : List Rec} {x : Rec} (h : Rnd n pre.length W X v' u' (pre.map (fun x : Rec => Value.string x.1) ++ [Value.string x.1])) (hu : u' = .int .i64 (usedR (pre ++ [x]) : Nat)) (hB : Below n w W) :
    KeepsFrom B W X ∧ Below n W X ∧ ((∃ v, Boxed X (n + 1) 25 v ∧ X.ownsRow n 9 1 v (pre ++ [x]).length ((pre ++ [x]).map (fun x : Rec => Value.string x.1)) ∧ True) ∧ Boxed X (n + 1 + 1) 3 (.int .i64 (usedR (pre ++ [x]) : Nat))) ∧ Below n w X := by
  subst hu
  obtain ⟨h1, h2, h3, h4, h5⟩ := h
  refine ⟨h4.from _, h5, ⟨⟨v', h1, ?_, trivial⟩, h3⟩, hB.trans h5⟩
  rw [List.length_append, List.map_append]
  exact h2
theorem body_step {W wc : World} {n k : Nat} {v u : Value} {xs : List Value} (b : ByteArray) (hv : Boxed W (n + 1) 25 v) (hrow : W.ownsRow n 9 1 v k xs) (hu : Boxed W (n + 1 + 1) 3 u) (hn : n ≤ W.heap.size)
    (hd : Below W.drew.heap.size W.drew wc) (hk : k ≤ 1048576) :
    ∃ g c w9, (Builtin.append_ #[25, 25] 25 #[v, .slice (some ⟨wc.heap.size, 0, none⟩) 1 1]).run Try.prog (wc.alloc (.cells #[.string b] 9)) = .ok (.slice (some ⟨g, 0, none⟩) (k + 1) c) w9 ∧
      wc.cell? ⟨n + 1, 0, none⟩ = some v ∧ w9.cell? ⟨n + 1, 0, none⟩ = some v ∧ w9.frozen? ⟨n + 1, 0, none⟩ = false ∧ w9.cell? ⟨n + 1 + 1, 0, none⟩ = some u ∧ w9.frozen? ⟨n + 1 + 1, 0, none⟩ = false ∧
      ∀ u', Rnd n k W ((w9.setCell ⟨n + 1, 0, none⟩ (.slice (some ⟨g, 0, none⟩) (k + 1) c)).setCell ⟨n + 1 + 1, 0, none⟩ u') (.slice (some ⟨g, 0, none⟩) (k + 1) c) u' (xs ++ [.string b]) := by
  obtain ⟨i0, hi, hz0, hz1, hz2⟩ := info_of info_str
  have hb : Below W.heap.size W wc := ⟨hd.os, hd.tape, hd.output, hd.size, hd.block⟩
  have hvc : Boxed wc (n + 1) 25 v := (hb.block _ hv.lt).trans hv
  have huc : Boxed wc (n + 1 + 1) 3 u := (hb.block _ hu.lt).trans hu
  have hrc := own_below hrow hb (Nat.le_refl _)
  have hnc : n ≤ wc.heap.size := Nat.le_trans hn hb.size
  obtain ⟨v', w9, hrun, hown, hg, -⟩ := run_append_own (P := Try.prog) (wc.alloc (.cells #[.string b] 9)) n 25 25 9 i0 (.string ⟨#[]⟩) 1 16 Try.underlying25 hi hz0 hz1 hz2 rfl (by decide) v k xs (hrc.alloc _)
    ⟨wc.heap.size, 0, none⟩ 1 1 [.string b] rfl (cell_one_new _ _ _) (by simp [Value.oneCell']) (by unfold maxLen; omega) (by omega) (by simp; omega)
  obtain ⟨g, c, rfl⟩ := ownsRow_succ hown
  have hne1 : some (n + 1 + 1) ≠ v.ownBlock := hu.not_row (by decide) hrow
  have hu9 : Boxed w9 (n + 1 + 1) 3 u := (huc.alloc _).kept hg hne1
  have hne2 : some (n + 1 + 1) ≠ (Value.slice (some ⟨g, 0, none⟩) (k + 1) c).ownBlock := hu9.not_row (by decide) hown
  obtain ⟨hv1, hv2, hr2, hk2, hb2⟩ := hvc.appended (by decide) hrc hnc (Nat.le_succ _) hown hg
  refine ⟨g, c, w9, hrun, hvc.cell, hv1.cell, hv1.frozen, hu9.cell, hu9.frozen, fun u' => ⟨hv2.other (by omega) _, ?_, ?_, ?_, ?_⟩⟩
  · exact hr2.kept (grownBy_setCell' _ _ _) (.inr hne2.symm)
  · exact (hu9.other (by omega) _).set u'
  · exact ((keeps_of hb).trans hk2).trans (KeepsOthers.setCell _ _ _)
  · exact (((hb.mono hn).trans hb2)).setCell (p := ⟨n + 1 + 1, 0, none⟩) (by simp; omega) _

set_option maxRecDepth 100000 in
set_option maxHeartbeats 4000000 in
theorem implLogScan_any (s : ByteArray) (w : World) (hs : s.size ≤ 1048576) :
    Calls Try.prog 18 #[.string s] w (Scanned s w) := by
  have hs' : s.size ≤ maxLen := by unfold maxLen; omega
  refine (callsIn_wide (n := 3)).1 ?_
  refine callsIn_of_wp_marks Try.func18 rfl trivial ?_ rfl
  simp only [Try.ntmps18, List.size_toArray, List.length_cons, List.length_nil, Nat.reduceAdd, Nat.reduceSub, Array.replicate_succ, Array.replicate_zero, List.push_toArray, List.append_toArray, List.nil_append, List.cons_append]
  gi_wp2_with (refine ⟨trivial, ?_⟩; gi_at_call 40; refine (callsIn_wide.2 (recordsOf_any s _)).mono ?_; rintro e w' ⟨rfl, rfl⟩)
  have bR := Boxed.new (w.alloc (.cells #[] 9)) 25 (.slice (some ⟨w.heap.size, 0, none⟩) 0 0)
  have bU := Boxed.new ((w.alloc (.cells #[] 9)).alloc (.cells #[.slice (some ⟨w.heap.size, 0, none⟩) 0 0] 25)) 3 (.int .i64 0)
  have bS := Boxed.new (((w.alloc (.cells #[] 9)).alloc (.cells #[.slice (some ⟨w.heap.size, 0, none⟩) 0 0] 25)).alloc (.cells #[.int .i64 0] 3)) 9 (.string s)
  have hB0 : Below w.heap.size w ((((w.alloc (.cells #[] 9)).alloc (.cells #[.slice (some ⟨w.heap.size, 0, none⟩) 0 0] 25)).alloc (.cells #[.int .i64 0] 3)).alloc (.cells #[.string s] 9)) :=
    ((((Below.refl _ w).alloc (Nat.le_refl _) _).alloc (by simp) _).alloc (by simp; omega) _).alloc (by simp; omega) _
  have hr0 := (((nil_own (w := w) (Nat.le_refl _) 9 1).alloc (.cells #[.slice (some ⟨w.heap.size, 0, none⟩) 0 0] 25)).alloc (.cells #[.int .i64 0] 3)).alloc (.cells #[.string s] 9)
  simp only [World.size_alloc] at bR bU bS
  have hmx : Try.prog.follows .mixedOrders = true := by kernel_rfl
  refine wpIn_rangeFunc_ownG rfl (by omega) (gf := 46) (lb := #[.pointer (some ⟨w.heap.size + 1 + 1 + 1, 0, none⟩)]) rfl trivial (enters_of Try.func46 (by kernel_rfl) rfl)
    (recs_stops s hs' (w.heap.size + 1 + 1 + 1) w.heap.size _ (by simp) bS.cell) belowK_t (belowK_b (by simp; omega)) (Below.refl _ _) (fun _ => rfl)
    (fun pre W => ((∃ v, Boxed W (w.heap.size + 1) 25 v ∧ W.ownsRow w.heap.size 9 1 v pre.length (pre.map (fun x : Rec => Value.string x.1)) ∧ True) ∧ Boxed W (w.heap.size + 1 + 1) 3 (.int .i64 (usedR pre : Nat))) ∧ Below w.heap.size w W)
    (fun _ _ _ => False)
    (OwnFrom.and (OwnFrom.and (Own.from (holdsRow_own w.heap.size (w.heap.size + 1) 25 9 1 (fun pre : List Rec => pre.length) (fun pre => pre.map (fun x : Rec => Value.string x.1)) (fun _ _ => True)) _) (Own.from (boxed_own (w.heap.size + 1 + 1) 3 (fun pre : List Rec => Value.int .i64 (usedR pre : Nat))) _)) (ownFrom_below (Nat.le_refl _) (by simp; omega)))
    (fun _ _ _ _ _ hs _ _ => hs)
    ⟨⟨⟨_, (bR.alloc _).alloc _, hr0, trivial⟩, bU.alloc _⟩, hB0⟩
    (fun x => { tmps := #[.string s, undef, .slice none 0 0, .int .i64 0, .pointer (some ⟨w.heap.size + 1, 0, none⟩), .pointer (some ⟨w.heap.size + 1 + 1, 0, none⟩), .string x.1, .slice (some ⟨w.heap.size, 0, none⟩) 0 0, .string s, .func (.func 46) #[] #[.pointer (some ⟨w.heap.size + 1 + 1 + 1, 0, none⟩)], .string x.1, undef, undef, undef, undef, undef, undef, undef, undef, undef, undef, undef, undef], defers := [] }) ?assign ?body ?done ?stop
  case assign =>
    intro l x W K hK
    gi_wp2
    exact hK
  case body =>
    rintro l pre x W ⟨⟨⟨v, hv, hrow, -⟩, hu⟩, hB⟩ hlt
    have hc := hv.cell
    have hcu := hu.cell
    have hx := x.2
    have hkl := recs_length (bl s)
    have hk2 := scan_length (bl s)
    rw [bl_size] at hk2
    have hk : pre.length ≤ 1048576 := by omega
    have hul := usedR_le pre
    clear hkl hk2
    gi_wp2
    refine wpIn_region_any hmx ?_
    refine wpAnyIn_ready (rs := [0, 1]) (by kernel_rfl) (by simp) ?_
    refine AllReadyIn.cons rfl (fun K hK => ?_) ?_
    · go_simp
      refine hK _ _ ?_
      clear hK K
      refine wpAnyIn_ready (rs := [1]) (by kernel_rfl) (by simp) ?_
      refine AllReadyIn.cons rfl (fun K hK => ?_) AllReadyIn.nil
      go_simp
      refine hK _ _ ?_
      clear hK K
      refine wpAnyIn_ready (rs := [2]) (by kernel_rfl) (by simp) ?_
      refine AllReadyIn.cons rfl (fun K hK => ?_) AllReadyIn.nil
      go_simp
      refine ⟨trivial, ?_⟩; gi_at_call 41
      refine (CallsIn.inRound l (callsIn_wide.2 (clone_any x.1 _ (by omega)))).mono ?_
      rintro e wc ⟨rfl, hb⟩
      obtain ⟨g, c, w9, hrun, f1, f2, f3, f4, f5, f6⟩ := body_step x.1 hv hrow hu hB.size hb hk
      have F6 := hid f6
      have R6 := hid hrun
      clear f6 hrun
      go_simp
      refine hK _ _ ?_
      clear hK K
      refine wpAnyIn_ready (rs := [3]) (by kernel_rfl) (by simp) ?_
      refine AllReadyIn.cons rfl (fun K hK => ?_) AllReadyIn.nil
      go_simp
      refine hK _ _ ?_
      clear hK K
      refine wpAnyIn_ready (rs := [4]) (by kernel_rfl) (by simp) ?_
      refine AllReadyIn.cons rfl (fun K hK => ?_) AllReadyIn.nil
      refine stepIn_append_own _ rfl (.tmp 11) (.tmp 14) 25 rfl v rfl ⟨wc.heap.size, 0, none⟩ 1 1 rfl _ _ R6.out ?_
      go_simp
      refine hK _ _ ?_
      clear hK K
      refine wpAnyIn_ready (rs := [5]) (by kernel_rfl) (by simp) ?_
      refine AllReadyIn.cons rfl (fun K hK => ?_) AllReadyIn.nil
      go_simp
      refine hK _ _ ?_
      clear hK K
      refine wpAnyIn_done (by kernel_rfl) ?_ _
      gi_wp2
      exact (F6.out _).fin (by rw [usedR_snoc]; congr 1) hB
    · refine AllReadyIn.cons rfl (fun K hK => ?_) AllReadyIn.nil
      go_simp
      refine hK _ _ ?_
      clear hK K
      refine wpAnyIn_ready (rs := [0, 2]) (by kernel_rfl) (by simp) ?_
      refine AllReadyIn.cons rfl (fun K hK => ?_) ?_
      · go_simp
        refine hK _ _ ?_
        clear hK K
        refine wpAnyIn_ready (rs := [2]) (by kernel_rfl) (by simp) ?_
        refine AllReadyIn.cons rfl (fun K hK => ?_) AllReadyIn.nil
        go_simp
        refine ⟨trivial, ?_⟩; gi_at_call 41
        refine (CallsIn.inRound l (callsIn_wide.2 (clone_any x.1 _ (by omega)))).mono ?_
        rintro e wc ⟨rfl, hb⟩
        obtain ⟨g, c, w9, hrun, f1, f2, f3, f4, f5, f6⟩ := body_step x.1 hv hrow hu hB.size hb hk
        have F6 := hid f6
        have R6 := hid hrun
        clear f6 hrun
        go_simp
        refine hK _ _ ?_
        clear hK K
        refine wpAnyIn_ready (rs := [3]) (by kernel_rfl) (by simp) ?_
        refine AllReadyIn.cons rfl (fun K hK => ?_) AllReadyIn.nil
        go_simp
        refine hK _ _ ?_
        clear hK K
        refine wpAnyIn_ready (rs := [4]) (by kernel_rfl) (by simp) ?_
        refine AllReadyIn.cons rfl (fun K hK => ?_) AllReadyIn.nil
        refine stepIn_append_own _ rfl (.tmp 11) (.tmp 14) 25 rfl v rfl ⟨wc.heap.size, 0, none⟩ 1 1 rfl _ _ R6.out ?_
        go_simp
        refine hK _ _ ?_
        clear hK K
        refine wpAnyIn_ready (rs := [5]) (by kernel_rfl) (by simp) ?_
        refine AllReadyIn.cons rfl (fun K hK => ?_) AllReadyIn.nil
        go_simp
        refine hK _ _ ?_
        clear hK K
        refine wpAnyIn_done (by kernel_rfl) ?_ _
        gi_wp2
        exact (F6.out _).fin (by rw [usedR_snoc]; congr 1) hB
      ·
        refine AllReadyIn.cons rfl (fun K hK => ?_) AllReadyIn.nil
        go_simp
        refine ⟨trivial, ?_⟩; gi_at_call 41
        refine (CallsIn.inRound l (callsIn_wide.2 (clone_any x.1 _ (by omega)))).mono ?_
        rintro e wc ⟨rfl, hb⟩
        obtain ⟨g, c, w9, hrun, f1, f2, f3, f4, f5, f6⟩ := body_step x.1 hv hrow hu hB.size hb hk
        have F6 := hid f6
        have R6 := hid hrun
        clear f6 hrun
        go_simp
        refine hK _ _ ?_
        clear hK K
        refine wpAnyIn_ready (rs := [0, 3]) (by kernel_rfl) (by simp) ?_
        refine AllReadyIn.cons rfl (fun K hK => ?_) ?_
        · go_simp
          refine hK _ _ ?_
          clear hK K
          refine wpAnyIn_ready (rs := [3]) (by kernel_rfl) (by simp) ?_
          refine AllReadyIn.cons rfl (fun K hK => ?_) AllReadyIn.nil
          go_simp
          refine hK _ _ ?_
          clear hK K
          refine wpAnyIn_ready (rs := [4]) (by kernel_rfl) (by simp) ?_
          refine AllReadyIn.cons rfl (fun K hK => ?_) AllReadyIn.nil
          refine stepIn_append_own _ rfl (.tmp 11) (.tmp 14) 25 rfl v rfl ⟨wc.heap.size, 0, none⟩ 1 1 rfl _ _ R6.out ?_
          go_simp
          refine hK _ _ ?_
          clear hK K
          refine wpAnyIn_ready (rs := [5]) (by kernel_rfl) (by simp) ?_
          refine AllReadyIn.cons rfl (fun K hK => ?_) AllReadyIn.nil
          go_simp
          refine hK _ _ ?_
          clear hK K
          refine wpAnyIn_done (by kernel_rfl) ?_ _
          gi_wp2
          exact (F6.out _).fin (by rw [usedR_snoc]; congr 1) hB
        · refine AllReadyIn.cons rfl (fun K hK => ?_) AllReadyIn.nil
          have f7 : (wc.alloc (.cells #[.string x.1] 9)).cell? ⟨w.heap.size + 1, 0, none⟩ = some v := (Below.cell (p := ⟨w.heap.size + 1, 0, none⟩) ((Below.refl _ wc).alloc (Nat.le_refl _) _) (World.block_lt_of_cell? _ _ f1)).trans f1
          go_simp
          refine hK _ _ ?_
          clear hK K
          refine wpAnyIn_ready (rs := [0]) (by kernel_rfl) (by simp) ?_
          refine AllReadyIn.cons rfl (fun K hK => ?_) AllReadyIn.nil
          go_simp
          refine hK _ _ ?_
          clear hK K
          refine wpAnyIn_ready (rs := [4]) (by kernel_rfl) (by simp) ?_
          refine AllReadyIn.cons rfl (fun K hK => ?_) AllReadyIn.nil
          refine stepIn_append_own _ rfl (.tmp 11) (.tmp 14) 25 rfl v rfl ⟨wc.heap.size, 0, none⟩ 1 1 rfl _ _ R6.out ?_
          go_simp
          refine hK _ _ ?_
          clear hK K
          refine wpAnyIn_ready (rs := [5]) (by kernel_rfl) (by simp) ?_
          refine AllReadyIn.cons rfl (fun K hK => ?_) AllReadyIn.nil
          go_simp
          refine hK _ _ ?_
          clear hK K
          refine wpAnyIn_done (by kernel_rfl) ?_ _
          gi_wp2
          exact (F6.out _).fin (by rw [usedR_snoc]; congr 1) hB
  case done =>
    rintro D ys W hD rfl ⟨⟨⟨v, hv, hrow, -⟩, hu⟩, hB⟩ hK
    have hc := hv.cell
    have hcu := hu.cell
    gi_wp2
    refine wpIn_wide.2 ?_
    go_quiet (fail)
    have hK' : (W.drewN nq).heap[D]? = some (.deferred (some [])) := hK
    have hr' : (W.drewN nq).ownsRow w.heap.size 9 1 v (texts (bl s)).length (txts (texts (bl s))) := by
      have e1 : (texts (bl s)).length = (recs (bl s)).length := by unfold texts; rw [List.length_map]
      have e2 : txts (texts (bl s)) = (recs (bl s)).map (fun x : Rec => Value.string x.1) := by unfold txts texts; rw [List.map_map]; rfl
      rw [e1, e2]; exact hrow
    have hB' : Below w.heap.size w (W.drewN nq) := Wo.Below.drewN hB nq
    have HU := hid (usedR_recs (bl s))
    clear hrow hB hK hv hu
    gi_wp2
    refine ⟨by simp, .inl ⟨_, _, rfl, run_takeDeferred hK', ?_⟩⟩
    refine ⟨.tuple #[v, .int .i64 (usedR (recs (bl s)) : Nat)], by simp [results, Try.results18, go_sem], v, by rw [HU.out], ownsRow_putObj hr' _ hK' rfl, ?_⟩
    exact hB'.trans (belowK_b (w := w) (Nat.le_refl _) (W.drewN nq) D _ _ (by simp at hD; omega) hK' rfl rfl)
  case stop =>
    rintro D c pre W _ _ h _
    exact h.elim
end Go.Proofs.Ytclonfhpabdpgaa
