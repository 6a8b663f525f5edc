/-
  Walks: an array of refs with new ids; whether so many first transactions are ordered, by the program.
-/
import Derived.Test.YtjplondblkkpmaaUpdF
import Derived.Test.YtjplondblkkpmaaG3C
namespace Go.Proofs.Ytjplondblkkpmaa
open Go.RowKit Wo Pu Rf Co

/-- Behind it: an array of refs. -/
def RefsA (zs : List Int) (w : World) (e : Ending) (w' : World) : Prop := e = .returned (.agg (ints zs).toArray) ∧ Below w.heap.size w w'
theorem ints_oneA (zs : List Int) : ∀ v ∈ (ints zs).toArray.toList, v.oneCell' = true := fun v hv => by
  simp only [ints] at hv
  obtain ⟨z, -, rfl⟩ := List.mem_map.1 hv
  rfl
/-- A load of a whole row, in every world that has it. -/
theorem yields_row {S : World → Prop} {o : Oper} {a : Act} (ty : TypeId) (x : Operand) (ho : o.op = .load ty x) (g : Nat) (hx : a.eval x = .pointer (some ⟨g, 0, none⟩)) (t : TypeId) (cs : Array Value) (fr : Nat × Nat) (n : Nat) (el : TypeId)
    (hS : ∀ w, S w → w.heap[g]? = some (.cells cs t fr)) (hu : Try.prog.underlying ty = some (.array n el)) (hi : (Try.prog.info? ty).map (·.size) = some cs.size) :
    ∀ w, S w → (execOp a.eval o).run Try.prog w = .ok (.value (.agg cs)) w := by
  intro w hw
  unfold execOp
  simp only [ho, hx, Instr.loadAt, Instr.sureAddr, Sem.run_bind, Sem.run_pure, Result.andThen_ok, run_loadVar_row w g t ty cs fr _ (hS w hw) hu rfl hi]
theorem ra_size {ys : List Int} (h : ys.length = 4) : (ints ys).toArray.size = 4 := by rw [List.size_toArray, ints_length, h]
theorem ra_info {ys : List Int} (h : ys.length = 4) : (Try.prog.info? 61).map (·.size) = some (ints ys).toArray.size := by rw [ra_size h]; exact info_ra
set_option linter.unusedSimpArgs false in
set_option linter.unusedVariables false in
set_option maxRecDepth 100000 in
set_option maxHeartbeats 4000000 in
theorem raSet_is (A : Option Addr) (c : Nat) (zs : List Int) (us : List Up) (w : World) (B : Nat) (h4 : zs.length = 4) (hu : Row w B A (upsV us)) (hB : B ≤ w.heap.size) (hr : Refs4 us) (hm : us.length ≤ 1048600) :
    Calls Try.prog 63 #[.agg (ints zs).toArray, .slice A us.length c] w (RefsA (setR zs us) w) := by
  have H4 := hid h4
  have HI := hid (ra_info h4)
  have HSZ := hid (ra_size h4)
  have HR := hid hr
  clear h4 hr
  go_enter Try.func63, Try.ntmps63
  have y0 := Arr4.new_ w 61 (ints zs)
  have b0 := (Below.refl w.heap.size w).alloc (Nat.le_refl _) (.cells (ints zs).toArray 61)
  obtain ⟨w1, hw1⟩ : ∃ w1, w.alloc (.cells (ints zs).toArray 61) = w1 := ⟨_, rfl⟩
  have z1 : w1.heap.size = w.heap.size + 1 := by rw [← hw1]; simp
  rw [hw1] at y0 b0
  have y1 := Arr4.new_ w1 61 (ints [0, 0, 0, 0])
  have y01 := y0.alloc (.cells (ints [0, 0, 0, 0]).toArray 61)
  have b1 := b0.alloc b0.size (.cells (ints [0, 0, 0, 0]).toArray 61)
  rw [z1] at y1
  subst hw1
  clear y0 b0 z1
  go_wp2_with fail
  go_loopw [9] (fun i wr => ∃ k : Nat, k ≤ us.length ∧ i = .int .i64 k ∧ Arr4 wr w.heap.size 61 (ints (setR zs (us.take k))) ∧ Arr4 wr (w.heap.size + 1) 61 (ints [0, 0, 0, 0]) ∧ Below w.heap.size w wr) (fun i _ => us.length - (intOf i).toNat)
  case atStart => exact ⟨0, Nat.zero_le _, rfl, by rw [List.take_zero, setR_nil]; exact y01, y1, b1⟩
  case round =>
    clear y01 y1 b1
    obtain ⟨k, hk, rfl, a0, a1, hb⟩ := hrel
    have hz := hb.size
    have hl4 : (setR zs (us.take k)).length = 4 := by rw [setR_length]; exact H4.out
    by_cases hlt : k < us.length
    · obtain ⟨o, ad3, ho3, rfl, ha3, p0, p1, p2⟩ := (hu.below hb hB).up_ hlt
      have h4 := HR.out o (by rw [← ho3]; exact List.getElem_mem hlt)
      obtain ⟨r, hr⟩ := Int.eq_ofNat_of_zero_le h4.1
      have i5 : (0 : Int) ≤ (k : Int) := by omega
      have i6 : (k : Int) < (us.length : Int) := by omega
      have i7 : (0 : Int) ≤ (r : Int) := by omega
      have i8 : (r : Int) < 4 := by omega
      rw [hr] at p0
      have al := (Below.refl wr.heap.size wr).alloc (Nat.le_refl _) (.cells #[.int .i64 (r : Int), .int .i64 o.o, .int .i64 o.n] 38)
      obtain ⟨z0, z1, z2, -⟩ := (Blk3s.new_ wr 38 (.int .i64 (r : Int)) (.int .i64 o.o) (.int .i64 o.n)).reads
      have a8 := a0.below al a0.lt
      have a18 := (a1.below al a1.lt).far (p := ⟨w.heap.size, r, none⟩) (by show w.heap.size + 1 ≠ w.heap.size; omega) (.int .i64 o.n)
      obtain ⟨vv, v0⟩ : ∃ v, (wr.alloc (.cells #[.int .i64 (r : Int), .int .i64 o.o, .int .i64 o.n] 38)).cell? ⟨w.heap.size, r, none⟩ = some v := ⟨_, a8.read (i := r) (by rw [ints_length, hl4]; omega)⟩
      have v1 := a8.frozen r
      have a9 := a8.set r (.int .i64 o.n)
      have e9 : (ints (setR zs (us.take k))).set r (.int .i64 o.n) = ints (setR zs (us.take (k + 1))) := by
        rw [List.take_succ_eq_append_getElem hlt, setR_snoc, ho3, hr]
        unfold ints
        rw [List.map_set]
        rfl
      rw [e9] at a9
      have b9 := (hb.trans (al.mono hz)).setCell (p := ⟨w.heap.size, r, none⟩) (Nat.le_refl _) (.int .i64 o.n)
      clear a0 a1 hb a8 e9 ho3 h4 hr hl4
      go_wp2
      go_roundw
      case rel => exact ⟨k + 1, by omega, by go_num, a9, a18, b9⟩
      case measure => simp [intOf]; omega
    · have hk' : k = us.length := by omega
      subst hk'
      rw [List.take_length] at a0 hl4
      have HYI := hid (ra_info hl4)
      have HYS := hid (ra_size hl4)
      obtain ⟨ys, hys⟩ : ∃ ys, setR zs us = ys := ⟨_, rfl⟩
      rw [hys] at a0 HYI HYS hl4
      have HY := hid hys
      clear hys
      have hl : wr.heap[w.heap.size]? = some (.cells (ints ys).toArray 61 (0, 0)) := a0
      have hs : wr.heap[w.heap.size + 1]? = some (.cells (ints [0, 0, 0, 0]).toArray 61 (0, 0)) := a1
      clear hl4 a0 a1
      go_wp2_with (first
        | (refine wpList_load_row rfl 61 _ rfl w.heap.size rfl 61 (ints ys).toArray (0, 0) _ hl Try.underlying61 rfl HYI.out ?_)
        | (refine wpList_store_rowTo rfl 61 _ _ rfl rfl (w.heap.size + 1) (ints ys).toArray rfl rfl 61 (ints [0, 0, 0, 0]).toArray hs HYI.out HYS.out.symm (ints_ones _) ?_))
      have h2 : (wr.setRow (w.heap.size + 1) (ints ys).toArray).heap[w.heap.size + 1]? = some (.cells (ints ys).toArray 61 (0, 0)) := setRow_heap wr _ _ _ _ _ hs
      have b9 := below_setRow hb (Nat.le_succ _) (ints ys).toArray
      refine bodyPost_ret (v := .agg (ints ys).toArray) (results_cell_row (p := 4) (by kernel_rfl) _ _ (w.heap.size + 1) 61 _ (0, 0) _ rfl h2 Try.underlying61 rfl HYI.out) rfl ⟨by rw [HY.out], b9⟩
set_option linter.unusedSimpArgs false in
set_option linter.unusedVariables false in
set_option maxHeartbeats 4000000 in
theorem ordered_is (b : Bool) (A : Option Addr) (n c : Nat) (A2 : Option Addr) (n2 c2 : Nat) (m : Int) (w : World) (hb : b = true ↔ (0 ≤ m ∧ m ≤ (n2 : Int))) :
    Calls Try.prog 37 #[.agg #[.slice A n c, .slice A2 n2 c2], .int .i64 m] w (Ret (.bool b) w) := by
  have F : Hid (b = (decide (0 ≤ m) && decide (m ≤ (n2 : Int)))) := by
    show _ = _
    rw [Bool.eq_iff_iff, hb]
    simp
  clear hb
  have b1 := (Below.refl w.heap.size w).alloc (Nat.le_refl _) (.cells #[.slice A n c, .slice A2 n2 c2] 26)
  obtain ⟨y0, y1, -⟩ := (Blk2s.new_ w 26 (.slice A n c) (.slice A2 n2 c2)).reads
  by_cases h0 : 0 ≤ m
  · have e0 : decide (0 ≤ m) = true := decide_eq_true h0
    by_cases h1 : m ≤ (n2 : Int)
    · have e1 : decide (m ≤ (n2 : Int)) = true := decide_eq_true h1
      clear h0 h1
      go_enter Try.func37, Try.ntmps37
      go_wp2
      go_ret
      rw [F.out, e0, e1]
      exact .mk_ b1
    · have e1 : decide (m ≤ (n2 : Int)) = false := decide_eq_false h1
      clear h0 h1
      go_enter Try.func37, Try.ntmps37
      go_wp2
      go_ret
      rw [F.out, e0, e1]
      exact .mk_ b1
  · have e0 : decide (0 ≤ m) = false := decide_eq_false h0
    clear h0
    go_enter Try.func37, Try.ntmps37
    go_wp2
    go_ret
    rw [F.out, e0]
    exact .mk_ b1
end Go.Proofs.Ytjplondblkkpmaa
