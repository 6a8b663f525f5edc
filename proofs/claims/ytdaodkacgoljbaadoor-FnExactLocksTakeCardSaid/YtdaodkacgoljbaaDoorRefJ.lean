/-
  Walks: the program's updates of an array of refs; which refs are updated.
-/
import Derived.Test.YtdaodkacgoljbaaDoorRefH
namespace Go.Proofs.YtdaodkacgoljbaaDoor
open Go.RowKit Wo Pu Rf

/-- What updated answers. -/
def Updt (b : Bool) (zs : List Int) (us : List Up) (w : World) (e : Ending) (w' : World) : Prop := e = .returned (.tuple #[.agg (ints (if b then setR zs us else zs)).toArray, .bool b]) ∧ Below w.heap.size w w'
theorem Arr4.setRow {w : World} {g : Nat} {t : TypeId} {vs : List Value} (h : Arr4 w g t vs) (cs : List Value) : Arr4 (w.setRow g cs.toArray) g t cs := setRow_heap w g _ _ t _ h
theorem Arr4.farRow {w : World} {g g' : Nat} {t : TypeId} {vs : List Value} (h : Arr4 w g t vs) (hg : g ≠ g') (cs : Array Value) : Arr4 (w.setRow g' cs) g t vs := (setRow_other w g' g cs hg).trans h
theorem Arr4.alloc {w : World} {g : Nat} {t : TypeId} {vs : List Value} (h : Arr4 w g t vs) (o : Obj) : Arr4 (w.alloc o) g t vs := (heap_alloc_old w o h.lt).trans h
theorem info_bools : (Tryd.prog.info? 57).map (·.size) = some 4 := by kernel_rfl
theorem nameds_ones (us : List Up) (k : Nat) : (nameds us k).toArray.all (·.oneCell') = true := by simp [nameds, Value.oneCell']
/-- What updatedRefs answers. -/
def Named4 (us : List Up) (w : World) (e : Ending) (w' : World) : Prop := e = .returned (.agg (nameds us us.length).toArray) ∧ Below w.heap.size w w'
set_option maxRecDepth 100000 in
set_option maxHeartbeats 4000000 in
theorem updatedRefs_is (A : Option Addr) (c : Nat) (us : List Up) (w : World) (hu : Row w w.heap.size A (upsV us)) (hr : Refs4 us) (hm : us.length ≤ 1048600) :
    Calls Tryd.prog 39 #[.slice A us.length c] w (Named4 us w) := by
  go_enter Tryd.func39, Tryd.ntmps39
  go_wp2_with fail
  have a1 := Arr4.new_ (w.alloc (.cells #[.bool false, .bool false, .bool false, .bool false] 57)) 57 [.bool false, .bool false, .bool false, .bool false]
  have a0 := (Arr4.new_ w 57 [.bool false, .bool false, .bool false, .bool false]).alloc (.cells #[.bool false, .bool false, .bool false, .bool false] 57)
  have al := ((Below.refl w.heap.size w).alloc (Nat.le_refl _) (.cells #[.bool false, .bool false, .bool false, .bool false] 57)).alloc (by simp) (.cells #[.bool false, .bool false, .bool false, .bool false] 57)
  rw [World.size_alloc] at a1
  go_loopw [8] (fun i wr => ∃ k : Nat, k ≤ us.length ∧ i = .int .i64 k ∧ Arr4 wr (w.heap.size + 1) 57 (nameds us k) ∧ Arr4 wr w.heap.size 57 (nameds us 0) ∧ Below w.heap.size w wr) (fun i _ => us.length - (intOf i).toNat)
  case atStart => exact ⟨0, Nat.zero_le _, rfl, by rw [nameds_zero]; exact a1, by rw [nameds_zero]; exact a0, al⟩
  case round =>
    obtain ⟨k, hk, rfl, a2, a3, hbr⟩ := hrel
    clear a1 a0 al
    have hz := hbr.size
    by_cases hlt : k < us.length
    · obtain ⟨o, ad, ho, rfl, ha1, g0, g1, g2⟩ := ((hu.below hbr (Nat.le_refl _)).more hbr.size).up_ hlt
      obtain ⟨r0, r1⟩ := hr _ (List.getElem_mem hlt)
      rw [ho] at r0 r1
      obtain ⟨m, hm0⟩ := Int.eq_ofNat_of_zero_le r0
      have hm4 : m < 4 := by omega
      have HS := hid (nameds_next hlt (by rw [ho]; exact hm0) hm4)
      rw [hm0] at g0
      have c2 := a2.alloc (.cells #[.int .i64 (m : Int), .int .i64 o.o, .int .i64 o.n] 31)
      have k0 : (0 : Int) ≤ (k : Int) := by omega
      have k1 : (k : Int) < (us.length : Int) := by omega
      have k2 : (0 : Int) ≤ (m : Int) := by omega
      have k3 : (m : Int) < 4 := by omega
      have lt2 := a2.lt
      obtain ⟨yv, y2⟩ : ∃ v, wr.cell? ⟨w.heap.size + 1, m, none⟩ = some v := ⟨_, a2.read (i := m) (by simpa [nameds] using hm4)⟩
      have y3 : (wr.alloc (.cells #[.int .i64 (m : Int), .int .i64 o.o, .int .i64 o.n] 31)).cell? ⟨w.heap.size + 1, m, none⟩ = some yv := by rw [World.cell?_alloc_lt _ _ _ lt2]; exact y2
      have f2 := c2.frozen m
      have d2' := a2.set m (.bool true)
      rw [HS.out] at d2'
      have d2 := d2'.alloc (.cells #[.int .i64 (m : Int), .int .i64 o.o, .int .i64 o.n] 31)
      have d1 := (a3.far (p := ⟨w.heap.size + 1, m, none⟩) (by show w.heap.size ≠ w.heap.size + 1; omega) (.bool true)).alloc (.cells #[.int .i64 (m : Int), .int .i64 o.o, .int .i64 o.n] 31)
      have e2 := (hbr.setCell (p := ⟨w.heap.size + 1, m, none⟩) (by show w.heap.size ≤ w.heap.size + 1; omega) (.bool true)).alloc (by simp; omega) (.cells #[.int .i64 (m : Int), .int .i64 o.o, .int .i64 o.n] 31)
      clear HS ho hm0 r0 r1 a2 a3 d2'
      go_wp2
      go_roundw
      case rel => exact ⟨k + 1, by omega, by go_num, d2, d1, e2⟩
      case measure => simp [intOf]; omega
    · have hk' : k = us.length := by omega
      subst hk'
      obtain ⟨ys, hys⟩ : ∃ ys, nameds us us.length = ys := ⟨_, rfl⟩
      have HYO := hid (nameds_ones us us.length)
      rw [hys] at a2 HYO
      have HY := hid hys
      have hyl : ys.toArray.size = 4 := by rw [← hys]; rfl
      have hyl' : (Tryd.prog.info? 57).map (·.size) = some ys.toArray.size := by rw [hyl]; exact info_bools
      have HYL := hid hyl
      have HYL' := hid hyl'
      clear hyl hyl' hys
      rw [nameds_zero] at a3
      have hl : wr.heap[w.heap.size + 1]? = some (.cells ys.toArray 57 (0, 0)) := a2
      have hs : wr.heap[w.heap.size]? = some (.cells [.bool false, .bool false, .bool false, .bool false].toArray 57 (0, 0)) := a3
      go_wp2_with (first
        | (refine wpList_load_row rfl 57 _ rfl (w.heap.size + 1) rfl 57 ys.toArray (0, 0) _ hl Tryd.underlying57 rfl HYL'.out ?_)
        | (refine wpList_store_rowTo rfl 57 _ _ rfl rfl w.heap.size ys.toArray rfl rfl 57 _ hs HYL'.out HYL.out.symm HYO.out ?_))
      have h2 : (wr.setRow w.heap.size ys.toArray).heap[w.heap.size]? = some (.cells ys.toArray 57 (0, 0)) := setRow_heap _ _ _ _ _ _ hs
      have hb2 := below_setRow hbr (Nat.le_refl _) ys.toArray
      refine bodyPost_ret (v := .agg ys.toArray) (results_cell_row (p := 2) (by kernel_rfl) _ _ w.heap.size 57 _ (0, 0) _ rfl h2 Tryd.underlying57 rfl HYL'.out) rfl ⟨by rw [HY.out], hb2⟩
end Go.Proofs.YtdaodkacgoljbaaDoor
