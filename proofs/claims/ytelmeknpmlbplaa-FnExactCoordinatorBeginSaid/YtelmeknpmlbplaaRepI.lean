/-
  Walks: whether a list has a number; a list of zeros, repeated.
-/
import Derived.Test.YtelmeknpmlbplaaG0C
import Derived.Laws.CopyOwn
import Derived.Deep.Cut
namespace Go.Proofs.Ytelmeknpmlbplaa
open Go.RowKit Wo Pu Rf Co

/-- Where a number is first. -/
def AtI (zs : List Int) (x z : Int) : Prop := (∃ (k : Nat) (h : k < zs.length), z = (k : Int) ∧ zs[k] = x) ∨ (z = -1 ∧ x ∉ zs)
def NaTo (zs : List Int) (x : Int) (k : Nat) : Prop := ∀ j (h : j < zs.length), j < k → zs[j] ≠ x
theorem NaTo.zero (zs : List Int) (x : Int) : NaTo zs x 0 := fun _ _ h => absurd h (Nat.not_lt_zero _)
theorem NaTo.next {zs : List Int} {x : Int} {k : Nat} (h : NaTo zs x k) (hk : k < zs.length) (hv : zs[k] ≠ x) : NaTo zs x (k + 1) := fun i hi hl => by
  by_cases e : i = k
  · subst e; exact hv
  · exact h i hi (by omega)
theorem NaTo.all {zs : List Int} {x : Int} (h : NaTo zs x zs.length) : x ∉ zs := fun hm => by
  obtain ⟨j, hj, e⟩ := List.mem_iff_getElem.1 hm
  exact h j hj hj e
/-- Behind it: an index. -/
def AtO (zs : List Int) (x : Int) (w : World) (e : Ending) (w' : World) : Prop := ∃ z, e = .returned (.int .i64 z) ∧ AtI zs x z ∧ w' = w
set_option maxHeartbeats 4000000 in
theorem slIndex_is (A : Option Addr) (c : Nat) (zs : List Int) (x : Int) (w : World) (B : Nat) (hr : Row w B A (ints zs)) (hm : zs.length ≤ 1048600) :
    Calls Try.prog 92 #[.slice A zs.length c, .int .i64 x] w (AtO zs x w) := by
  go_enter Try.func92, Try.ntmps92
  go_wp2_with fail
  go_loopw [8] (fun i wr => ∃ k : Nat, k ≤ zs.length ∧ i = .int .i64 k ∧ Hid (NaTo zs x k) ∧ wr = w) (fun i _ => zs.length - (intOf i).toNat)
  case atStart => exact ⟨0, Nat.zero_le _, rfl, .zero _ _, rfl⟩
  case round =>
    obtain ⟨k, hk, rfl, H, rfl⟩ := hrel
    by_cases hlt : k < zs.length
    · obtain ⟨ad, rfl, hbl, hcell⟩ := hr.int_ hlt
      have k0 : (0 : Int) ≤ (k : Int) := by omega
      have k1 : (k : Int) < (zs.length : Int) := by omega
      obtain ⟨y, hy⟩ : ∃ y, zs[k] = y := ⟨_, rfl⟩
      rw [hy] at hcell
      by_cases hxy : x = y
      · have e0 : (x == y) = true := beq_iff_eq.2 hxy
        have HF := hid (show AtI zs x (k : Int) from .inl ⟨k, hlt, rfl, by rw [hy]; exact hxy.symm⟩)
        clear hxy hy
        go_wp2
        go_ret
        exact ⟨_, rfl, HF.out, rfl⟩
      · have e0 : (x == y) = false := beq_eq_false_iff_ne.2 hxy
        have HN := hid (H.out.next hlt (by rw [hy]; exact fun e => hxy e.symm))
        clear hxy hy
        go_wp2
        go_roundw
        case rel => exact ⟨k + 1, by omega, by go_num, HN, trivial⟩
        case measure => simp [intOf]; omega
    · have hk' : k = zs.length := by omega
      subst hk'
      have HF := hid (show AtI zs x (-1) from .inr ⟨rfl, H.out.all⟩)
      go_wp2
      go_ret
      exact ⟨_, rfl, HF.out, rfl⟩
set_option maxHeartbeats 4000000 in
theorem slContains_is (b : Bool) (A : Option Addr) (c : Nat) (zs : List Int) (x : Int) (w : World) (B : Nat) (hr : Row w B A (ints zs)) (hm : zs.length ≤ 1048600) (hb : b = true ↔ x ∈ zs) :
    Calls Try.prog 63 #[.slice A zs.length c, .int .i64 x] w (Same (.bool b) w) := by
  have HB := hid hb
  clear hb
  go_enter Try.func63, Try.ntmps63
  go_wp2_with fail
  refine (slIndex_is A c zs x _ B hr hm).mono ?_
  rintro e w1 ⟨z, rfl, hz, rfl⟩
  have F : Hid (b = decide (0 ≤ z)) := by
    show _ = _
    rw [Bool.eq_iff_iff, HB.out, decide_eq_true_eq]
    rcases hz with ⟨k, hk, rfl, e⟩ | ⟨rfl, hn⟩
    · exact ⟨fun _ => by omega, fun _ => e ▸ List.getElem_mem hk⟩
    · exact ⟨fun h => absurd h hn, fun h => by omega⟩
  clear HB hz
  go_wp2
  go_ret
  rw [F.out]
  exact ⟨rfl, rfl⟩
set_option maxHeartbeats 4000000 in
theorem mul64_is (n : Nat) (hn : n = 1 ∨ n = 2 ∨ n = 3) (w : World) : Calls Try.prog 112 #[.int .u64 1, .int .u64 n] w (Same (.tuple #[.int .u64 0, .int .u64 n]) w) := by
  rcases hn with rfl | rfl | rfl
  all_goals
    go_enter Try.func112, Try.ntmps112
    go_wp2
    first | exact bodyPost_ret (v := .tuple #[.int .u64 0, .int .u64 1]) (by simp [results, Try.results112, go_sem]; kernel_rfl) rfl ⟨rfl, rfl⟩ | exact bodyPost_ret (v := .tuple #[.int .u64 0, .int .u64 2]) (by simp [results, Try.results112, go_sem]; kernel_rfl) rfl ⟨rfl, rfl⟩ | exact bodyPost_ret (v := .tuple #[.int .u64 0, .int .u64 3]) (by simp [results, Try.results112, go_sem]; kernel_rfl) rfl ⟨rfl, rfl⟩
set_option maxHeartbeats 4000000 in
theorem mul_is (n : Nat) (hn : n = 1 ∨ n = 2 ∨ n = 3) (w : World) : Calls Try.prog 99 #[.int .u64 1, .int .u64 n] w (Same (.tuple #[.int .u64 0, .int .u64 n]) w) := by
  go_enter Try.func99, Try.ntmps99
  go_wp2_with fail
  refine (mul64_is n hn _).mono ?_
  rintro e w1 ⟨rfl, rfl⟩
  go_wp2
  exact bodyPost_ret (v := .tuple #[.int .u64 0, .int .u64 n]) (by simp [results, Try.results99, go_sem]) rfl ⟨rfl, rfl⟩

theorem info_int1 : (Try.prog.info? 3).map (·.size) = some 1 := by kernel_rfl
theorem step_copy_one {P : Program} {ops : Array Oper} {o : Oper} {a : Act} {w : World} {K : Act → World → Prop} {Q : Exit → Act → World → Prop} {E : Prop}
    (hg : o.guard = none) (d x : Operand) (dT sT : TypeId) (hop : o.op = Op.call { callee := Callee.builtin Builtin.copy, args := #[d, x], argTypes := #[dT, sT] })
    (v u : Value) (hd : a.eval d = v) (hx : a.eval x = u) {v' : Value} {w' : World} (hr : (Builtin.copy_ #[dT, sT] o.type #[v, u]).run P w = .ok v' w') (hK : K (a.put o.dst v') w') :
    if Region.wanted o (yielded ops a.tmps) = true then Oper.wp P o a w K Q else E := by
  have hw : Region.wanted o (yielded ops a.tmps) = true := by simp [Region.wanted, hg]
  rw [if_pos hw]
  unfold Oper.wp
  simp [execOp, hop, resolve, invoke, builtin, hd, hx, hr, Result.andThen]
  exact hK
set_option linter.unusedSimpArgs false in
set_option maxRecDepth 100000 in
set_option maxHeartbeats 8000000 in
theorem slRepeat_is (g0 : Nat) (n : Nat) (hn : n = 1 ∨ n = 2 ∨ n = 3) (w : World) (h0 : w.heap[g0]? = some (.cells #[.int .i64 0] 3 (0, 0))) :
    Calls Try.prog 71 #[.slice (some ⟨g0, 0, none⟩) 1 1, .int .i64 n] w (IntsOf (List.replicate n 0) w) := by
  obtain ⟨i0, hi, hz0, hz1, hz2⟩ := info_of info_int
  have hn0 : decide ((n : Int) < 0) = false := decide_eq_false (by omega)
  have hn1 : decide (n = 0) = false := decide_eq_false (by omega)
  have hw0 : IntKind.u64.wrap (n : Int) = (n : Int) := by rcases hn with rfl | rfl | rfl <;> rfl
  have hw1 : IntKind.i64.wrap (n : Int) = (n : Int) := by rcases hn with rfl | rfl | rfl <;> rfl
  have hw2 : decide ((9223372036854775807 : Int) < (n : Int)) = false := decide_eq_false (by omega)
  have CM := hid (fun y => mul_is n hn y)
  have HN := hid hn
  have hn3 : n ≤ 3 := by omega
  have hnp : 1 ≤ n := by omega
  clear hn
  go_enter Try.func71, Try.ntmps71
  go_wp2_with fail
  refine (CM.out _).mono ?_
  rintro e w1 ⟨rfl, rfl⟩
  obtain ⟨w2, hrun, r1, r2⟩ := run_make_full (P := Try.prog) (w := w) w.heap.size 24 3 i0 (.int .i64 0) 1 Try.underlying24 hi hz0 hz1 .i64 .i64 n (by rw [hz2]; omega) (by unfold maxLen; omega) (Nat.le_refl _)
  rw [made_ints] at r1
  have hrow : w2.heap[w.heap.size]? = some (.cells (ints (List.replicate n 0)).toArray 3 (0, 0)) := by
    obtain ⟨q1, q2⟩ := r1
    rcases q2 with ⟨h, -⟩ | ⟨g, cap, cur, h, -, hg, -, -, hs, ht⟩
    · cases h
    · injection h with h1 h2 h3
      injection h1 with h1
      injection h1 with h1
      subst h1
      subst h3
      rw [hg]
      have : cur.toList = ints (List.replicate n 0) := by
        rw [← ht, List.take_of_length_le]
        rw [Array.length_toList]
        omega
      rw [← this]
  have b2 : Below w.heap.size w w2 := (Below.refl w.heap.size w).grown r2 (Nat.le_refl _) (fun _ h => by cases h)
  have hlt0 : g0 < w.heap.size := by
    rcases Nat.lt_or_ge g0 w.heap.size with h | h
    · exact h
    · rw [Array.getElem?_eq_none h] at h0; cases h0
  have h02 : w2.cell? ⟨g0, 0, none⟩ = some (.int .i64 0) := by
    rw [World.cell?_of_block (a := ⟨g0, 0, none⟩) (b2.block g0 hlt0)]
    simp [World.cell?, h0]
  have hl1 : (ints (List.replicate n 0)).length = n := by simp [ints]
  have hm0 : ([Value.int .i64 0] : List Value).length = Nat.min 1 n := by rcases HN.out with rfl | rfl | rfl <;> rfl
  have hp0 : ∀ j v, ([Value.int .i64 0] : List Value)[j]? = some v → w2.cell? ((⟨g0, 0, none⟩ : Addr).add j) = some v := fun j v hj => by
    cases j with
    | zero => simp at hj; rw [← hj]; exact h02
    | succ j => simp at hj
  have hp1 : 0 + ([Value.int .i64 0] : List Value).length ≤ (ints (List.replicate n 0)).length := by rw [hl1]; simp; omega
  have hp2 : ∀ v ∈ ([Value.int .i64 0] : List Value), v.oneCell' = true := fun v hv => by simp at hv; rw [hv]; rfl
  have HA := hid hm0
  have HB := hid hp0
  have HC := hid hp1
  have HD := hid hp2
  clear hm0 hp0 hp1 hp2
  have hcp := run_copy_row (P := Try.prog) w2 24 24 3 3 w.heap.size 0 n n ⟨g0, 0, none⟩ 1 1 (ints (List.replicate n 0)).toArray 3 [.int .i64 0] Try.underlying24 info_int1 hrow HA.out HB.out (by simpa using HC.out) HD.out
  have hsp0 : (List.take 0 (ints (List.replicate n 0)).toArray.toList ++ [Value.int .i64 0] ++ List.drop (0 + ([Value.int .i64 0] : List Value).length) (ints (List.replicate n 0)).toArray.toList).toArray = (ints (List.replicate n 0)).toArray := by rcases HN.out with rfl | rfl | rfl <;> rfl
  rw [hsp0] at hcp
  replace hcp : (Builtin.copy_ #[24, 24] 3 #[.slice (some ⟨w.heap.size, 0, none⟩) n n, .slice (some ⟨g0, 0, none⟩) 1 1]).run Try.prog w2 = .ok (goInt 1) (w2.setRow w.heap.size (ints (List.replicate n 0)).toArray) := hcp
  have hB3 := below_setRow b2 (Nat.le_refl _) (ints (List.replicate n 0)).toArray
  have HG : Hid ((w2.setRow w.heap.size (ints (List.replicate n 0)).toArray).heap[w.heap.size]? = some (.cells (ints (List.replicate n 0)).toArray 3 (0, 0))) := setRow_heap w2 _ _ _ _ _ hrow
  obtain ⟨w3, hw3⟩ : ∃ x, w2.setRow w.heap.size (ints (List.replicate n 0)).toArray = x := ⟨_, rfl⟩
  rw [hw3] at HG hB3 hcp
  clear hw3 hsp0 hrow h02 b2 r1 r2 h0 HA HB HC
  go_wp2_with fail
  go_loopw [8] (fun i wr => ∃ k : Nat, 1 ≤ k ∧ k ≤ n ∧ i = .int .i64 k ∧ Hid (wr.heap[w.heap.size]? = some (.cells (ints (List.replicate n 0)).toArray 3 (0, 0))) ∧ Below w.heap.size w wr) (fun i _ => n - (intOf i).toNat)
  case atStart => exact ⟨1, Nat.le_refl _, hnp, rfl, HG, hB3⟩
  case round =>
    clear HG hB3
    obtain ⟨k, hk1, hkn, rfl, HG, hbr⟩ := hrel
    by_cases hlt : k < n
    · have k0 : (0 : Int) ≤ (k : Int) := by omega
      have k1 : (k : Int) ≤ (n : Int) := by omega
      have k2 : (k : Int) < (n : Int) := by omega
      have k3 : ¬ n = k := by omega
      have HWK : Hid (IntKind.i64.wrap ((k : Int) + 1) = (k : Int) + 1) := IntWalk.i64_in _ (by omega)
      have hsp : (List.take k (ints (List.replicate n 0)).toArray.toList ++ [Value.int .i64 0] ++ List.drop (k + ([Value.int .i64 0] : List Value).length) (ints (List.replicate n 0)).toArray.toList).toArray = (ints (List.replicate n 0)).toArray := by
        rcases HN.out with rfl | rfl | rfl
        · omega
        · obtain rfl : k = 1 := by omega
          rfl
        · rcases (show k = 1 ∨ k = 2 by omega) with rfl | rfl <;> rfl
      have hmin : ([Value.int .i64 0] : List Value).length = Nat.min k (n - k) := by
        rcases HN.out with rfl | rfl | rfl
        · omega
        · obtain rfl : k = 1 := by omega
          rfl
        · rcases (show k = 1 ∨ k = 2 by omega) with rfl | rfl <;> rfl
      have hgr := HG.out
      have hc0 : wr.cell? ⟨w.heap.size, 0, none⟩ = some (.int .i64 0) := by
        simp [World.cell?, hgr]
        rcases HN.out with rfl | rfl | rfl <;> rfl
      have HE : Hid (∀ j v, ([Value.int .i64 0] : List Value)[j]? = some v → wr.cell? ((⟨w.heap.size, 0, none⟩ : Addr).add j) = some v) := fun j v hj => by
        cases j with
        | zero => simp at hj; rw [← hj]; exact hc0
        | succ j => simp at hj
      have HF : Hid (k + ([Value.int .i64 0] : List Value).length ≤ (ints (List.replicate n 0)).length) := by
        show _ ≤ _
        rw [hl1]; simp; omega
      have hcp := fun c1 c2 => run_copy_row (P := Try.prog) wr.drew 24 24 3 3 w.heap.size k (n - k) c1 ⟨w.heap.size, 0, none⟩ k c2 (ints (List.replicate n 0)).toArray 3 [.int .i64 0] Try.underlying24 info_int1 hgr hmin HE.out (by simpa using HF.out) HD.out
      rw [hsp] at hcp
      replace hcp : ∀ c1 c2, (Builtin.copy_ #[24, 24] 3 #[.slice (some ⟨w.heap.size, k, none⟩) (n - k) c1, .slice (some ⟨w.heap.size, 0, none⟩) k c2]).run Try.prog wr.drew = .ok (goInt 1) (wr.drew.setRow w.heap.size (ints (List.replicate n 0)).toArray) := hcp
      have hB4 := below_setRow hbr.drew (Nat.le_refl _) (ints (List.replicate n 0)).toArray
      have HG4 : Hid ((wr.drew.setRow w.heap.size (ints (List.replicate n 0)).toArray).heap[w.heap.size]? = some (.cells (ints (List.replicate n 0)).toArray 3 (0, 0))) := setRow_heap wr.drew _ _ _ _ _ hgr
      have CP := hid hcp
      clear hcp hsp hc0 HE HF hgr hmin
      go_wp2_with fail
      go_region_law (refine step_copy_one rfl (.tmp 41) (.tmp 44) 24 24 rfl (.slice (some ⟨w.heap.size, k, none⟩) (n - k) (n - k)) (.slice (some ⟨w.heap.size, 0, none⟩) k n) (by simp [Act.eval, Act.put]) (by simp [Act.eval, Act.put]) (CP.out _ _) ?_)
      go_simp
      go_roundw
      case rel =>
        refine ⟨_, _, _, _, _, _, _, _, _, _, _, _, _, _, ⟨k + 1, by omega, by omega, ?_, HG4, hB4⟩, rfl⟩
        rw [HWK.out]
        go_num
      case measure => rw [HWK.out]; simp [intOf]; omega
    · have hk' : k = n := by omega
      subst hk'
      have O : OwnI wr w.heap.size (.slice (some ⟨w.heap.size, 0, none⟩) k k) (List.replicate k 0) := by
        refine ⟨by simp [ints], .inr ⟨w.heap.size, k, (ints (List.replicate k 0)).toArray, by simp, Nat.le_refl _, HG.out, by simp, by unfold maxLen; omega, by simp [ints], ?_⟩⟩
        rw [List.toList_toArray, List.take_of_length_le (by simp [ints])]
      go_wp2
      go_ret
      exact IntsOf.mk_ O hbr
end Go.Proofs.Ytelmeknpmlbplaa
