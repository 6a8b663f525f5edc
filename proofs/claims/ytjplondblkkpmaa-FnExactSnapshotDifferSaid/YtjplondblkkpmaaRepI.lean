/-
  Walks: whether a list has a number; a list of zeros, repeated.
-/
import Derived.Test.YtjplondblkkpmaaG0C
import Derived.Laws.CopyOwn
import Derived.Deep.Cut
namespace Go.Proofs.Ytjplondblkkpmaa
open Go.RowKit Wo Pu Rf Co

/-- Where a number is first. -/
def AtI (zs : List Int) (x z : Int) : Prop := (∃ (k : Nat) (h : k < zs.length), z = (k : Int) ∧ zs[k] = x) ∨ (z = -1 ∧ x ∉ zs)
def NaTo (zs : List Int) (x : Int) (k : Nat) : Prop := ∀ j (h : j < zs.length), j < k → zs[j] ≠ x
theorem NaTo.zero (zs : List Int) (x : Int) : NaTo zs x 0 := fun _ _ h => absurd h (Nat.not_lt_zero _)
theorem NaTo.next {zs : List Int} {x : Int} {k : Nat} (h : NaTo zs x k) (hk : k < zs.length) (hv : zs[k] ≠ x) : NaTo zs x (k + 1) := fun i hi hl => by
  by_cases e : i = k
  · subst e; exact hv
  · exact h i hi (by omega)
theorem NaTo.all {zs : List Int} {x : Int} (h : NaTo zs x zs.length) : x ∉ zs := fun hm => by
  obtain ⟨j, hj, e⟩ := List.mem_iff_getElem.1 hm
  exact h j hj hj e
/-- Behind it: an index. -/
def AtO (zs : List Int) (x : Int) (w : World) (e : Ending) (w' : World) : Prop := ∃ z, e = .returned (.int .i64 z) ∧ AtI zs x z ∧ w' = w
set_option maxHeartbeats 4000000 in
theorem slIndex_is (A : Option Addr) (c : Nat) (zs : List Int) (x : Int) (w : World) (B : Nat) (hr : Row w B A (ints zs)) (hm : zs.length ≤ 1048600) :
    Calls Try.prog 44 #[.slice A zs.length c, .int .i64 x] w (AtO zs x w) := by
  go_enter Try.func44, Try.ntmps44
  go_wp2_with fail
  go_loopw [8] (fun i wr => ∃ k : Nat, k ≤ zs.length ∧ i = .int .i64 k ∧ Hid (NaTo zs x k) ∧ wr = w) (fun i _ => zs.length - (intOf i).toNat)
  case atStart => exact ⟨0, Nat.zero_le _, rfl, .zero _ _, rfl⟩
  case round =>
    obtain ⟨k, hk, rfl, H, rfl⟩ := hrel
    by_cases hlt : k < zs.length
    · obtain ⟨ad, rfl, hbl, hcell⟩ := hr.int_ hlt
      have k0 : (0 : Int) ≤ (k : Int) := by omega
      have k1 : (k : Int) < (zs.length : Int) := by omega
      obtain ⟨y, hy⟩ : ∃ y, zs[k] = y := ⟨_, rfl⟩
      rw [hy] at hcell
      by_cases hxy : x = y
      · have e0 : (x == y) = true := beq_iff_eq.2 hxy
        have HF := hid (show AtI zs x (k : Int) from .inl ⟨k, hlt, rfl, by rw [hy]; exact hxy.symm⟩)
        clear hxy hy
        go_wp2
        go_ret
        exact ⟨_, rfl, HF.out, rfl⟩
      · have e0 : (x == y) = false := beq_eq_false_iff_ne.2 hxy
        have HN := hid (H.out.next hlt (by rw [hy]; exact fun e => hxy e.symm))
        clear hxy hy
        go_wp2
        go_roundw
        case rel => exact ⟨k + 1, by omega, by go_num, HN, trivial⟩
        case measure => simp [intOf]; omega
    · have hk' : k = zs.length := by omega
      subst hk'
      have HF := hid (show AtI zs x (-1) from .inr ⟨rfl, H.out.all⟩)
      go_wp2
      go_ret
      exact ⟨_, rfl, HF.out, rfl⟩

theorem info_int1 : (Try.prog.info? 3).map (·.size) = some 1 := by kernel_rfl
theorem step_copy_one {P : Program} {ops : Array Oper} {o : Oper} {a : Act} {w : World} {K : Act → World → Prop} {Q : Exit → Act → World → Prop} {E : Prop}
    (hg : o.guard = none) (d x : Operand) (dT sT : TypeId) (hop : o.op = Op.call { callee := Callee.builtin Builtin.copy, args := #[d, x], argTypes := #[dT, sT] })
    (v u : Value) (hd : a.eval d = v) (hx : a.eval x = u) {v' : Value} {w' : World} (hr : (Builtin.copy_ #[dT, sT] o.type #[v, u]).run P w = .ok v' w') (hK : K (a.put o.dst v') w') :
    if Region.wanted o (yielded ops a.tmps) = true then Oper.wp P o a w K Q else E := by
  have hw : Region.wanted o (yielded ops a.tmps) = true := by simp [Region.wanted, hg]
  rw [if_pos hw]
  unfold Oper.wp
  simp [execOp, hop, resolve, invoke, builtin, hd, hx, hr, Result.andThen]
  exact hK
end Go.Proofs.Ytjplondblkkpmaa
