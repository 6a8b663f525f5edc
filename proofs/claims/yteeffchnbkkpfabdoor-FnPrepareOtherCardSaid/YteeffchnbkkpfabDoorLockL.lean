/-
  What the row's listed error values give the walks.
-/
import Derived.Test.YteeffchnbkkpfabDoorRows
import Derived.Test.YteeffchnbkkpfabDoorLockE
import Derived.MakeChecks
import Derived.LaidLaws
import Derived.Stop.LaidTwo
namespace Go.Proofs.YteeffchnbkkpfabDoor
theorem lk_gI : Tryd.prog.globalNamed "loop.example/atomicpush/impl.errLocksInvalid" = some 1 := by kernel_rfl
theorem lk_gR : Tryd.prog.globalNamed "loop.example/atomicpush/impl.errRefLocked" = some 0 := by kernel_rfl
theorem lk_gIT : (Tryd.prog.globals[1]?).map (·.type) = some 137 := by kernel_rfl
theorem lk_gRT : (Tryd.prog.globals[0]?).map (·.type) = some 137 := by kernel_rfl
theorem lk_cells1 : Tryd.prog.cellsOf 182 = 1 := by kernel_rfl
theorem lk_cells2 : Tryd.prog.cellsOf 9 = 1 := by kernel_rfl
theorem lk_star : "*" ++ "errors.errorString" = "*errors.errorString" := by decide
theorem lk_row (u : TypeId) (h : Tryd.prog.typeName? 3 u = some "*errors.errorString") : u = 157 :=
  typeName_ptr_named (nm := "errors.errorString") (by rw [lk_star]; kernel_rfl) (by kernel_rfl) (by decide) u (by rw [lk_star]; exact h)
def laidErrs : List (String × DataW Unit) := [("loop.example/atomicpush/impl.errLocksInvalid", Rows.laid_loop_example_atomicpush_impl_errLocksInvalid), ("loop.example/atomicpush/impl.errRefLocked", Rows.laid_loop_example_atomicpush_impl_errRefLocked)]
theorem errs_of_laid {W : World} (h : laidMetH Tryd.prog laidErrs W) : ∃ a0 a1, Errs a0 a1 W := by
  rw [MakeChecks.laidMetH_plain _ _ _ (by kernel_rfl)] at h
  obtain ⟨x0, x1, s0, s1, c0, c1, t0, t1, hv0, hv1, -, -, -, -, -, -, hne, hb0, hb1⟩ := laid_sentinels2 h lk_gI lk_gIT lk_gR lk_gRT Tryd.underlying137 lk_row Tryd.underlying157 Tryd.underlying182 rfl rfl Tryd.underlying9 lk_cells1 lk_cells2
  exact ⟨x1, x0, by simpa using World.var?_cell lk_gR hv1 0, by simpa using World.var?_cell lk_gI hv0 0, hne.symm, ⟨c1, t1, hb1⟩, ⟨c0, t0, hb0⟩⟩
end Go.Proofs.YteeffchnbkkpfabDoor
