/-
  What the frames of this seat ask of the whole program: reckoned once.
-/
import Derived.Test.YtblknnifccmpkaaRows
import Derived.JoinedOf
namespace Go.Proofs.Ytblknnifccmpkaa
open Go
theorem own : ownKnob Try.prog.godebug = none := by kernel_rfl
theorem laidOut : laidOutB Try.prog = true := by kernel_rfl
theorem pw_all : (Try.pinned.checked.prog.mayEnter && !Try.pinned.checked.prog.liftsFinal && Try.pinned.checked.prog.make == some .cut) = true := by kernel_rfl
theorem pw_enter : Try.pinned.checked.prog.mayEnter = true := (Bool.and_eq_true_iff.1 (Bool.and_eq_true_iff.1 pw_all).1).1
theorem pw_final : Try.pinned.checked.prog.liftsFinal = false := by
  have h := (Bool.and_eq_true_iff.1 (Bool.and_eq_true_iff.1 pw_all).1).2
  rwa [Bool.not_eq_true'] at h
theorem pw_make : Try.pinned.checked.prog.make = some .cut := eq_of_beq (Bool.and_eq_true_iff.1 pw_all).2
theorem pw_final_ {b : Bool} (h : b = false) : (b == Try.pinned.checked.prog.liftsFinal) = true := by rw [pw_final, h]; rfl
theorem pw_make_ {m : Make} (h : m = .cut) : (Try.pinned.checked.prog.make == some m) = true := by rw [pw_make, h]; rfl
end Go.Proofs.Ytblknnifccmpkaa
