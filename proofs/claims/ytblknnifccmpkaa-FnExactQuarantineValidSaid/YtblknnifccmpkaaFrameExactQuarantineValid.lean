/- For all arguments, QuarantineValid of the program returns what the model says, shares no memory with its arguments and leaves them as they were. No condition. -/
import Derived.Test.YtblknnifccmpkaaRows
import Derived.Test.YtblknnifccmpkaaOpenQ
import Derived.WalkKit
import Derived.ProofKit
import Derived.OpenShut
import Derived.ShutString
import Derived.ChangeOld
import Derived.Below
import Derived.Test.YtblknnifccmpkaaJoin
import Derived.Test.YtblknnifccmpkaaLawEQu1
namespace Go.Proofs.Ytblknnifccmpkaa
open Go.ChangeShapes Go.WideShapes Go.ChangeAt Go.RowKit
set_option maxRecDepth 100000 in
set_option maxHeartbeats 4000000 in
theorem fnExactQuarantineValid_lifted (os : Os) (started : os.Started) (H : Type) (enc : TypeId × Value → H) :
    ReturnsInHanded {} Try.checked os 13 .any (Rows.fnExactQuarantineValidSpec.pre6 enc Try.prog Try.f13 Rows.fnExactQuarantineValidRow.domain false) (Rows.fnExactQuarantineValidSpec.post enc Try.prog Try.f13 false true false false) := by
  refine returnsInHanded_of_change (C := Try.checked) own started (by kernel_rfl) Try.func13
    (ChangeSpec.witness6 (enc := enc) (C := Try.checked) false ⟨#[], #[.agg #[.slice none 0 0, .slice none 0 0]], []⟩ 8 (by kernel_rfl) (by kernel_rfl) (by kernel_rfl) (by kernel_rfl)) ?_
  intro W base args ds gs before hval0 hW _ _
  have hval : ∀ (j : Nat) t v, Try.f13.params[j]? = some t → args[j]? = some v → Value.okWide Try.prog W .any base t v := hval0
  have hW' := hW
  obtain ⟨p, q, hA0, hV, rfl, _, _⟩ := hW
  have hA : DataW.TrodAll enc Try.prog W 0 (fun _ => true) true Try.f13.params.toList args.toList ds p := hA0
  rw [Try.params13] at hA hval
  obtain ⟨v0, vs0, d0, ds0, p0, q0, hargs, rfl, rfl, h0, r0⟩ := trodAll_cons hA
  obtain ⟨rfl, rfl, rfl⟩ := trodAll_nil r0
  obtain rfl : args = #[v0] := by cases args; simp_all
  obtain ⟨rfl, rfl⟩ := trodVars_none hV
  have k0 := h0
  have lt0 : ∀ x ∈ p0, x.block < W.heap.size := by obtain ⟨m, hm⟩ := k0; exact DataW.trod_lt m _ _ _ hm
  obtain ⟨qq0, f0a, f0b⟩ := open_quar (hval 0 58 v0 rfl rfl) h0
  clear hA0 hval0
  refine (exactQuarantineValid_any v0 qq0 W f0a f0b).mono fun e W' ⟨he, bel⟩ => ?_
  subst he
  exact ⟨_, rfl, _, _, _, [], _, [], hW', trodAll_mk1 (shut_bool Try.underlying4 _), (trodAll_cons_mk (Below.trod laidOut (by kernel_rfl) (of_decide_eq_true (by kernel_rfl)) k0 bel lt0) trodAll_mk0), rfl, bel.frame _, fun h => by cases h⟩

set_option maxRecDepth 100000 in
set_option maxHeartbeats 4000000 in
theorem fnExactQuarantineValid_closed : joinedFacts Try.pinned.checked.prog 13 Try.f13 Rows.fnExactQuarantineValidSpec Rows.fnExactQuarantineValidRow = true := by
  unfold joinedFacts
  repeat' with_reducible refine Bool.and_eq_true_iff.mpr ⟨?_, ?_⟩
  all_goals first | with_reducible exact pw_enter | (rw [pw_final]; first | done | rfl) | (rw [pw_make]; first | done | rfl) | (as_aux_lemma => kernel_rfl)
theorem fnExactQuarantineValid_over : Rows.fnExactQuarantineValidRow.holds Try.pinned (OpenSpec.ofChange Rows.fnExactQuarantineValidSpec) :=
  OpenClaim.holds_of_wide 13 Try.f13 rfl rfl rfl rfl rfl rfl rfl ⟨rfl, rfl, rfl, rfl, rfl⟩ rfl rfl rfl rfl rfl (by kernel_rfl) Try.func13 fnExactQuarantineValid_closed
    (of_decide_eq_true (by kernel_rfl)) (by unfold Func.isWrapper; first | (rw [if_pos (by decide +kernel)]; kernel_rfl) | (rw [if_neg (by decide +kernel)]; exact ⟨rfl, rfl⟩))
    (fun os started H enc _ => fnExactQuarantineValid_lifted os started H enc)
/-- The statement. -/
theorem fnExactQuarantineValid_holds : Rows.FnExactQuarantineValidSaid := fnExactQuarantineValid_over
end Go.Proofs.Ytblknnifccmpkaa
