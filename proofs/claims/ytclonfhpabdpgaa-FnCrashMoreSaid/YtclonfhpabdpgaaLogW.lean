/-
  What a crash answers, and the records of a disk, told by their values.
-/
import Derived.Test.YtclonfhpabdpgaaLogV
import Derived.Test.YtclonfhpabdpgaaLogM
namespace Go.Proofs.Ytclonfhpabdpgaa
open Go.RowKit Wo Pu Lg

theorem crO_eq {s t : ByteArray} {y k z : Int} (hA : crO s y k = .agg #[.string t, .int .i64 z]) (h : Vd s y) (hk : 0 ≤ k) :
    ∃ n u : Nat, crN s y k = n ∧ n ≤ s.size ∧ u ≤ n ∧ used (bl (s.extract 0 n)) = u ∧ t = s.extract 0 u ∧ z = (u : Nat) := by
  obtain ⟨n, u, h1, h2, h3, h4, h5⟩ := crO_is h hk
  rw [h5] at hA
  injection hA with hA
  refine ⟨n, u, h1, h2, h3, h4, ?_, ?_⟩
  · have := congrArg (fun a : Array Value => a[0]?) hA
    simp at this
    exact this.symm
  · have := congrArg (fun a : Array Value => a[1]?) hA
    simp at this
    exact this.symm
/-- The texts ts, in a slice. -/
def RecIs (ts : List ByteArray) (w : World) (e : Ending) (w' : World) : Prop := ∃ A c, e = .returned (.slice A ts.length c) ∧ Row w' w'.heap.size A (txts ts) ∧ ts.length ≤ c ∧ Below w.heap.size w w'
theorem recordsOf_is (s : ByteArray) (y : Int) (ts : List ByteArray) (w : World) (hs : s.size ≤ 1048576) (h1 : texts (bl s) = ts) : Calls Try.prog 31 #[.agg #[.string s, .int .i64 y]] w (RecIs ts w) := by
  subst h1
  refine (recordsOf_laws s y w hs).mono ?_
  rintro e w' ⟨v, rfl, ho, hb⟩
  obtain ⟨A, c, rfl, hr, hc⟩ := ho.form2
  exact ⟨A, c, rfl, hr, hc, hb⟩
end Go.Proofs.Ytclonfhpabdpgaa
