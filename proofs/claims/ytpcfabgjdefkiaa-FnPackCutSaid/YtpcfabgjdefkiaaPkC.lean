/-
  Walks: the objects that the draws make for a pack; what holds of a made pack.
-/
import Derived.Test.YtpcfabgjdefkiaaMakeP
import Derived.Test.YtpcfabgjdefkiaaMakeQ
import Derived.Test.YtpcfabgjdefkiaaPackL
import Derived.Test.YtpcfabgjdefkiaaSamePk
namespace Go.Proofs.Ytpcfabgjdefkiaa
open Go.RowKit Wo Pu

def PkDrawn (w : World) (e : Ending) (w' : World) : Prop :=
  ∃ A c list, e = .returned (.slice A (List.length list) c) ∧ Objs w' w'.heap.size A list ∧ list.length ≤ c ∧ list.length ≤ 17 ∧ Mild list ∧ Below w.heap.size w w'
theorem DrawPackMake_any (A : Option Addr) (c : Nat) (bs : List Int) (w : World) (h : Code_ w A c bs) :
    Calls Try.prog 19 #[.slice A bs.length c] w (PkDrawn w) := by
  go_enter Try.func19, Try.ntmps19
  go_wp2_with fail
  refine (l6Open_any A c bs _ h).mono ?_
  rintro e w1 ⟨rfl, R1, b1⟩
  go_wp2_with fail
  refine (l91List_any w.heap.size 0 w1 R1 (by omega)).mono ?_
  rintro e w2 ⟨v, os, rfl, h2, hl, hm, R2, T2⟩
  have b2 := b1.trans (T2.below b1.size (Nat.le_refl _))
  obtain ⟨A3, c3, rfl, ho2, hc3⟩ := h2.form3
  go_wp2
  go_ret
  exact ⟨A3, c3, os, rfl, ho2, hc3, hl, hm, b2⟩

theorem Mild.fit {os : List Ob} (h : Mild os) : Fit os := fun o ho => by
  have := h o ho
  unfold maxLen
  omega
theorem packM_get {list : List Ob} {i : Nat} (hi : i < (packM list).length) : ∃ hl : i < list.length, makeB list = true ∧ (packM list)[i] = mkE (ents list i) list (list[i]'hl) := by
  cases hm : makeB list
  · rw [packM_no hm] at hi; exact absurd hi (by simp)
  · have hl : i < list.length := by rw [packM_yes hm, ents_length (Nat.le_refl _)] at hi; exact hi
    refine ⟨hl, rfl, ?_⟩
    have h1 := ents_get (list := list) (i := i) (n := list.length) (Nat.le_refl _) hl
    simp only [packM_yes hm]
    exact h1
theorem packM_at {list : List Ob} {es : List Ent} (h : packM list = es) {i : Nat} (hi : i < es.length) : ∃ hl : i < list.length, makeB list = true ∧ es[i] = mkE (ents list i) list (list[i]'hl) := by
  subst h
  exact packM_get hi
theorem packM_len {list : List Ob} (h : makeB list = true) : (packM list).length = list.length := by rw [packM_yes h, ents_length (Nat.le_refl _)]
theorem packM_fit (list : List Ob) : FitE (packM list) := fun e he => by
  obtain ⟨i, hi, rfl⟩ := List.mem_iff_getElem.1 he
  obtain ⟨hl, hm, hg⟩ := packM_get hi
  rw [hg]
  have hv := (makeB_iff.1 hm).2 _ (List.getElem_mem hl)
  have h16 := (makeB_iff.1 hm).1
  have h2 := (vldB_parts hv).2.1
  have h3 := (make_few (txtOf list (bestF (ents list i) list list[i].s (ents list i).length).1) list[i].s).1
  have h4 := best_lt (ents list i) list list[i].s (ents list i).length
  rw [ents_length (list := list) (k := i) (by omega)] at h4
  refine ⟨by show list[i].zs.length ≤ _; omega, ?_, fun o ho => ?_, tsz_make _ _, ?_, ?_⟩
  · exact Nat.le_trans h3 (by decide)
  · have := make_fits _ _ o ho
    omega
  · show _ ≤ (bestF (ents list i) list list[i].s (ents list i).length).1
    rw [ents_length (list := list) (k := i) (by omega)]
    omega
  · show (bestF (ents list i) list list[i].s (ents list i).length).1 ≤ _
    rw [ents_length (list := list) (k := i) (by omega)]
    omega
theorem packM_few (list : List Ob) : ∀ e ∈ packM list, e.zs.length ≤ 1048576 ∧ e.ops.length ≤ 1048576 := fun e he => ⟨(packM_fit list e he).1, (packM_fit list e he).2.1⟩
theorem implObjectValid_val (v : Bool) (B : Nat) (A : Option Addr) (c : Nat) (o : Ob) (w : World) (hv : vOb o = v) (hr : Row w B A (ints o.zs)) (hB : B ≤ w.heap.size) (hm : o.zs.length ≤ maxLen) (hs : o.s.size ≤ maxLen) :
    Calls Try.prog 28 #[ob o.kd A o.zs.length c o.s] w (Ret (.bool v) w) := by
  subst hv
  exact implObjectValid_any B A c o.kd o.zs o.s w hr hB hm hs
end Go.Proofs.Ytpcfabgjdefkiaa
