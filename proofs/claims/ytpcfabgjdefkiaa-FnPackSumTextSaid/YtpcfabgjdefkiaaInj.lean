/-
  Plain facts: ids of different objects of one shape are different.
-/
import Derived.Test.YtpcfabgjdefkiaaPure
namespace Go.Proofs.Ytpcfabgjdefkiaa
namespace Pu

theorem inv613 {d : Int} (h : (613 * d) % 991 = 0) : d % 991 = 0 := by
  obtain ⟨t, ht⟩ : ∃ t, 613 * d = 991 * t := ⟨613 * d / 991, by omega⟩
  have : d = 991 * (97 * t - 60 * d) := by omega
  omega
theorem inv257 {d : Int} (h : (257 * d) % 991 = 0) : d % 991 = 0 := by
  obtain ⟨t, ht⟩ : ∃ t, 257 * d = 991 * t := ⟨257 * d / 991, by omega⟩
  have : d = 991 * (509 * t - 132 * d) := by omega
  omega
theorem mixL_inj {zs : List Int} : ∀ {n m : Int}, mixL n zs = mixL m zs → (n - m) % 991 = 0 := by
  induction zs with
  | nil =>
    intro n m h
    have : n = m := h
    omega
  | cons x xs ih =>
    intro n m h
    have h1 := ih h
    apply inv613
    omega
theorem mixT_inj {bs : List UInt8} : ∀ {n m : Int}, mixT n bs = mixT m bs → (n - m) % 991 = 0 := by
  induction bs with
  | nil =>
    intro n m h
    have : n = m := h
    omega
  | cons x xs ih =>
    intro n m h
    have h1 := ih h
    apply inv257
    omega
theorem mixL_append (n : Int) (p q : List Int) : mixL n (p ++ q) = mixL (mixL n p) q := by
  induction p generalizing n with
  | nil => rfl
  | cons x xs ih => exact ih _
theorem mixT_append (n : Int) (p q : List UInt8) : mixT n (p ++ q) = mixT (mixT n p) q := by
  induction p generalizing n with
  | nil => rfl
  | cons x xs ih => exact ih _

/-- A tree with links, made a commit, has another id. -/
theorem kind_ne {zs : List Int} {bs : List UInt8} (h : zs.length ≤ 4) : idOf 3 zs bs ≠ idOf 2 zs bs := by
  intro e
  have h1 := mixT_inj (show mixT (mixL (100 * 3 + zs.length) zs) bs = mixT (mixL (100 * 2 + zs.length) zs) bs from e)
  obtain ⟨a, b⟩ := mixL_range (n := 100 * 3 + zs.length) (zs := zs) (by omega) (by omega)
  obtain ⟨c, d⟩ := mixL_range (n := 100 * 2 + zs.length) (zs := zs) (by omega) (by omega)
  have h2 := mixL_inj (show mixL (100 * 3 + zs.length) zs = mixL (100 * 2 + zs.length) zs by omega)
  omega
theorem kind_vld {zs : List Int} {m : Nat} (h : vldB 2 zs m = true) (hz : 0 < zs.length) : vldB 3 zs m = true := by
  simp only [vldB, Bool.and_eq_true, decide_eq_true_eq] at h ⊢
  refine ⟨h.1, h.2.1, h.2.2.1, ?_⟩
  simpa [kindB] using hz

/-- A changed byte changes the id. -/
theorem text_ne {kd : Int} {zs : List Int} {p t : List UInt8} {b b' : UInt8} (h : b ≠ b') : idOf kd zs (p ++ b' :: t) ≠ idOf kd zs (p ++ b :: t) := by
  intro e
  unfold idOf at e
  rw [mixT_append, mixT_append] at e
  have h1 := mixT_inj (show mixT ((mixT (mixL (100 * kd + zs.length) zs) p * 257 + (b'.toNat : Int) + 1) % 991) t = mixT ((mixT (mixL (100 * kd + zs.length) zs) p * 257 + (b.toNat : Int) + 1) % 991) t from e)
  have e1 := b.toNat_lt
  have e2 := b'.toNat_lt
  have : b.toNat = b'.toNat := by omega
  exact h (UInt8.toNat_inj.1 this)
theorem text_vld {kd : Int} {zs : List Int} {p t : List UInt8} {b b' : UInt8} : vldB kd zs (p ++ b' :: t).length = vldB kd zs (p ++ b :: t).length := by simp

/-- A changed last link changes the id. -/
theorem link_ne {kd : Int} {p : List Int} {x y : Int} {bs : List UInt8} (h : x < y) (h2 : y < x + 991) : idOf kd (p ++ [y]) bs ≠ idOf kd (p ++ [x]) bs := by
  intro e
  have h1 := mixT_inj (show mixT (mixL (100 * kd + (p ++ [y]).length) (p ++ [y])) bs = mixT (mixL (100 * kd + (p ++ [x]).length) (p ++ [x])) bs from e)
  have el : ((p ++ [y]).length : Int) = ((p ++ [x]).length : Int) := by simp
  rw [el, mixL_append, mixL_append] at h1
  simp only [mixL] at h1
  omega
theorem last_split {zs : List Int} {n : Nat} (hn : n + 1 = zs.length) : zs = zs.take n ++ [zs[n]'(by omega)] := by
  have h : zs.take (n + 1) = zs.take n ++ [zs[n]'(by omega)] := List.take_succ_eq_append_getElem (by omega)
  rwa [hn, List.take_length] at h
theorem last_set {zs : List Int} {n : Nat} (hn : n + 1 = zs.length) (y : Int) : zs.set n y = zs.take n ++ [y] := by
  apply List.ext_getElem
  · simp; omega
  · intro i h1 h2
    rw [List.getElem_set]
    split
    · rename_i e
      subst e
      rw [List.getElem_append_right (by simp; omega)]
      simp
    · rename_i e
      simp at h1
      rw [List.getElem_append_left (by simp; omega)]
      simp
theorem oid_link_ne {kd : Int} {zs : List Int} {bs : List UInt8} {n : Nat} (hn : n + 1 = zs.length) (h : vldB kd zs bs.length = true) {y : Int} (h1 : zs[n]'(by omega) < y) (h2 : y < zs[n]'(by omega) + 991) : oid kd (zs.set n y) bs ≠ oid kd zs bs := by
  have e1 : oid kd zs bs = idOf kd zs bs := if_pos h
  have hr := idOf_range h
  rw [e1]
  by_cases hv : vldB kd (zs.set n y) bs.length = true
  · have e2 : oid kd (zs.set n y) bs = idOf kd (zs.set n y) bs := if_pos hv
    rw [e2, last_set hn]
    have hx := link_ne (kd := kd) (p := zs.take n) (bs := bs) h1 h2
    rw [← last_split hn] at hx
    exact hx
  · have e2 : oid kd (zs.set n y) bs = -1 := if_neg hv
    rw [e2]
    omega
end Pu
end Go.Proofs.Ytpcfabgjdefkiaa
