/-
  Plain facts on objects: lists of links, texts, ids. No program is named here.
-/
import Derived.Below
namespace Go.Proofs.Ytnojhfidljipoaa
namespace Pu

def ascB (lo : Int) : List Int → Bool
  | [] => true
  | x :: xs => decide (lo < x) && (decide (x < 991) && ascB x xs)

def kindB (k : Int) (n m : Nat) : Bool :=
  if k = 1 then decide (n = 0) else if k = 2 then decide (m = 0) else if k = 3 then decide (0 < n) else false

def vldB (k : Int) (zs : List Int) (m : Nat) : Bool := ascB (-1) zs && (decide (zs.length ≤ 4) && (decide (m ≤ 8) && kindB k zs.length m))

def mixL (n : Int) : List Int → Int
  | [] => n
  | x :: xs => mixL ((n * 613 + x + 1) % 991) xs
def mixT (n : Int) : List UInt8 → Int
  | [] => n
  | b :: bs => mixT ((n * 257 + (b.toNat : Int) + 1) % 991) bs
def idOf (k : Int) (zs : List Int) (bs : List UInt8) : Int := mixT (mixL (100 * k + zs.length) zs) bs
def oid (k : Int) (zs : List Int) (bs : List UInt8) : Int := if vldB k zs bs.length = true then idOf k zs bs else -1

theorem ascB_range {lo : Int} {zs : List Int} (h : ascB lo zs = true) : ∀ x ∈ zs, lo < x ∧ x < 991 := by
  induction zs generalizing lo with
  | nil => intro x hx; cases hx
  | cons a as ih =>
    simp only [ascB, Bool.and_eq_true, decide_eq_true_eq] at h
    intro x hx
    rcases List.mem_cons.1 hx with rfl | hx
    · exact ⟨h.1, h.2.1⟩
    · have := ih h.2.2 x hx
      exact ⟨by omega, this.2⟩

theorem mixL_range {n : Int} {zs : List Int} (h0 : 0 ≤ n) (h1 : n < 991) : 0 ≤ mixL n zs ∧ mixL n zs < 991 := by
  induction zs generalizing n with
  | nil => exact ⟨h0, h1⟩
  | cons a as ih => exact ih (by omega) (by omega)
theorem mixT_range {n : Int} {bs : List UInt8} (h0 : 0 ≤ n) (h1 : n < 991) : 0 ≤ mixT n bs ∧ mixT n bs < 991 := by
  induction bs generalizing n with
  | nil => exact ⟨h0, h1⟩
  | cons a as ih => exact ih (by omega) (by omega)

theorem vldB_parts {k : Int} {zs : List Int} {m : Nat} (h : vldB k zs m = true) : ascB (-1) zs = true ∧ zs.length ≤ 4 ∧ m ≤ 8 ∧ 1 ≤ k ∧ k ≤ 3 := by
  simp only [vldB, Bool.and_eq_true, decide_eq_true_eq] at h
  obtain ⟨h1, h2, h3, h4⟩ := h
  refine ⟨h1, h2, h3, ?_⟩
  unfold kindB at h4
  by_cases e1 : k = 1
  · omega
  by_cases e2 : k = 2
  · omega
  by_cases e3 : k = 3
  · omega
  · simp [e1, e2, e3] at h4

theorem idOf_range {k : Int} {zs : List Int} {bs : List UInt8} (h : vldB k zs bs.length = true) : 0 ≤ idOf k zs bs ∧ idOf k zs bs < 991 := by
  obtain ⟨_, h2, _, h4, h5⟩ := vldB_parts h
  obtain ⟨a, b⟩ := mixL_range (n := 100 * k + zs.length) (zs := zs) (by omega) (by omega)
  exact mixT_range a b

theorem oid_range (k : Int) (zs : List Int) (bs : List UInt8) : -1 ≤ oid k zs bs ∧ oid k zs bs < 991 := by
  unfold oid
  split
  · rename_i h; have := idOf_range h; omega
  · omega
theorem oid_valid {k : Int} {zs : List Int} {bs : List UInt8} : (0 ≤ oid k zs bs) ↔ vldB k zs bs.length = true := by
  unfold oid
  split
  · rename_i h; have := idOf_range h; exact ⟨fun _ => h, fun _ => this.1⟩
  · rename_i h; exact ⟨fun e => by omega, fun e => absurd e h⟩

theorem ascB_drop {lo : Int} {zs : List Int} {k : Nat} (hk : k < zs.length) : ascB lo (zs.drop k) = (decide (lo < zs[k]) && (decide (zs[k] < 991) && ascB zs[k] (zs.drop (k + 1)))) := by
  rw [List.drop_eq_getElem_cons hk]; rfl
theorem mixL_drop {n : Int} {zs : List Int} {k : Nat} (hk : k < zs.length) : mixL n (zs.drop k) = mixL ((n * 613 + zs[k] + 1) % 991) (zs.drop (k + 1)) := by
  rw [List.drop_eq_getElem_cons hk]; rfl
theorem mixT_drop {n : Int} {bs : List UInt8} {k : Nat} (hk : k < bs.length) : mixT n (bs.drop k) = mixT ((n * 257 + (bs[k].toNat : Int) + 1) % 991) (bs.drop (k + 1)) := by
  rw [List.drop_eq_getElem_cons hk]; rfl
end Pu
end Go.Proofs.Ytnojhfidljipoaa
