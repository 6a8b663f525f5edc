/-
  Plain facts on logs: frames, and what is read of bytes. No program is named here.
-/
import Derived.Below
import Derived.Test.YtclonfhpabdpgaaDPure
namespace Go.Proofs.Ytclonfhpabdpgaa
namespace Lg
open Pu

/-- The check of a record, from n on. -/
def chkL (n : Int) : List UInt8 → Int
  | [] => n
  | b :: bs => chkL ((n * 29 + (b.toNat : Int) + 1) % 251) bs
def chk (r : List UInt8) : Int := chkL (7 + 3 * (r.length : Int)) r
theorem chkL_nil (n : Int) : chkL n [] = n := rfl
theorem chkL_cons (n : Int) (b : UInt8) (bs : List UInt8) : chkL n (b :: bs) = chkL ((n * 29 + (b.toNat : Int) + 1) % 251) bs := rfl
theorem chkL_append (n : Int) (r t : List UInt8) : chkL n (r ++ t) = chkL (chkL n r) t := by
  induction r generalizing n with
  | nil => rfl
  | cons b bs ih => exact ih _
theorem chkL_drop {n : Int} {bs : List UInt8} {k : Nat} (hk : k < bs.length) : chkL n (bs.drop k) = chkL ((n * 29 + (bs[k].toNat : Int) + 1) % 251) (bs.drop (k + 1)) := by
  rw [List.drop_eq_getElem_cons hk]; rfl
theorem chkL_range {n : Int} {bs : List UInt8} (h0 : 0 ≤ n) (h1 : n < 251) : 0 ≤ chkL n bs ∧ chkL n bs < 251 := by
  induction bs generalizing n with
  | nil => exact ⟨h0, h1⟩
  | cons b bs ih => exact ih (by omega) (by omega)
theorem chk_range {r : List UInt8} (h : r.length ≤ 12) : 0 ≤ chk r ∧ chk r < 251 := chkL_range (by omega) (by omega)

theorem chkL_inj {n m : Int} (bs : List UInt8) (hn : 0 ≤ n ∧ n < 251) (hm : 0 ≤ m ∧ m < 251) (h : chkL n bs = chkL m bs) : n = m := by
  induction bs generalizing n m with
  | nil => exact h
  | cons b bs ih =>
    have := ih (n := (n * 29 + (b.toNat : Int) + 1) % 251) (m := (m * 29 + (b.toNat : Int) + 1) % 251) (by omega) (by omega) h
    omega

def chB (r : List UInt8) : UInt8 := UInt8.ofNat (chk r).toNat
theorem chB_toNat {r : List UInt8} (h : r.length ≤ 12) : ((chB r).toNat : Int) = chk r := by
  have := chk_range h
  unfold chB
  rw [UInt8.toNat_ofNat']
  omega
def lenB (r : List UInt8) : UInt8 := UInt8.ofNat r.length
theorem lenB_toNat {r : List UInt8} (h : r.length ≤ 12) : (lenB r).toNat = r.length := by
  unfold lenB
  rw [UInt8.toNat_ofNat']
  omega

/-- The frame of a record. -/
def fr (r : List UInt8) : List UInt8 := lenB r :: (r ++ [chB r])
theorem fr_length (r : List UInt8) : (fr r).length = r.length + 2 := by simp [fr]
/-- Bytes that may be a record. -/
def Fits (r : List UInt8) : Prop := 1 ≤ r.length ∧ r.length ≤ 12

/-- The record of the first frame. -/
def first (L : List UInt8) : Option (List UInt8) :=
  match L with
  | [] => none
  | n :: t => if 1 ≤ n.toNat ∧ n.toNat ≤ 12 ∧ n.toNat + 1 ≤ t.length ∧ t[n.toNat]? = some (chB (t.take n.toNat)) then some (t.take n.toNat) else none
theorem first_nil : first [] = none := rfl

theorem first_some {L r : List UInt8} (h : first L = some r) : Fits r ∧ ∃ t, L = fr r ++ t := by
  unfold first at h
  cases L with
  | nil => cases h
  | cons n t =>
    simp only at h
    by_cases hc : 1 ≤ n.toNat ∧ n.toNat ≤ 12 ∧ n.toNat + 1 ≤ t.length ∧ t[n.toNat]? = some (chB (t.take n.toNat))
    · rw [if_pos hc] at h
      obtain ⟨h1, h2, h3, h4⟩ := hc
      injection h with h
      have hl : r.length = n.toNat := by rw [← h, List.length_take]; omega
      refine ⟨⟨by omega, by omega⟩, t.drop (n.toNat + 1), ?_⟩
      have hn : n = lenB r := by
        apply UInt8.toNat_inj.1
        rw [lenB_toNat (by omega), hl]
      rw [h] at h4
      have hlt : n.toNat < t.length := by omega
      rw [List.getElem?_eq_getElem hlt] at h4
      injection h4 with h4
      unfold fr
      rw [← hn, ← h4, List.cons_append, ← h, List.append_assoc, List.singleton_append, ← List.drop_eq_getElem_cons hlt, List.take_append_drop]
    · rw [if_neg hc] at h; cases h
theorem first_fr {r : List UInt8} (h : Fits r) (t : List UInt8) : first (fr r ++ t) = some r := by
  obtain ⟨h1, h2⟩ := h
  have hn := lenB_toNat h2
  unfold first fr
  simp only [List.cons_append, List.append_assoc, List.nil_append]
  have e : (r ++ chB r :: t).take (lenB r).toNat = r := by rw [hn, List.take_left]
  rw [e, if_pos]
  refine ⟨by omega, by omega, by simp; omega, ?_⟩
  rw [hn, List.getElem?_append_right (Nat.le_refl _), Nat.sub_self]
  rfl
theorem first_len {L r : List UInt8} (h : first L = some r) : r.length + 2 ≤ L.length := by
  obtain ⟨_, t, rfl⟩ := first_some h
  rw [List.length_append, fr_length]
  omega
theorem first_drop {L r : List UInt8} (h : first L = some r) : L = fr r ++ L.drop (r.length + 2) := by
  obtain ⟨_, t, rfl⟩ := first_some h
  rw [← fr_length r, List.drop_left]

/-- The records that are read of bytes. -/
def scan (L : List UInt8) : List (List UInt8) :=
  match h : first L with
  | none => []
  | some r => r :: scan (L.drop (r.length + 2))
termination_by L.length
decreasing_by
  have := first_len h
  rw [List.length_drop]
  omega
theorem scan_none {L : List UInt8} (h : first L = none) : scan L = [] := by
  rw [scan]
  split
  · rfl
  · rename_i r e; rw [h] at e; cases e
theorem scan_some {L r : List UInt8} (h : first L = some r) : scan L = r :: scan (L.drop (r.length + 2)) := by
  rw [scan]
  split
  · rename_i e; rw [h] at e; cases e
  · rename_i r' e; rw [h] at e; cases e; rfl

/-- The bytes of the frames of records. -/
def flat (rs : List (List UInt8)) : List UInt8 := (rs.map fr).flatten
theorem flat_nil : flat [] = [] := rfl
theorem flat_cons (r : List UInt8) (rs : List (List UInt8)) : flat (r :: rs) = fr r ++ flat rs := rfl
theorem flat_append (a b : List (List UInt8)) : flat (a ++ b) = flat a ++ flat b := by simp [flat]
theorem flat_snoc (a : List (List UInt8)) (r : List UInt8) : flat (a ++ [r]) = flat a ++ fr r := by rw [flat_append, flat_cons, flat_nil, List.append_nil]
/-- How many bytes are read. -/
def used (L : List UInt8) : Nat := (flat (scan L)).length

theorem scan_ind {p : List UInt8 → Prop} (h0 : ∀ L, first L = none → p L) (h1 : ∀ L r, first L = some r → p (L.drop (r.length + 2)) → p L) (L : List UInt8) : p L := by
  have : ∀ n, ∀ L : List UInt8, L.length ≤ n → p L := by
    intro n
    induction n with
    | zero => intro L hL; exact h0 L (by rw [List.eq_nil_of_length_eq_zero (by omega : L.length = 0)]; rfl)
    | succ n ih =>
      intro L hL
      cases h : first L with
      | none => exact h0 L h
      | some r => exact h1 L r h (ih _ (by have := first_len h; rw [List.length_drop]; omega))
  exact this L.length L (Nat.le_refl _)

theorem scan_fits (L : List UInt8) : ∀ r ∈ scan L, Fits r := by
  induction L using scan_ind with
  | h0 L h => rw [scan_none h]; intro r hr; cases hr
  | h1 L r h ih =>
    rw [scan_some h]
    intro x hx
    rcases List.mem_cons.1 hx with rfl | hx
    · exact (first_some h).1
    · exact ih x hx
theorem scan_flat (L : List UInt8) : ∃ t, L = flat (scan L) ++ t ∧ first t = none := by
  induction L using scan_ind with
  | h0 L h => exact ⟨L, by rw [scan_none h]; rfl, h⟩
  | h1 L r h ih =>
    obtain ⟨t, e, h2⟩ := ih
    refine ⟨t, ?_, h2⟩
    rw [scan_some h, flat_cons, List.append_assoc, ← e]
    exact first_drop h
theorem scan_of (rs : List (List UInt8)) (h : ∀ r ∈ rs, Fits r) (t : List UInt8) : scan (flat rs ++ t) = rs ++ scan t := by
  induction rs with
  | nil => rfl
  | cons r rs ih =>
    have hf := h r (List.mem_cons_self ..)
    rw [flat_cons, List.append_assoc, scan_some (first_fr hf _), ← fr_length r, List.drop_left, ih (fun x hx => h x (List.mem_cons_of_mem _ hx)), List.cons_append]
theorem scan_flat_self (rs : List (List UInt8)) (h : ∀ r ∈ rs, Fits r) : scan (flat rs) = rs := by
  have := scan_of rs h []
  rw [List.append_nil, scan_none first_nil, List.append_nil] at this
  exact this
theorem flat_scan_take (L : List UInt8) : L.take (used L) = flat (scan L) := by
  obtain ⟨t, e, _⟩ := scan_flat L
  conv => lhs; arg 2; rw [e]
  unfold used
  rw [List.take_left]
theorem used_le (L : List UInt8) : used L ≤ L.length := by
  obtain ⟨t, e, _⟩ := scan_flat L
  have := congrArg List.length e
  rw [List.length_append] at this
  unfold used
  omega
theorem used_take (L : List UInt8) : used (L.take (used L)) = used L := by
  rw [flat_scan_take]
  unfold used
  rw [scan_flat_self _ (scan_fits L)]
theorem scan_take_used (L : List UInt8) : scan (L.take (used L)) = scan L := by rw [flat_scan_take, scan_flat_self _ (scan_fits L)]

/-- What is read of fewer bytes is a beginning of what is read. -/
theorem first_mono {L r : List UInt8} {n : Nat} (h : first (L.take n) = some r) : first L = some r := by
  obtain ⟨hf, t, e⟩ := first_some h
  rw [← List.take_append_drop n L, e, List.append_assoc]
  exact first_fr hf _
theorem scan_part (L : List UInt8) (n : Nat) : scan (L.take n) <+: scan L := by
  induction L using scan_ind generalizing n with
  | h0 L h =>
    cases e : first (L.take n) with
    | none => rw [scan_none e]; exact List.nil_prefix
    | some r => rw [first_mono e] at h; cases h
  | h1 L r h ih =>
    cases e : first (L.take n) with
    | none => rw [scan_none e]; exact List.nil_prefix
    | some r' =>
      have e2 := first_mono e
      rw [h] at e2
      injection e2 with e2
      subst e2
      rw [scan_some e, scan_some h, List.drop_take]
      exact List.cons_prefix_cons.2 ⟨rfl, ih _⟩
theorem flat_mono {a b : List (List UInt8)} (h : a <+: b) : (flat a).length ≤ (flat b).length := by
  obtain ⟨c, rfl⟩ := h
  rw [flat_append, List.length_append]
  omega
theorem used_part (L : List UInt8) (n : Nat) : used (L.take n) ≤ used L := flat_mono (scan_part L n)
theorem flat_length (rs : List (List UInt8)) : 2 * rs.length ≤ (flat rs).length := by
  induction rs with
  | nil => exact Nat.zero_le _
  | cons r rs ih => rw [flat_cons, List.length_append, fr_length, List.length_cons]; omega
theorem scan_length (L : List UInt8) : 2 * (scan L).length ≤ L.length := Nat.le_trans (flat_length _) (used_le L)
theorem scan_take_take (L : List UInt8) {m n : Nat} (h : m ≤ n) : scan (L.take m) <+: scan (L.take n) := by
  have := scan_part (L.take n) m
  rwa [List.take_take, Nat.min_eq_left h] at this

/-- What is left when k frames have been read. -/
def rest (L : List UInt8) (k : Nat) : List UInt8 := L.drop (flat ((scan L).take k)).length
theorem rest_zero (L : List UInt8) : rest L 0 = L := rfl
theorem scan_rest (L : List UInt8) (k : Nat) : scan (rest L k) = (scan L).drop k := by
  obtain ⟨t, e, h⟩ := scan_flat L
  have hs := scan_fits L
  unfold rest
  conv => lhs; arg 1; arg 2; rw [e, ← List.take_append_drop k (scan L), flat_append, List.append_assoc]
  rw [List.drop_left, scan_of _ (fun r hr => hs r (List.mem_of_mem_drop hr)), scan_none h, List.append_nil]

/-! ### Frames that are not read. -/
theorem first_torn {r : List UInt8} (h : Fits r) {j : Nat} (hj : j < r.length + 2) : first ((fr r).take j) = none := by
  cases e : first ((fr r).take j) with
  | none => rfl
  | some r' =>
    have e2 := first_mono e
    have e3 := first_fr h []
    rw [List.append_nil] at e3
    rw [e3] at e2
    injection e2 with e2
    subst e2
    have := first_len e
    rw [List.length_take, fr_length] at this
    omega
theorem scan_torn {r : List UInt8} (h : Fits r) {j : Nat} (hj : j < r.length + 2) : scan ((fr r).take j) = [] := scan_none (first_torn h hj)

/-- One byte of the record is another. -/
theorem first_change {r : List UInt8} (h : Fits r) {k : Nat} (hk : k < r.length) {b : UInt8} (hb : b.toNat ≠ r[k].toNat ∧ b.toNat < r[k].toNat + 251 ∧ r[k].toNat < b.toNat + 251) : first (lenB r :: (r.take k ++ b :: r.drop (k + 1) ++ [chB r])) = none := by
  cases e : first (lenB r :: (r.take k ++ b :: r.drop (k + 1) ++ [chB r])) with
  | none => rfl
  | some x =>
    exfalso
    obtain ⟨hx, t, e2⟩ := first_some e
    obtain ⟨h1, h2⟩ := h
    unfold fr at e2
    rw [List.cons_append] at e2
    injection e2 with e3 e4
    have hl : x.length = r.length := by
      have a := lenB_toNat hx.2
      rw [← e3, lenB_toNat h2] at a
      exact a.symm
    have hr : (r.take k ++ b :: r.drop (k + 1)).length = r.length := by simp; omega
    rw [List.append_assoc x] at e4
    obtain ⟨e5, e6⟩ := List.append_inj e4 (by rw [hr, hl])
    injection e6 with e6 _
    have hc : chk r = chk x := by rw [← chB_toNat h2, ← chB_toNat hx.2, e6]
    rw [← e5] at hc
    have hr2 : r = r.take k ++ r[k] :: r.drop (k + 1) := by rw [← List.drop_eq_getElem_cons hk, List.take_append_drop]
    unfold chk at hc
    rw [hr] at hc
    have n0 : 0 ≤ (7 + 3 * (r.length : Int)) ∧ (7 + 3 * (r.length : Int)) < 251 := by omega
    generalize 7 + 3 * (r.length : Int) = n at hc n0
    conv at hc => lhs; rw [hr2]
    rw [chkL_append, chkL_append, chkL_cons, chkL_cons] at hc
    have hm := chkL_range (n := n) (bs := r.take k) n0.1 n0.2
    generalize chkL n (r.take k) = m at hc hm
    have := chkL_inj _ (by omega) (by omega) hc
    obtain ⟨b1, b2, b3⟩ := hb
    omega
end Lg
end Go.Proofs.Ytclonfhpabdpgaa
