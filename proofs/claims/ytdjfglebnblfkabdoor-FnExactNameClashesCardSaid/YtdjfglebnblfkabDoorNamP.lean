/-
  Plain facts on names: the parts between slashes, which names are valid, what a pattern matches, which names clash. No program is named here.
-/
import Derived.Below
import Derived.Test.YtdjfglebnblfkabDoorDPure
namespace Go.Proofs.YtdjfglebnblfkabDoor
namespace Nm
open Pu

def mk (r : List UInt8) : ByteArray := ⟨r.toArray⟩
theorem bl_mk (r : List UInt8) : bl (mk r) = r := by simp [bl, mk]
theorem mk_bl (s : ByteArray) : mk (bl s) = s := bl_inj (bl_mk _)
theorem mk_size (r : List UInt8) : (mk r).size = r.length := by rw [← bl_size, bl_mk]
theorem mk_inj {a b : List UInt8} (h : mk a = mk b) : a = b := by have := congrArg bl h; rwa [bl_mk, bl_mk] at this

/-! ### Parts. -/
def cutL : List UInt8 → List (List UInt8)
  | [] => [[]]
  | b :: r => if b = 47 then [] :: cutL r else (b :: (cutL r).headD []) :: (cutL r).tail
theorem cutL_nil : cutL [] = [[]] := rfl
theorem cutL_slash (r : List UInt8) : cutL (47 :: r) = [] :: cutL r := by rw [cutL, if_pos rfl]
theorem cutL_ne : ∀ L, cutL L ≠ []
  | [] => by simp [cutL]
  | b :: r => by
    rw [cutL]
    split <;> simp
theorem cutL_other {b : UInt8} (h : b ≠ 47) {r p : List UInt8} {ps : List (List UInt8)} (e : cutL r = p :: ps) : cutL (b :: r) = (b :: p) :: ps := by
  rw [cutL, if_neg h, e]
  rfl
theorem cut_cases (L : List UInt8) : ∃ p ps, cutL L = p :: ps := by
  cases h : cutL L with
  | nil => exact absurd h (cutL_ne L)
  | cons p ps => exact ⟨p, ps, rfl⟩
def Clear (p : List UInt8) : Prop := ∀ b ∈ p, b ≠ 47
theorem Clear.nil : Clear [] := fun _ h => by cases h
theorem Clear.cons {b : UInt8} {p : List UInt8} (h : b ≠ 47) (hp : Clear p) : Clear (b :: p) := by
  intro x hx
  rcases List.mem_cons.1 hx with rfl | hx
  · exact h
  · exact hp x hx
theorem Clear.tail {b : UInt8} {p : List UInt8} (h : Clear (b :: p)) : Clear p := fun x hx => h x (List.mem_cons_of_mem _ hx)
theorem Clear.head {b : UInt8} {p : List UInt8} (h : Clear (b :: p)) : b ≠ 47 := h b (List.mem_cons_self ..)
theorem Clear.snoc {b : UInt8} {p : List UInt8} (hp : Clear p) (h : b ≠ 47) : Clear (p ++ [b]) := by
  intro x hx
  rcases List.mem_append.1 hx with hx | hx
  · exact hp x hx
  · rw [List.mem_singleton.1 hx]; exact h
theorem cut_miss : ∀ {p : List UInt8}, Clear p → cutL p = [p]
  | [], _ => rfl
  | _ :: _, h => cutL_other h.head (cut_miss h.tail)
theorem cut_hit : ∀ {p : List UInt8}, Clear p → ∀ r, cutL (p ++ 47 :: r) = p :: cutL r
  | [], _, r => cutL_slash r
  | _ :: _, h, r => cutL_other h.head (cut_hit h.tail r)
theorem cut_clear : ∀ (L : List UInt8), ∀ p ∈ cutL L, Clear p
  | [], p, h => by rw [cutL_nil, List.mem_singleton] at h; subst h; exact .nil
  | b :: r, p, h => by
    by_cases hb : b = 47
    · subst hb
      rw [cutL_slash] at h
      rcases List.mem_cons.1 h with rfl | h
      · exact .nil
      · exact cut_clear r p h
    · obtain ⟨q, qs, e⟩ := cut_cases r
      rw [cutL_other hb e] at h
      rcases List.mem_cons.1 h with rfl | h
      · exact .cons hb (cut_clear r q (by rw [e]; exact List.mem_cons_self ..))
      · exact cut_clear r p (by rw [e]; exact List.mem_cons_of_mem _ h)
/-- The parts, joined by slashes. -/
def join : List (List UInt8) → List UInt8
  | [] => []
  | [p] => p
  | p :: q :: r => p ++ 47 :: join (q :: r)
theorem join_one (p : List UInt8) : join [p] = p := rfl
theorem join_cons (p : List UInt8) {ps : List (List UInt8)} (h : ps ≠ []) : join (p :: ps) = p ++ 47 :: join ps := by
  cases ps with
  | nil => exact absurd rfl h
  | cons q r => rfl
theorem join_cut : ∀ (L : List UInt8), join (cutL L) = L
  | [] => rfl
  | b :: r => by
    have ih := join_cut r
    by_cases hb : b = 47
    · subst hb
      rw [cutL_slash, join_cons _ (cutL_ne r), ih]
      rfl
    · obtain ⟨q, qs, e⟩ := cut_cases r
      rw [cutL_other hb e]
      rw [e] at ih
      cases qs with
      | nil => rw [join_one] at ih ⊢; rw [ih]
      | cons q2 qs => rw [join_cons _ (by simp)] at ih ⊢; rw [List.cons_append, ih]
theorem cut_join : ∀ {ps : List (List UInt8)}, ps ≠ [] → (∀ p ∈ ps, Clear p) → cutL (join ps) = ps
  | [], h, _ => absurd rfl h
  | [p], _, h => by rw [join_one, cut_miss (h p (List.mem_cons_self ..))]
  | p :: q :: r, _, h => by
    rw [join_cons _ (by simp), cut_hit (h p (List.mem_cons_self ..)), cut_join (by simp) (fun x hx => h x (List.mem_cons_of_mem _ hx))]
theorem join_append : ∀ {a b : List (List UInt8)}, a ≠ [] → b ≠ [] → join (a ++ b) = join a ++ 47 :: join b
  | [], _, h, _ => absurd rfl h
  | [p], b, _, hb => by rw [List.singleton_append, join_cons _ hb, join_one]
  | p :: q :: r, b, _, hb => by
    rw [List.cons_append, join_cons _ (by simp), join_append (by simp) hb, join_cons p (ps := q :: r) (by simp), List.append_assoc, List.cons_append]
theorem cut_append (L M : List UInt8) : cutL (L ++ 47 :: M) = cutL L ++ cutL M := by
  have e : L ++ 47 :: M = join (cutL L ++ cutL M) := by rw [join_append (cutL_ne L) (cutL_ne M), join_cut, join_cut]
  rw [e, cut_join (by simp [cutL_ne]) ?_]
  intro p hp
  rcases List.mem_append.1 hp with hp | hp
  · exact cut_clear L p hp
  · exact cut_clear M p hp
theorem join_last (p t : List UInt8) : ∀ (init : List (List UInt8)), join (init ++ [p ++ t]) = join (init ++ [p]) ++ t
  | [] => rfl
  | q :: qs => by
    rw [List.cons_append, List.cons_append, join_cons _ (by simp), join_cons _ (by simp), join_last p t qs, List.append_assoc, List.cons_append]
theorem cut_last (L : List UInt8) : ∃ init p, cutL L = init ++ [p] := ⟨_, _, (List.dropLast_concat_getLast (cutL_ne L)).symm⟩
theorem cut_snoc {L : List UInt8} {init : List (List UInt8)} {p : List UInt8} (h : cutL L = init ++ [p]) {b : UInt8} (hb : b ≠ 47) : cutL (L ++ [b]) = init ++ [p ++ [b]] := by
  have e : L ++ [b] = join (init ++ [p ++ [b]]) := by rw [join_last, ← h, join_cut]
  rw [e, cut_join (by simp) ?_]
  intro x hx
  rcases List.mem_append.1 hx with hx | hx
  · exact cut_clear L x (by rw [h]; exact List.mem_append_left _ hx)
  · rw [List.mem_singleton.1 hx]
    exact (cut_clear L p (by rw [h]; simp)).snoc hb
theorem cut_inj {a b : List UInt8} (h : cutL a = cutL b) : a = b := by rw [← join_cut a, h, join_cut]
theorem cut_length : ∀ (L : List UInt8), (cutL L).length = L.count 47 + 1
  | [] => rfl
  | b :: r => by
    have ih := cut_length r
    by_cases hb : b = 47
    · subst hb
      rw [cutL_slash, List.length_cons, ih, List.count_cons_self]
    · obtain ⟨q, qs, e⟩ := cut_cases r
      rw [cutL_other hb e, List.length_cons, List.count_cons_of_ne hb, ← ih, e, List.length_cons]
theorem part_le : ∀ {ps : List (List UInt8)} {p : List UInt8}, p ∈ ps → p.length ≤ (join ps).length
  | [q], p, h => by rw [List.mem_singleton] at h; subst h; exact Nat.le_refl _
  | q :: r :: s, p, h => by
    rw [join_cons _ (by simp), List.length_append, List.length_cons]
    rcases List.mem_cons.1 h with rfl | h
    · omega
    · have := part_le h
      omega
theorem cut_le {L p : List UInt8} (h : p ∈ cutL L) : p.length ≤ L.length := by have := part_le h; rwa [join_cut] at this
theorem cut_few (L : List UInt8) : (cutL L).length ≤ L.length + 1 := by rw [cut_length]; have := List.count_le_length (a := (47 : UInt8)) (l := L); omega

/-! ### Which are valid. -/
def Lett (b : UInt8) : Prop := (97 ≤ b.toNat ∧ b.toNat ≤ 122) ∨ (48 ≤ b.toNat ∧ b.toNat ≤ 57)
instance (b : UInt8) : Decidable (Lett b) := by unfold Lett; exact inferInstance
def Part (p : List UInt8) : Prop := p ≠ [] ∧ ∀ i (h : i < p.length), Lett p[i] ∨ (p[i].toNat = 45 ∧ i ≠ 0 ∧ i + 1 ≠ p.length)
def Name (L : List UInt8) : Prop := L.length ≤ 12 ∧ ∀ p ∈ cutL L, Part p
theorem not_part_nil : ¬ Part [] := fun h => h.1 rfl
theorem Name.ne {L : List UInt8} (h : Name L) : L ≠ [] := fun e => by
  subst e
  exact not_part_nil (h.2 [] (by rw [cutL_nil]; exact List.mem_cons_self ..))
theorem bad_slash (L : List UInt8) : ¬ Name (L ++ [47]) := fun h => not_part_nil (h.2 [] (by rw [cut_append, cutL_nil]; simp))
theorem bad_front (L : List UInt8) : ¬ Name (47 :: L) := fun h => not_part_nil (h.2 [] (by rw [cutL_slash]; simp))
theorem bad_end (L : List UInt8) {b : UInt8} (hb : b ≠ 47) (hl : ¬ Lett b) : ¬ Name (L ++ [b]) := fun h => by
  obtain ⟨init, p, e⟩ := cut_last L
  have hp := h.2 (p ++ [b]) (by rw [cut_snoc e hb]; simp)
  have := hp.2 p.length (by simp)
  simp only [List.getElem_append_right (Nat.le_refl _), Nat.sub_self, List.getElem_cons_zero, List.length_append, List.length_singleton] at this
  rcases this with h | h
  · exact hl h
  · omega
theorem Part.more {p : List UInt8} (h : Part p) {b : UInt8} (hb : Lett b) : Part (p ++ [b]) := by
  refine ⟨by simp, fun i hi => ?_⟩
  rw [List.length_append, List.length_singleton] at hi
  by_cases hl : i < p.length
  · have e : (p ++ [b])[i]'(by simp; omega) = p[i] := List.getElem_append_left hl
    rw [e]
    rcases h.2 i hl with h | ⟨h1, h2, h3⟩
    · exact .inl h
    · exact .inr ⟨h1, h2, by simp; omega⟩
  · have : i = p.length := by omega
    subst this
    simp [hb]
theorem long_ok {L : List UInt8} (h : Name L) (hl : L.length < 12) : Name (L ++ [97]) := by
  refine ⟨by simp; omega, fun q hq => ?_⟩
  obtain ⟨init, p, e⟩ := cut_last L
  rw [cut_snoc e (by decide)] at hq
  rcases List.mem_append.1 hq with hq | hq
  · exact h.2 q (by rw [e]; exact List.mem_append_left _ hq)
  · rw [List.mem_singleton.1 hq]
    exact (h.2 p (by rw [e]; simp)).more (.inl (by decide))
theorem long_no {L : List UInt8} (hl : ¬ L.length < 12) : ¬ Name (L ++ [97]) := fun h => by have := h.1; simp at this; omega
theorem Name.part {L : List UInt8} (h : Name L) {p : List UInt8} (hp : p ∈ cutL L) : Name p := by
  refine ⟨Nat.le_trans (cut_le hp) h.1, fun q hq => ?_⟩
  rw [cut_miss (cut_clear L p hp), List.mem_singleton] at hq
  subst hq
  exact h.2 _ hp

/-! ### What a pattern matches. -/
def star : List UInt8 := [42]
theorem not_part_star : ¬ Part star := fun h => by
  have := h.2 0 (by decide)
  rcases this with h | h
  · exact absurd h (by decide)
  · exact h.2.1 rfl
def Many (a b : List (List UInt8)) : Prop := a.length = b.length ∨ (a.length < b.length ∧ a.getLast? = some star)
def Mat (P L : List UInt8) : Prop := Name L ∧ P.length ≤ 12 ∧ Many (cutL P) (cutL L) ∧ ∀ i, i < (cutL P).length → (cutL P)[i]? = some star ∨ (cutL P)[i]? = (cutL L)[i]?
theorem Many.le {a b : List (List UInt8)} (h : Many a b) : a.length ≤ b.length := by rcases h with h | h <;> omega
theorem mat_self {L : List UInt8} (h : Name L) : Mat L L := ⟨h, h.1, .inl rfl, fun _ _ => .inr rfl⟩
theorem cut_star : cutL [42] = [star] := by decide
theorem mat_star {L : List UInt8} (h : Name L) : Mat [42] L := by
  refine ⟨h, by decide, ?_, fun i hi => .inl ?_⟩
  · rw [cut_star]
    obtain ⟨p, ps, e⟩ := cut_cases L
    rw [e]
    cases ps with
    | nil => exact .inl rfl
    | cons q qs => exact .inr ⟨by simp, rfl⟩
  · rw [cut_star] at hi ⊢
    have : i = 0 := by simpa using hi
    subst this
    rfl
theorem last_star {P : List UInt8} (h : (cutL P).getLast? = some star) : P.getLast? = some 42 := by
  obtain ⟨init, p, e⟩ := cut_last P
  rw [e] at h
  have hp : p = star := by simpa using h
  subst hp
  have e2 : P = join (init ++ [[]]) ++ [42] := by
    rw [← join_last, ← join_cut P, e]
    rfl
  rw [e2]
  simp
theorem mat_many {P L : List UInt8} (h : Mat P L) : P.count 47 + 1 = (cutL L).length ∨ (P.count 47 + 1 < (cutL L).length ∧ P.getLast? = some 42) := by
  rw [← cut_length]
  rcases h.2.2.1 with h | ⟨h1, h2⟩
  · exact .inl h
  · exact .inr ⟨h1, last_star h2⟩
theorem mat_exact {P L : List UInt8} (hp : Name P) (hl : Name L) : Mat P L ↔ P = L := by
  constructor
  · rintro ⟨_, _, hm, he⟩
    have hs : ∀ i : Nat, (cutL P)[i]? ≠ some star := fun i e => not_part_star (hp.2 star (List.mem_of_getElem? e))
    have hlen : (cutL P).length = (cutL L).length := by
      rcases hm with h | ⟨_, h⟩
      · exact h
      · rw [List.getLast?_eq_getElem?] at h
        exact absurd h (hs _)
    apply cut_inj
    apply List.ext_getElem?
    intro i
    by_cases hi : i < (cutL P).length
    · rcases he i hi with h | h
      · exact absurd h (hs i)
      · exact h
    · rw [List.getElem?_eq_none (by omega), List.getElem?_eq_none (by omega)]
  · rintro rfl
    exact mat_self hl
theorem clear_star : Clear star := by unfold Clear star; decide
theorem mat_front {L a b : List UInt8} (h : Name L) (e : cutL L = [a, b]) (hl : b.length + 2 ≤ 12) : Mat ([42] ++ 47 :: b) L := by
  have hb := cut_clear L b (by rw [e]; simp)
  have e2 : cutL ([42] ++ 47 :: b) = [star, b] := by rw [cut_append, cut_star, cut_miss hb]; rfl
  refine ⟨h, by simp; omega, .inl (by rw [e2, e]; rfl), fun i hi => ?_⟩
  rw [e2] at hi ⊢
  rw [e]
  match i, hi with
  | 0, _ => exact .inl rfl
  | 1, _ => exact .inr rfl
theorem mat_back {L a b : List UInt8} (h : Name L) (e : cutL L = [a, b]) (hl : a.length + 2 ≤ 12) : Mat (a ++ 47 :: [42]) L := by
  have ha := cut_clear L a (by rw [e]; simp)
  have e2 : cutL (a ++ 47 :: [42]) = [a, star] := by rw [cut_append, cut_star, cut_miss ha]; rfl
  refine ⟨h, by simp; omega, .inl (by rw [e2, e]; rfl), fun i hi => ?_⟩
  rw [e2] at hi ⊢
  rw [e]
  match i, hi with
  | 0, _ => exact .inr rfl
  | 1, _ => exact .inl rfl
theorem mat_one {L a b : List UInt8} (h : Name L) (e : cutL L = [a, b]) : ¬ Mat a L := by
  have ha := cut_clear L a (by rw [e]; simp)
  rintro ⟨_, _, hm, _⟩
  rw [cut_miss ha, e] at hm
  rcases hm with hm | ⟨_, hm⟩
  · simp at hm
  · have : a = star := by simpa using hm
    exact not_part_star (this ▸ h.2 a (by rw [e]; simp))

/-! ### Which names clash. -/
def Under (a b : List UInt8) : Prop := b ++ [47] <+: a
def Cla (a b : List UInt8) : Prop := Name a ∧ Name b ∧ (Under a b ∨ Under b a)
theorem Cla.symm {a b : List UInt8} (h : Cla a b) : Cla b a := ⟨h.2.1, h.1, h.2.2.symm⟩
theorem cla_comm (a b : List UInt8) : Cla a b ↔ Cla b a := ⟨.symm, .symm⟩
theorem Under.cut {a b : List UInt8} (h : Under a b) : ∃ t, t ≠ [] ∧ cutL a = cutL b ++ t := by
  obtain ⟨t, rfl⟩ := h
  refine ⟨cutL t, cutL_ne t, ?_⟩
  rw [List.append_assoc, List.singleton_append, cut_append]
theorem Under.lt {a b : List UInt8} (h : Under a b) : b.length < a.length := by
  have := h.length_le
  simp at this
  omega
theorem cla_none (a : List UInt8) : ¬ Cla a a := fun h => by
  rcases h.2.2 with h | h <;> exact absurd h.lt (Nat.lt_irrefl _)
theorem cla_x {a t : List UInt8} (h : Name (a ++ 47 :: t)) : Cla a (a ++ 47 :: t) := by
  refine ⟨⟨?_, fun p hp => h.2 p (by rw [cut_append]; exact List.mem_append_left _ hp)⟩, h, .inr ⟨t, by simp⟩⟩
  have := h.1
  simp at this
  omega
theorem cla_parts {a b : List UInt8} (h : Cla a b) : ((cutL b).length < (cutL a).length ∧ (cutL a).take (cutL b).length = cutL b) ∨ ((cutL a).length < (cutL b).length ∧ (cutL b).take (cutL a).length = cutL a) := by
  rcases h.2.2 with h | h
  · obtain ⟨t, ht, e⟩ := h.cut
    have := List.length_pos_iff.2 ht
    exact .inl ⟨by rw [e, List.length_append]; omega, by rw [e, List.take_left]⟩
  · obtain ⟨t, ht, e⟩ := h.cut
    have := List.length_pos_iff.2 ht
    exact .inr ⟨by rw [e, List.length_append]; omega, by rw [e, List.take_left]⟩
theorem cla_first {a b : List UInt8} (h : Cla a b) : (cutL a)[0]? = (cutL b)[0]? := by
  have ha := List.length_pos_iff.2 (cutL_ne a)
  have hb := List.length_pos_iff.2 (cutL_ne b)
  rcases h.2.2 with h | h
  · obtain ⟨t, _, e⟩ := h.cut
    rw [e, List.getElem?_append_left hb]
  · obtain ⟨t, _, e⟩ := h.cut
    rw [e, List.getElem?_append_left ha]
end Nm
end Go.Proofs.YtdjfglebnblfkabDoor
