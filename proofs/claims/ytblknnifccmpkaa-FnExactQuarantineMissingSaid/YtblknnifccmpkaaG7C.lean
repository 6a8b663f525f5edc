/-
  Walk: the model's StorePut.
  Plain facts: what a put does to a store.
  Plain facts on quarantines: which are valid, what putting, promoting and discarding make of them. No program is named here.
  Areas and quarantines in memory: two cells each.
  Plain facts for the loops over areas.
  Walks: transactions, areas found, objects put one after the other, by the model; areas of the laws.
  Walks: objects put one after the other, by the model; the laws' areas and comparisons.
  Plain facts: what is reached in a store and an area together, and what is missing there.
  Maps in memory from a transaction to the objects of its area: what making, storing, deleting and looking up do.
  Plain facts: areas by their transactions, and the list that is made of them.
  Walk: the program's StorePut.
  Walk: the program puts all objects of a list into a store.
  Walk: the program's objects of two stores together.
-/
import Derived.Test.YtblknnifccmpkaaPut
import Derived.Test.YtblknnifccmpkaaG5C
import Derived.Test.YtblknnifccmpkaaG3C
import Derived.Test.YtblknnifccmpkaaG6C
import Derived.Maps.OwnSet
import Derived.Carry
import Derived.Test.YtblknnifccmpkaaInsert
import Derived.Test.YtblknnifccmpkaaInsRow
import Derived.Lib.SliceRun
namespace Go.Proofs.Ytblknnifccmpkaa
open Go.RowKit Wo Pu

/-- What StorePut answers. -/
def PutAll (os : List Ob) (o : Ob) (r : Nat) (os' : List Ob) (b : Bool) : Prop :=
  (storeB os = true → vOb o = true → PutIs os o r os' b) ∧ ((storeB os = false ∨ vOb o = false) → os' = [] ∧ b = false)
def PuttedAll (os : List Ob) (o : Ob) (r : Nat) (w : World) (e : Ending) (w' : World) : Prop :=
  ∃ v os' b, e = .returned (.tuple #[v, .bool b]) ∧ PutAll os o r os' b ∧ OwnObs w' w.heap.size v os' ∧ Below w.heap.size w w'
theorem PuttedAll.none_ {os : List Ob} {o : Ob} {r : Nat} {w w' : World} (hb : Below w.heap.size w w') (h : storeB os = false ∨ vOb o = false) :
    PuttedAll os o r w (.returned (.tuple #[.slice (some ⟨w'.heap.size, 0, none⟩) 0 0, .bool false])) (w'.alloc (.cells #[] 38)) := by
  refine ⟨_, [], false, rfl, ⟨fun h1 h2 => ?_, fun _ => ⟨rfl, rfl⟩⟩, OwnObs.nil_new hb.size, hb.alloc hb.size _⟩
  rcases h with h | h
  · rw [h1] at h; cases h
  · rw [h2] at h; cases h

end Go.Proofs.Ytblknnifccmpkaa
namespace Go.Proofs.Ytblknnifccmpkaa
open Go.RowKit Wo Pu

theorem Ob.same {a b : Ob} (h : SameOb a b) : a = b := by
  obtain ⟨h1, h2, h3⟩ := h
  obtain ⟨ka, za, sa⟩ := a
  obtain ⟨kb, zb, sb⟩ := b
  simp only at h1 h2 h3
  subst h1 h3
  rw [ByteArray.toList_eq, ByteArray.toList_eq] at h2
  have : sa = sb := ByteArray.ext (Array.toList_inj.1 h2)
  rw [this]
theorem SameOb.refl (o : Ob) : SameOb o o := ⟨rfl, rfl, rfl⟩

theorem stB_ins {o : Ob} : ∀ {os : List Ob} {last : Int} {r : Nat}, stB last os = true → last < iOb o → r ≤ os.length → (∀ j (hj : j < os.length), j < r → iOb os[j] < iOb o) → (∀ h : r < os.length, iOb o < iOb os[r]) → stB last (os.take r ++ o :: os.drop r) = true := by
  intro os
  induction os with
  | nil =>
    intro last r _ hl _ _ _
    simp [stB, hl]
  | cons p os ih =>
    intro last r hs hl hr h1 h2
    simp only [stB, Bool.and_eq_true, decide_eq_true_eq] at hs
    cases r with
    | zero =>
      simp only [List.take_zero, List.drop_zero, List.nil_append, stB, Bool.and_eq_true, decide_eq_true_eq]
      exact ⟨hl, h2 (Nat.zero_lt_succ _), hs.2⟩
    | succ r =>
      simp only [List.take_succ_cons, List.drop_succ_cons, List.cons_append, stB, Bool.and_eq_true, decide_eq_true_eq]
      refine ⟨hs.1, ih hs.2 (h1 0 (Nat.zero_lt_succ _) (by omega)) (by simpa using hr) (fun j hj hjr => ?_) (fun h => ?_)⟩
      · have := h1 (j + 1) (by simpa using hj) (by omega); simpa using this
      · have := h2 (by simpa using h); simpa using this
/-- Sorted lists with the same objects are one. -/
theorem stB_ext : ∀ {xs bs : List Ob} {la lb : Int}, stB la xs = true → stB lb bs = true → (∀ x, x ∈ xs ↔ x ∈ bs) → xs = bs := by
  intro xs
  induction xs with
  | nil =>
    intro bs la lb _ _ h
    cases bs with
    | nil => rfl
    | cons b bs => have := (h b).2 (by simp); cases this
  | cons a xs ih =>
    intro bs la lb ha hb h
    cases bs with
    | nil => have := (h a).1 (by simp); cases this
    | cons b bs =>
      have sa := stB_sorted ha
      have sb := stB_sorted hb
      simp only [stB, Bool.and_eq_true, decide_eq_true_eq] at ha hb
      have lowa : ∀ x ∈ xs, iOb a < iOb x := fun x hx => by
        obtain ⟨i, hi, rfl⟩ := List.mem_iff_getElem.1 hx
        have := (sa 0 (by simp)).2 (i + 1) (by simpa using hi) (by omega)
        simpa using this
      have lowb : ∀ x ∈ bs, iOb b < iOb x := fun x hx => by
        obtain ⟨i, hi, rfl⟩ := List.mem_iff_getElem.1 hx
        have := (sb 0 (by simp)).2 (i + 1) (by simpa using hi) (by omega)
        simpa using this
      have hab : a = b := by
        rcases List.mem_cons.1 ((h a).1 (by simp)) with e | e
        · exact e
        · rcases List.mem_cons.1 ((h b).2 (by simp)) with e2 | e2
          · exact e2.symm
          · have := lowb a e; have := lowa b e2; omega
      subst hab
      rw [ih ha.2 hb.2 fun x => ⟨fun hx => ?_, fun hx => ?_⟩]
      · rcases List.mem_cons.1 ((h x).1 (List.mem_cons_of_mem _ hx)) with e | e
        · subst e; have := lowa x hx; omega
        · exact e
      · rcases List.mem_cons.1 ((h x).2 (List.mem_cons_of_mem _ hx)) with e | e
        · subst e; have := lowb x hx; omega
        · exact e

/-- A put that succeeds. -/
theorem PutIs.true_ {os : List Ob} {o : Ob} {r : Nat} {os' : List Ob} (hs : storeB os = true) (hv : vOb o = true) (hr : At_ os (iOb o) r) (h : PutIs os o r os' true) :
    storeB os' = true ∧ (∃ h : r < os'.length, os'[r] = o) ∧ At_ os' (iOb o) r ∧ (∀ x, x ∈ os' ↔ x ∈ os ∨ x = o) ∧ os'.length ≤ os.length + 1 ∧ ((¬ ∃ h : r < os.length, iOb os[r] = iOb o) → os'.length = os.length + 1) := by
  obtain ⟨hst, h16⟩ := storeB_parts hs
  by_cases hex : ∃ h : r < os.length, iOb os[r] = iOb o
  · obtain ⟨hlt, he⟩ := hex
    obtain ⟨rfl, hb⟩ := h.1 hlt he
    have hso := Ob.same (hb.1 rfl)
    refine ⟨hs, ⟨hlt, hso⟩, hr, fun x => ⟨fun hx => .inl hx, fun hx => ?_⟩, by omega, fun hn => absurd ⟨hlt, he⟩ hn⟩
    rcases hx with hx | hx
    · exact hx
    · rw [hx, ← hso]; exact List.getElem_mem hlt
  · have hlt16 : os.length < 16 := by
      by_cases h6 : 16 ≤ os.length
      · have := (h.2.1 hex h6).2; cases this
      · omega
    obtain ⟨rfl, _⟩ := h.2.2 hex hlt16
    have hl : (os.take r).length = r := by rw [List.length_take]; have := hr.1; omega
    have hlen : (os.take r ++ o :: os.drop r).length = os.length + 1 := by simp; have := hr.1; omega
    have hget : (os.take r ++ o :: os.drop r)[r]'(by rw [hlen]; have := hr.1; omega) = o := by
      rw [List.getElem_append_right (by omega)]; simp [hl]
    refine ⟨?_, ⟨by rw [hlen]; have := hr.1; omega, hget⟩, ⟨by rw [hlen]; have := hr.1; omega, fun j hj hjr => ?_, fun h => by rw [hget]; omega⟩, fun x => ?_, by rw [hlen]; omega, fun _ => hlen⟩
    · unfold storeB
      rw [stB_ins hst (by have := iOb_valid.2 hv; omega) hr.1 hr.2.1 fun h => ?_, decide_eq_true (by rw [hlen]; omega)]
      · rfl
      · have h1 := hr.2.2 h
        have h2 : ¬ iOb os[r] = iOb o := fun e => hex ⟨h, e⟩
        omega
    · rw [List.getElem_append_left (by omega), List.getElem_take]
      exact hr.2.1 j (by have := hr.1; omega) hjr
    · rw [List.mem_append, List.mem_cons]
      refine ⟨fun hx => ?_, fun hx => ?_⟩
      · rcases hx with hx | hx | hx
        · exact .inl (List.mem_of_mem_take hx)
        · exact .inr hx
        · exact .inl (List.mem_of_mem_drop hx)
      · rcases hx with hx | hx
        · rw [← List.take_append_drop r os, List.mem_append] at hx
          rcases hx with hx | hx
          · exact .inl hx
          · exact .inr (.inr hx)
        · exact .inr (.inl hx)
theorem PutAll.true_ {os : List Ob} {o : Ob} {r : Nat} {os' : List Ob} (h : PutAll os o r os' true) : storeB os = true ∧ vOb o = true ∧ PutIs os o r os' true := by
  cases hs : storeB os
  · have := (h.2 (.inl hs)).2; cases this
  · cases hv : vOb o
    · have := (h.2 (.inr hv)).2; cases this
    · exact ⟨rfl, rfl, h.1 hs hv⟩
/-- Both answer alike. -/
theorem PutIs.one {os : List Ob} {o : Ob} {r : Nat} {os1 os2 : List Ob} {b1 b2 : Bool} (h1 : PutIs os o r os1 b1) (h2 : PutIs os o r os2 b2) : os1 = os2 ∧ b1 = b2 := by
  by_cases hex : ∃ h : r < os.length, iOb os[r] = iOb o
  · obtain ⟨hlt, he⟩ := hex
    obtain ⟨e1, e2⟩ := h1.1 hlt he
    obtain ⟨f1, f2⟩ := h2.1 hlt he
    exact ⟨by rw [e1, f1], by rw [Bool.eq_iff_iff, e2, f2]⟩
  · by_cases h6 : 16 ≤ os.length
    · obtain ⟨e1, e2⟩ := h1.2.1 hex h6
      obtain ⟨f1, f2⟩ := h2.2.1 hex h6
      exact ⟨by rw [e1, f1], by rw [e2, f2]⟩
    · obtain ⟨e1, e2⟩ := h1.2.2 hex (by omega)
      obtain ⟨f1, f2⟩ := h2.2.2 hex (by omega)
      exact ⟨by rw [e1, f1], by rw [e2, f2]⟩
theorem PutAll.one {os : List Ob} {o : Ob} {r : Nat} {os1 os2 : List Ob} {b1 b2 : Bool} (h1 : PutAll os o r os1 b1) (h2 : PutAll os o r os2 b2) : os1 = os2 ∧ b1 = b2 := by
  cases hs : storeB os
  · obtain ⟨e1, e2⟩ := h1.2 (.inl hs)
    obtain ⟨f1, f2⟩ := h2.2 (.inl hs)
    exact ⟨by rw [e1, f1], by rw [e2, f2]⟩
  · cases hv : vOb o
    · obtain ⟨e1, e2⟩ := h1.2 (.inr hv)
      obtain ⟨f1, f2⟩ := h2.2 (.inr hv)
      exact ⟨by rw [e1, f1], by rw [e2, f2]⟩
    · exact (h1.1 hs hv).one (h2.1 hs hv)
/-- An object that is there is put again. -/
theorem PutAll.again {os : List Ob} {o : Ob} {r : Nat} {os1 os2 : List Ob} {b2 : Bool} (hr : At_ os (iOb o) r) (h1 : PutAll os o r os1 true) (h2 : PutAll os1 o r os2 b2) : os2 = os1 ∧ b2 = true := by
  obtain ⟨hs, hv, hp⟩ := h1.true_
  obtain ⟨s1, ⟨hlt, ho⟩, _⟩ := hp.true_ hs hv hr
  obtain ⟨e1, e2⟩ := (h2.1 s1 hv).1 hlt (by rw [ho])
  exact ⟨e1, e2.2 (by rw [ho]; exact SameOb.refl o)⟩
/-- An object of a store is found. -/
theorem fnd_mem {os : List Ob} {p : Ob} {r : Nat} (hs : storeB os = true) (hp : p ∈ os) (hr : At_ os (iOb p) r) : fndO os (iOb p) r = some p := by
  obtain ⟨i, hi, rfl⟩ := List.mem_iff_getElem.1 hp
  have hsort := stB_sorted (storeB_parts hs).1
  have hir : i = r := by
    by_cases h1 : i < r
    · have := hr.2.1 i hi h1; omega
    · by_cases h2 : i = r
      · exact h2
      · have h3 : r < os.length := by omega
        have h4 := hr.2.2 h3
        have h5 := (hsort r h3).2 i hi (by omega)
        omega
  subst hir
  exact fnd_b hs hi rfl
theorem fnd_none_of {os : List Ob} {x : Int} {r : Nat} (h : ¬ ∃ h : r < os.length, iOb os[r] = x) : fndO os x r = none := fnd_c h
/-- The order does not matter. -/
theorem PutAll.order {os os1 os2 os3 os4 : List Ob} {o p : Ob} {r r1 r2 r3 : Nat} {b : Bool} (ar : At_ os (iOb o) r) (ar1 : At_ os1 (iOb p) r1) (ar2 : At_ os (iOb p) r2) (ar3 : At_ os3 (iOb o) r3)
    (h1 : PutAll os o r os1 true) (h2 : PutAll os1 p r1 os2 true) (h3 : PutAll os p r2 os3 true) (h4 : PutAll os3 o r3 os4 b) : os4 = os2 ∧ b = true := by
  obtain ⟨hs, hvo, p1⟩ := h1.true_
  obtain ⟨hs1, hvp, p2⟩ := h2.true_
  obtain ⟨_, _, p3⟩ := h3.true_
  obtain ⟨_, _, _, m1, _, l1⟩ := p1.true_ hs hvo ar
  obtain ⟨s2, _, _, m2, _, l2⟩ := p2.true_ hs1 hvp ar1
  obtain ⟨s3, _, _, m3, l3', l3⟩ := p3.true_ hs hvp ar2
  have p4 := h4.1 s3 hvo
  have same1 : ∀ x ∈ os1, iOb x = iOb o → x = o := fun x hx e => by
    rcases (m1 x).1 hx with h | h
    · obtain ⟨i, hi, rfl⟩ := List.mem_iff_getElem.1 h
      have hi1 : i = r := by
        by_cases q1 : i < r
        · have := ar.2.1 i hi q1; omega
        · by_cases q2 : i = r
          · exact q2
          · have q3 : r < os.length := by omega
            have q4 := ar.2.2 q3
            have q5 := (stB_sorted (storeB_parts hs).1 r q3).2 i hi (by omega)
            omega
      subst hi1
      exact Ob.same ((p1.1 hi e).2.1 rfl)
    · exact h
  have same2 : iOb p = iOb o → p = o := fun e => by
    have ho : o ∈ os1 := (m1 o).2 (.inr rfl)
    obtain ⟨i, hi, hio⟩ := List.mem_iff_getElem.1 ho
    have hi1 : i = r1 := by
      by_cases q1 : i < r1
      · have := ar1.2.1 i hi q1; rw [hio] at this; omega
      · by_cases q2 : i = r1
        · exact q2
        · have q3 : r1 < os1.length := by omega
          have q4 := ar1.2.2 q3
          have q5 := (stB_sorted (storeB_parts hs1).1 r1 q3).2 i hi (by omega)
          rw [hio] at q5
          omega
    subst hi1
    have := Ob.same ((p2.1 hi (by rw [hio, e])).2.1 rfl)
    rw [hio] at this
    exact this.symm
  have hb : b = true := by
    by_cases hex : ∃ h : r3 < os3.length, iOb os3[r3] = iOb o
    · obtain ⟨hlt, he⟩ := hex
      refine ((p4.1 hlt he).2).2 ?_
      have hx : os3[r3] = o := by
        rcases (m3 _).1 (List.getElem_mem hlt) with h | h
        · exact same1 _ ((m1 _).2 (.inl h)) he
        · rw [h] at he ⊢; exact same2 he
      rw [hx]; exact SameOb.refl o
    · by_cases h6 : 16 ≤ os3.length
      · exfalso
        have nin : ∀ x ∈ os3, ¬ iOb x = iOb o := fun x hx e => by
          obtain ⟨i, hi, rfl⟩ := List.mem_iff_getElem.1 hx
          have key := at_none s3 ar3 hex i hi
          exact key e
        have hno : ¬ ∃ h : r < os.length, iOb os[r] = iOb o := fun ⟨h, e⟩ => nin _ ((m3 _).2 (.inl (List.getElem_mem h))) e
        have l1e := l1 hno
        have hpo : ¬ iOb p = iOb o := nin p ((m3 p).2 (.inr rfl))
        have s1le := (storeB_parts hs1).2
        have s2le := (storeB_parts s2).2
        by_cases hp2 : ∃ h : r2 < os.length, iOb os[r2] = iOb p
        · obtain ⟨q1, q2⟩ := hp2
          have := (p3.1 q1 q2).1
          rw [this] at h6
          omega
        · have l3e := l3 hp2
          have hp1 : ¬ ∃ h : r1 < os1.length, iOb os1[r1] = iOb p := fun ⟨q1, q2⟩ => by
            rcases (m1 _).1 (List.getElem_mem q1) with h | h
            · obtain ⟨i, hi, e⟩ := List.mem_iff_getElem.1 h
              have := at_none hs ar2 hp2 i hi
              rw [e] at this
              exact this q2
            · rw [h] at q2; exact hpo q2.symm
          have := l2 hp1
          omega
      · exact (p4.2.2 hex (by omega)).2
  subst hb
  obtain ⟨s4, _, _, m4, _⟩ := p4.true_ s3 hvo ar3
  refine ⟨stB_ext (storeB_parts s4).1 (storeB_parts s2).1 fun x => ?_, rfl⟩
  rw [m4, m3, m2, m1]
  constructor
  · rintro ((h | h) | h)
    · exact .inl (.inl h)
    · exact .inr h
    · exact .inl (.inr h)
  · rintro ((h | h) | h)
    · exact .inl (.inl h)
    · exact .inr h
    · exact .inl (.inr h)
end Go.Proofs.Ytblknnifccmpkaa
namespace Go.Proofs.Ytblknnifccmpkaa
open Go.RowKit Wo Pu
namespace Qu

theorem at_none {os : List Ob} {id : Int} {r : Nat} (hs : storeB os = true) (hr : At_ os id r) (h : ¬ ∃ h : r < os.length, iOb os[r] = id) : ∀ j (hj : j < os.length), ¬ iOb os[j] = id := by
  intro j hj e
  by_cases hjr : j < r
  · have := hr.2.1 j hj hjr; omega
  · have hr2 : r < os.length := by omega
    have h1 := hr.2.2 hr2
    by_cases hjr2 : j = r
    · subst hjr2; exact h ⟨hr2, e⟩
    · have := (stB_sorted (storeB_parts hs).1 r hr2).2 j hj (by omega)
      have : ¬ iOb os[r] = id := fun e2 => h ⟨hr2, e2⟩
      omega
theorem storeB_inj {os : List Ob} {o p : Ob} (hs : storeB os = true) (ho : o ∈ os) (hp : p ∈ os) (h : iOb o = iOb p) : o = p := by
  obtain ⟨i, hi, rfl⟩ := List.mem_iff_getElem.1 ho
  obtain ⟨j, hj, rfl⟩ := List.mem_iff_getElem.1 hp
  have hsort := stB_sorted (storeB_parts hs).1
  by_cases h1 : i < j
  · have := (hsort i hi).2 j hj h1; omega
  · by_cases h2 : i = j
    · subst h2; rfl
    · have := (hsort j hj).2 i hi (by omega); omega

/-! ### Objects put into a store. -/
/-- xs is the store of the objects of os and of l. -/
def Uni (os l xs : List Ob) : Prop := storeB xs = true ∧ ∀ x, x ∈ xs ↔ x ∈ os ∨ x ∈ l
theorem stB_nodup {os : List Ob} {l : Int} (h : stB l os = true) : os.Nodup := by
  rw [List.Nodup, List.pairwise_iff_getElem]
  intro i j hi hj hij e
  have := (stB_sorted h i hi).2 j hj hij
  rw [e] at this
  omega
theorem sub_length {α : Type} {xs ys : List α} (h : xs.Nodup) (hs : ∀ x ∈ xs, x ∈ ys) : xs.length ≤ ys.length := by
  induction xs generalizing ys with
  | nil => simp
  | cons a xs ih =>
    obtain ⟨p, q, rfl⟩ := List.append_of_mem (hs a (List.mem_cons_self ..))
    have := ih (List.nodup_cons.1 h).2 (ys := p ++ q) fun x hx => by
      rcases List.mem_append.1 (hs x (List.mem_cons_of_mem _ hx)) with e | e
      · exact List.mem_append_left _ e
      · rcases List.mem_cons.1 e with e | e
        · subst e; exact absurd hx (List.nodup_cons.1 h).1
        · exact List.mem_append_right _ e
    simp only [List.length_cons, List.length_append] at this ⊢
    omega
theorem Uni.one {os l xs ys : List Ob} (h1 : Uni os l xs) (h2 : Uni os l ys) : xs = ys :=
  stB_ext (storeB_parts h1.1).1 (storeB_parts h2.1).1 fun x => (h1.2 x).trans (h2.2 x).symm
theorem Uni.none_ {os : List Ob} (h : storeB os = true) : Uni os [] os := ⟨h, fun x => by simp⟩
theorem Uni.snoc {os l xs ys : List Ob} {o : Ob} (h1 : Uni os l xs) (h2 : Uni xs [o] ys) : Uni os (l ++ [o]) ys := ⟨h2.1, fun x => by
  rw [h2.2, h1.2, List.mem_append]
  exact or_assoc⟩
theorem put_yes {os : List Ob} {o : Ob} {r : Nat} {os' : List Ob} (hs : storeB os = true) (hv : vOb o = true) (hr : At_ os (iOb o) r) (h : PutIs os o r os' true) : Uni os [o] os' := by
  obtain ⟨h1, _, _, h2, _⟩ := h.true_ hs hv hr
  exact ⟨h1, fun x => by rw [h2, List.mem_singleton]⟩
theorem put_no {os : List Ob} {o : Ob} {r : Nat} {os' xs : List Ob} (hs : storeB os = true) (hr : At_ os (iOb o) r) (h : PutIs os o r os' false) (hx : storeB xs = true) (hsub : ∀ x ∈ os, x ∈ xs) (ho : o ∈ xs) : False := by
  by_cases hex : ∃ h : r < os.length, iOb os[r] = iOb o
  · obtain ⟨hlt, he⟩ := hex
    have e := storeB_inj hx (hsub _ (List.getElem_mem hlt)) ho he
    have := (h.1 hlt he).2.2 (by rw [e]; exact SameOb.refl o)
    cases this
  · by_cases h6 : 16 ≤ os.length
    · have hno : o ∉ os := fun hm => by
        obtain ⟨i, hi, rfl⟩ := List.mem_iff_getElem.1 hm
        exact at_none hs hr hex i hi rfl
      have h1 := sub_length (xs := o :: os) (List.nodup_cons.2 ⟨hno, stB_nodup (storeB_parts hs).1⟩) fun x hm => by
        rcases List.mem_cons.1 hm with rfl | hm
        · exact ho
        · exact hsub x hm
      have h2 := (storeB_parts hx).2
      simp only [List.length_cons] at h1
      omega
    · have := (h.2.2 hex (by omega)).2
      cases this

/-! ### Areas. -/
/-- The objects of a transaction. -/
structure Ar where
  t : Int
  os : List Ob
def TxnV (t : Int) : Prop := 0 ≤ t ∧ t ≤ 11
def ArV (a : Ar) : Prop := TxnV a.t ∧ storeB a.os = true ∧ a.os ≠ []
/-- The areas, after that of the transaction k. -/
def AscA : Int → List Ar → Prop
  | _, [] => True
  | k, a :: rs => k < a.t ∧ ArV a ∧ AscA a.t rs
theorem AscA.weak {k k' : Int} {rs : List Ar} (h : AscA k rs) (hk : k' ≤ k) : AscA k' rs := by
  cases rs with
  | nil => trivial
  | cons a rs => exact ⟨by have := h.1; omega, h.2⟩
theorem AscA.mem {rs : List Ar} : ∀ {k : Int}, AscA k rs → ∀ a ∈ rs, k < a.t ∧ ArV a := by
  induction rs with
  | nil => intro k _ a ha; cases ha
  | cons b rs ih =>
    intro k h a ha
    rcases List.mem_cons.1 ha with rfl | ha
    · exact ⟨h.1, h.2.1⟩
    · obtain ⟨h1, h2⟩ := ih h.2.2 a ha
      exact ⟨by have := h.1; omega, h2⟩
theorem AscA.inj {rs : List Ar} : ∀ {k : Int}, AscA k rs → ∀ a ∈ rs, ∀ b ∈ rs, a.t = b.t → a = b := by
  induction rs with
  | nil => intro k _ a ha; cases ha
  | cons c rs ih =>
    intro k h a ha b hb e
    rcases List.mem_cons.1 ha with e1 | h1
    · rcases List.mem_cons.1 hb with e2 | h2
      · rw [e1, e2]
      · have := (h.2.2.mem b h2).1; rw [e1] at e; omega
    · rcases List.mem_cons.1 hb with e2 | h2
      · have := (h.2.2.mem a h1).1; rw [e2] at e; omega
      · exact ih h.2.2 a h1 b h2 e
theorem AscA.drop1 {rs : List Ar} : ∀ {k : Int}, AscA k rs → ∀ i, AscA k (rs.take i ++ rs.drop (i + 1)) := by
  induction rs with
  | nil => intro k _ i; simp [AscA]
  | cons a rs ih =>
    intro k h i
    cases i with
    | zero => exact (h.2.2).weak (by have := h.1; omega)
    | succ i => exact ⟨h.1, h.2.1, ih h.2.2 i⟩
/-- By places. -/
theorem ascA_iff {rs : List Ar} : ∀ {k : Int}, AscA k rs ↔ ∀ i (h : i < rs.length), ArV rs[i] ∧ (if _hi : i = 0 then k < rs[i].t else (rs[i - 1]'(by omega)).t < rs[i].t) := by
  induction rs with
  | nil => intro k; exact ⟨fun _ i h => absurd h (Nat.not_lt_zero _), fun _ => trivial⟩
  | cons u us ih =>
    intro k
    constructor
    · rintro ⟨h1, h2, h3⟩ i hi
      cases i with
      | zero => exact ⟨h2, by simpa using h1⟩
      | succ i =>
        obtain ⟨g1, g2⟩ := ih.1 h3 i (by simpa using hi)
        refine ⟨g1, ?_⟩
        rw [dif_neg (by omega)]
        cases i with
        | zero => simpa using g2
        | succ i => rw [dif_neg (by omega)] at g2; exact g2
    · intro h
      refine ⟨by have := (h 0 (by simp)).2; rwa [dif_pos rfl] at this, (h 0 (by simp)).1, ih.2 fun i hi => ?_⟩
      obtain ⟨g1, g2⟩ := h (i + 1) (by simpa using hi)
      refine ⟨g1, ?_⟩
      rw [dif_neg (by omega)] at g2
      cases i with
      | zero => rw [dif_pos rfl]; exact g2
      | succ i => rw [dif_neg (by omega)]; exact g2
/-- The objects of a transaction, none if it has no area. -/
def arOf : List Ar → Int → List Ob
  | [], _ => []
  | a :: rs, t => if a.t = t then a.os else arOf rs t
def has (rs : List Ar) (t : Int) : Prop := ∃ a ∈ rs, a.t = t
theorem arOf_no {rs : List Ar} {t : Int} (h : ¬ has rs t) : arOf rs t = [] := by
  induction rs with
  | nil => rfl
  | cons a rs ih =>
    unfold arOf
    rw [if_neg fun e => h ⟨a, List.mem_cons_self .., e⟩]
    exact ih fun ⟨b, hb, e⟩ => h ⟨b, List.mem_cons_of_mem _ hb, e⟩
theorem arOf_mem {rs : List Ar} {k : Int} (h : AscA k rs) {a : Ar} (ha : a ∈ rs) : arOf rs a.t = a.os := by
  induction rs generalizing k with
  | nil => cases ha
  | cons b rs ih =>
    unfold arOf
    by_cases e : b.t = a.t
    · rw [if_pos e, h.inj b (List.mem_cons_self ..) a ha e]
    · rw [if_neg e]
      rcases List.mem_cons.1 ha with rfl | ha
      · exact absurd rfl e
      · exact ih h.2.2 ha
theorem has_iff {rs : List Ar} {k : Int} (h : AscA k rs) (t : Int) : has rs t ↔ arOf rs t ≠ [] := by
  constructor
  · rintro ⟨a, ha, rfl⟩
    rw [arOf_mem h ha]
    exact (h.mem a ha).2.2.2
  · intro h1
    refine Classical.byContradiction fun h2 => h1 (arOf_no h2)
theorem has_range {rs : List Ar} {k : Int} (h : AscA k rs) {t : Int} (ht : has rs t) : k < t ∧ TxnV t := by
  obtain ⟨a, ha, rfl⟩ := ht
  exact ⟨(h.mem a ha).1, (h.mem a ha).2.1⟩
theorem arOf_store {rs : List Ar} {k : Int} (h : AscA k rs) (t : Int) : storeB (arOf rs t) = true := by
  by_cases ht : has rs t
  · obtain ⟨a, ha, rfl⟩ := ht
    rw [arOf_mem h ha]
    exact (h.mem a ha).2.2.1
  · rw [arOf_no ht]; rfl
/-- Areas with the same objects of each transaction are the same. -/
theorem ascA_ext : ∀ {rs bs : List Ar} {k k' : Int}, AscA k rs → AscA k' bs → (∀ t, arOf rs t = arOf bs t) → rs = bs
  | [], [], _, _, _, _, _ => rfl
  | [], b :: bs, _, _, _, hb, h => by
    have := h b.t
    rw [arOf_mem hb (List.mem_cons_self ..)] at this
    exact absurd this.symm hb.2.1.2.2
  | a :: rs, [], _, _, ha, _, h => by
    have := h a.t
    rw [arOf_mem ha (List.mem_cons_self ..)] at this
    exact absurd this ha.2.1.2.2
  | a :: rs, b :: bs, k, k', ha, hb, h => by
    have low : ∀ {c : Ar} {cs : List Ar} {l : Int}, AscA l (c :: cs) → ∀ t, arOf (c :: cs) t ≠ [] → c.t ≤ t := fun {c cs l} hc t ht => by
      obtain ⟨d, hd, rfl⟩ := (has_iff hc t).2 ht
      rcases List.mem_cons.1 hd with rfl | hd
      · exact Int.le_refl _
      · have := (hc.2.2.mem d hd).1; omega
    have e1 : a.t ≤ b.t := low ha b.t (by rw [h, arOf_mem hb (List.mem_cons_self ..)]; exact hb.2.1.2.2)
    have e2 : b.t ≤ a.t := low hb a.t (by rw [← h, arOf_mem ha (List.mem_cons_self ..)]; exact ha.2.1.2.2)
    have e3 : a.t = b.t := by omega
    have e4 : a.os = b.os := by
      have := h a.t
      rw [arOf_mem ha (List.mem_cons_self ..), e3, arOf_mem hb (List.mem_cons_self ..)] at this
      exact this
    obtain ⟨ta, oa⟩ := a
    obtain ⟨tb, ob⟩ := b
    simp only at e3 e4
    subst e3 e4
    rw [ascA_ext ha.2.2 hb.2.2 fun t => ?_]
    by_cases et : ta = t
    · subst et
      rw [arOf_no fun ⟨c, hc, e⟩ => by have := (ha.2.2.mem c hc).1; simp only at this; omega, arOf_no fun ⟨c, hc, e⟩ => by have := (hb.2.2.mem c hc).1; simp only at this; omega]
    · have := h t
      unfold arOf at this
      rwa [if_neg et, if_neg et] at this

/-! ### An area set or removed. -/
/-- The areas with x as that of t; p: it has been told. -/
def setR (t : Int) (x : List Ob) (p : Bool) : List Ar → List Ar
  | [] => if p then [] else [⟨t, x⟩]
  | a :: rs => (if !p && decide (t ≤ a.t) then [⟨t, x⟩] else []) ++ ((if a.t = t then [] else [a]) ++ setR t x (p || decide (t ≤ a.t)) rs)
def setA (rs : List Ar) (t : Int) (x : List Ob) : List Ar := setR t x (decide (x.length = 0)) rs
/-- Behind all places of t, and t has been told. -/
theorem setR_past {t : Int} {x : List Ob} : ∀ {rs : List Ar} {k : Int}, AscA k rs → t ≤ k → setR t x true rs = rs
  | [], _, _, _ => rfl
  | a :: rs, k, h, hk => by
    have h1 := h.1
    unfold setR
    rw [if_neg (by simp), if_neg (by omega), List.nil_append, Bool.true_or, setR_past h.2.2 (by omega)]
    rfl
theorem setR_cons {t : Int} {x : List Ob} {p : Bool} {a : Ar} {rs : List Ar} : setR t x p (a :: rs) = (if !p && decide (t ≤ a.t) then [⟨t, x⟩] else []) ++ ((if a.t = t then [] else [a]) ++ setR t x (p || decide (t ≤ a.t)) rs) := rfl
theorem setR_asc {t : Int} {x : List Ob} (ht : TxnV t) (hs : storeB x = true) (hx : x ≠ []) : ∀ {rs : List Ar} {k : Int}, AscA k rs → k < t → AscA k (setR t x false rs)
  | [], k, _, hk => ⟨hk, ⟨ht, hs, hx⟩, trivial⟩
  | a :: rs, k, h, hk => by
    rw [setR_cons]
    by_cases h1 : t ≤ a.t
    · rw [if_pos (by simp [h1]), decide_eq_true h1, Bool.or_true]
      refine ⟨hk, ⟨ht, hs, hx⟩, ?_⟩
      rw [setR_past h.2.2 h1]
      by_cases h2 : a.t = t
      · rw [if_pos h2]; show AscA t ([] ++ rs); rw [List.nil_append]; rw [← h2]; exact h.2.2
      · rw [if_neg h2]; exact ⟨by show t < a.t; omega, h.2⟩
    · rw [if_neg (by simp [h1]), if_neg (by omega), decide_eq_false h1, Bool.or_false]
      exact ⟨h.1, h.2.1, setR_asc ht hs hx h.2.2 (by omega)⟩
theorem delR_asc {t : Int} {x : List Ob} : ∀ {rs : List Ar} {k : Int}, AscA k rs → AscA k (setR t x true rs)
  | [], k, _ => trivial
  | a :: rs, k, h => by
    rw [setR_cons, if_neg (by simp), List.nil_append, Bool.true_or]
    by_cases h2 : a.t = t
    · rw [if_pos h2, List.nil_append]; exact (delR_asc h.2.2).weak (by have := h.1; omega)
    · rw [if_neg h2]; exact ⟨h.1, h.2.1, delR_asc h.2.2⟩
theorem setR_of {t : Int} {x : List Ob} : ∀ {rs : List Ar} {k : Int}, AscA k rs → ∀ s, arOf (setR t x false rs) s = if s = t then x else arOf rs s
  | [], k, _, s => by
    unfold setR
    rw [if_neg (by simp)]
    show (if t = s then x else []) = _
    by_cases e : s = t
    · rw [if_pos e, if_pos e.symm]
    · rw [if_neg e, if_neg fun e' => e e'.symm]; rfl
  | a :: rs, k, h, s => by
    rw [setR_cons]
    by_cases h1 : t ≤ a.t
    · rw [if_pos (by simp [h1]), decide_eq_true h1, Bool.or_true, setR_past h.2.2 h1]
      show (if t = s then x else _) = _
      by_cases e : s = t
      · rw [if_pos e, if_pos e.symm]
      · rw [if_neg e, if_neg fun e' => e e'.symm]
        by_cases h2 : a.t = t
        · rw [if_pos h2]
          show arOf rs s = if a.t = s then a.os else arOf rs s
          rw [if_neg (by omega)]
        · rw [if_neg h2]; rfl
    · rw [if_neg (by simp [h1]), if_neg (by omega), decide_eq_false h1, Bool.or_false]
      show (if a.t = s then a.os else arOf (setR t x false rs) s) = if s = t then x else if a.t = s then a.os else arOf rs s
      rw [setR_of h.2.2]
      by_cases e : a.t = s
      · rw [if_pos e, if_pos e, if_neg (by omega)]
      · rw [if_neg e, if_neg e]
theorem delR_of {t : Int} {x : List Ob} : ∀ {rs : List Ar}, ∀ s, arOf (setR t x true rs) s = if s = t then [] else arOf rs s
  | [], s => by show ([] : List Ob) = _; split <;> rfl
  | a :: rs, s => by
    rw [setR_cons, if_neg (by simp), List.nil_append, Bool.true_or]
    by_cases h2 : a.t = t
    · rw [if_pos h2, List.nil_append, delR_of]
      by_cases e : s = t
      · rw [if_pos e, if_pos e]
      · rw [if_neg e, if_neg e]; show _ = if a.t = s then _ else _; rw [if_neg (by omega)]
    · rw [if_neg h2]
      show (if a.t = s then a.os else arOf (setR t x true rs) s) = if s = t then [] else if a.t = s then a.os else arOf rs s
      rw [delR_of]
      by_cases e : a.t = s
      · rw [if_pos e, if_pos e, if_neg (by omega)]
      · rw [if_neg e, if_neg e]
theorem setR_length {t : Int} {x : List Ob} : ∀ {rs : List Ar} {k : Int}, AscA k rs → (has rs t → (setR t x false rs).length = rs.length) ∧ (¬ has rs t → (setR t x false rs).length = rs.length + 1)
  | [], k, _ => ⟨(fun ⟨a, ha, _⟩ => by cases ha), fun _ => rfl⟩
  | a :: rs, k, h => by
    rw [setR_cons]
    by_cases h1 : t ≤ a.t
    · rw [if_pos (by simp [h1]), decide_eq_true h1, Bool.or_true, setR_past h.2.2 h1]
      by_cases h2 : a.t = t
      · rw [if_pos h2]
        exact ⟨fun _ => by simp <;> omega, fun hn => absurd ⟨a, List.mem_cons_self .., h2⟩ hn⟩
      · rw [if_neg h2]
        refine ⟨fun ⟨b, hb, e⟩ => ?_, fun _ => by simp <;> omega⟩
        rcases List.mem_cons.1 hb with rfl | hb
        · exact absurd e h2
        · have := (h.2.2.mem b hb).1; omega
    · rw [if_neg (by simp [h1]), if_neg (by omega), decide_eq_false h1, Bool.or_false]
      obtain ⟨i1, i2⟩ := setR_length (t := t) (x := x) h.2.2
      refine ⟨fun ⟨b, hb, e⟩ => ?_, fun hn => ?_⟩
      · rcases List.mem_cons.1 hb with rfl | hb
        · omega
        · have := i1 ⟨b, hb, e⟩; simp <;> omega
      · have := i2 fun ⟨b, hb, e⟩ => hn ⟨b, List.mem_cons_of_mem _ hb, e⟩
        simp <;> omega
theorem delR_length {t : Int} {x : List Ob} : ∀ {rs : List Ar} {k : Int}, AscA k rs → (has rs t → (setR t x true rs).length + 1 = rs.length) ∧ (¬ has rs t → (setR t x true rs).length = rs.length)
  | [], k, _ => ⟨(fun ⟨a, ha, _⟩ => by cases ha), fun _ => rfl⟩
  | a :: rs, k, h => by
    rw [setR_cons, if_neg (by simp), List.nil_append, Bool.true_or]
    by_cases h2 : a.t = t
    · rw [if_pos h2, setR_past h.2.2 (by omega)]
      exact ⟨fun _ => by simp, fun hn => absurd ⟨a, List.mem_cons_self .., h2⟩ hn⟩
    · rw [if_neg h2]
      obtain ⟨i1, i2⟩ := delR_length (t := t) (x := x) h.2.2
      refine ⟨fun ⟨b, hb, e⟩ => ?_, fun hn => ?_⟩
      · rcases List.mem_cons.1 hb with rfl | hb
        · exact absurd e h2
        · have := i1 ⟨b, hb, e⟩; simp <;> omega
      · have := i2 fun ⟨b, hb, e⟩ => hn ⟨b, List.mem_cons_of_mem _ hb, e⟩
        simp <;> omega
theorem setR_le (t : Int) (x : List Ob) : ∀ (rs : List Ar) (p : Bool), (setR t x p rs).length ≤ rs.length + 1
  | [], p => by cases p <;> simp [setR]
  | a :: rs, p => by
    rw [setR_cons]
    have := setR_le t x rs (p || decide (t ≤ a.t))
    by_cases hp : (!p && decide (t ≤ a.t)) = true
    · have hp' : (p || decide (t ≤ a.t)) = true := by cases p <;> simp_all
      rw [if_pos hp, hp'] 
      have h2 : (setR t x true rs).length ≤ rs.length := setR_le2 t x rs
      split <;> simp <;> omega
    · rw [if_neg hp]
      split <;> simp <;> omega
where setR_le2 (t : Int) (x : List Ob) : ∀ (rs : List Ar), (setR t x true rs).length ≤ rs.length
  | [] => by simp [setR]
  | a :: rs => by
    rw [setR_cons, if_neg (by simp), List.nil_append, Bool.true_or]
    have := setR_le2 t x rs
    split <;> simp <;> omega

/-! ### Quarantines. -/
structure Qr where
  m : List Ob
  rs : List Ar
def QV (q : Qr) : Prop := storeB q.m = true ∧ AscA (-1) q.rs ∧ q.rs.length ≤ 4
/-- By which of the three ways: invalid, unchanged, done. -/
inductive QWay | bad | no | yes (q : Qr)
def QWay.ok : QWay → Bool
  | .yes _ => true
  | _ => false
def QWay.q (q : Qr) : QWay → Qr
  | .bad => ⟨[], []⟩
  | .no => q
  | .yes q' => q'
/-- Objects can be put: x is then the area, z would be the store. -/
def CanPut (q : Qr) (t : Int) (l x z : List Ob) : Prop := Uni (arOf q.rs t) l x ∧ Uni q.m x z ∧ (has q.rs t ∨ q.rs.length < 4)
def IsPut (q : Qr) (t : Int) (l : List Ob) : QWay → Prop
  | .bad => ¬ (QV q ∧ TxnV t ∧ storeB l = true ∧ l ≠ [])
  | .no => (QV q ∧ TxnV t ∧ storeB l = true ∧ l ≠ []) ∧ ¬ ∃ x z, CanPut q t l x z
  | .yes q' => (QV q ∧ TxnV t ∧ storeB l = true ∧ l ≠ []) ∧ ∃ x z, CanPut q t l x z ∧ q' = ⟨q.m, setA q.rs t x⟩
def IsPro (q : Qr) (t : Int) : QWay → Prop
  | .bad => ¬ (QV q ∧ TxnV t)
  | .no => (QV q ∧ TxnV t) ∧ ¬ ∃ z, has q.rs t ∧ Uni q.m (arOf q.rs t) z
  | .yes q' => (QV q ∧ TxnV t) ∧ ∃ z, has q.rs t ∧ Uni q.m (arOf q.rs t) z ∧ q' = ⟨z, setA q.rs t []⟩
def IsDis (q : Qr) (t : Int) : QWay → Prop
  | .bad => ¬ (QV q ∧ TxnV t)
  | .no => (QV q ∧ TxnV t) ∧ ¬ has q.rs t
  | .yes q' => (QV q ∧ TxnV t) ∧ has q.rs t ∧ q' = ⟨q.m, setA q.rs t []⟩
theorem put_way (q : Qr) (t : Int) (l : List Ob) : ∃ y, IsPut q t l y := by
  by_cases h : QV q ∧ TxnV t ∧ storeB l = true ∧ l ≠ []
  · by_cases h2 : ∃ x z, CanPut q t l x z
    · obtain ⟨x, z, h3⟩ := h2
      exact ⟨.yes _, h, x, z, h3, rfl⟩
    · exact ⟨.no, h, h2⟩
  · exact ⟨.bad, h⟩
theorem pro_way (q : Qr) (t : Int) : ∃ y, IsPro q t y := by
  by_cases h : QV q ∧ TxnV t
  · by_cases h2 : ∃ z, has q.rs t ∧ Uni q.m (arOf q.rs t) z
    · obtain ⟨z, h3, h4⟩ := h2
      exact ⟨.yes _, h, z, h3, h4, rfl⟩
    · exact ⟨.no, h, h2⟩
  · exact ⟨.bad, h⟩
theorem dis_way (q : Qr) (t : Int) : ∃ y, IsDis q t y := by
  by_cases h : QV q ∧ TxnV t
  · by_cases h2 : has q.rs t
    · exact ⟨.yes _, h, h2, rfl⟩
    · exact ⟨.no, h, h2⟩
  · exact ⟨.bad, h⟩
theorem uni_ne {os l x : List Ob} (h : Uni os l x) (hl : l ≠ []) : x ≠ [] := by
  obtain ⟨a, ha⟩ := List.exists_mem_of_ne_nil l hl
  exact List.ne_nil_of_mem ((h.2 a).2 (.inr ha))
theorem setA_set {rs : List Ar} {t : Int} {x : List Ob} (hx : x ≠ []) : setA rs t x = setR t x false rs := by
  unfold setA
  rw [decide_eq_false fun e => hx (List.eq_nil_of_length_eq_zero e)]
theorem setA_del {rs : List Ar} {t : Int} : setA rs t [] = setR t [] true rs := rfl
/-- A quarantine with objects that have been put. -/
theorem put_valid {q : Qr} {t : Int} {l x z : List Ob} (hq : QV q) (ht : TxnV t) (hl : l ≠ []) (h : CanPut q t l x z) : QV ⟨q.m, setA q.rs t x⟩ ∧ (∀ s, arOf (setA q.rs t x) s = if s = t then x else arOf q.rs s) ∧ has (setA q.rs t x) t := by
  have hx := uni_ne h.1 hl
  have h1 : AscA (-1) (setA q.rs t x) := by rw [setA_set hx]; exact setR_asc ht h.1.1 hx hq.2.1 (by have := ht.1; omega)
  have h2 : ∀ s, arOf (setA q.rs t x) s = if s = t then x else arOf q.rs s := fun s => by rw [setA_set hx]; exact setR_of hq.2.1 s
  refine ⟨⟨hq.1, h1, ?_⟩, h2, (has_iff h1 t).2 (by rw [h2, if_pos rfl]; exact hx)⟩
  show (setA q.rs t x).length ≤ 4
  rw [setA_set hx]
  obtain ⟨e1, e2⟩ := setR_length (t := t) (x := x) hq.2.1
  have := hq.2.2
  by_cases hh : has q.rs t
  · have := e1 hh; omega
  · have := e2 hh
    rcases h.2.2 with h3 | h3
    · exact absurd h3 hh
    · omega
/-- Put again. -/
theorem put_again {q : Qr} {t : Int} {l x z : List Ob} (hq : QV q) (ht : TxnV t) (hl : l ≠ []) (h : CanPut q t l x z) : CanPut ⟨q.m, setA q.rs t x⟩ t l x z ∧ setA (setA q.rs t x) t x = setA q.rs t x := by
  obtain ⟨h1, h2, h3⟩ := put_valid hq ht hl h
  have hx := uni_ne h.1 hl
  refine ⟨⟨?_, h.2.1, .inl h3⟩, ?_⟩
  · show Uni (arOf (setA q.rs t x) t) l x
    rw [h2, if_pos rfl]
    exact ⟨h.1.1, fun y => ⟨.inl, fun e => by rcases e with e | e; exact e; exact (h.1.2 y).2 (.inr e)⟩⟩
  · have h4 := h1.2.1
    refine ascA_ext (k := -1) (k' := -1) (by rw [setA_set hx]; exact setR_asc ht h.1.1 hx h4 (by have := ht.1; omega)) h4 fun s => ?_
    rw [setA_set (rs := setA q.rs t x) hx, setR_of h4, h2]
    by_cases e : s = t
    · rw [if_pos e, if_pos e]
    · rw [if_neg e]
/-- Removed. -/
theorem del_valid {q : Qr} {t : Int} {z : List Ob} (hq : QV q) (hz : storeB z = true) : QV ⟨z, setA q.rs t []⟩ ∧ (∀ s, arOf (setA q.rs t []) s = if s = t then [] else arOf q.rs s) ∧ (has q.rs t → (setA q.rs t []).length + 1 = q.rs.length) := by
  have h1 : AscA (-1) (setA q.rs t []) := by rw [setA_del]; exact delR_asc hq.2.1
  obtain ⟨e1, e2⟩ := delR_length (t := t) (x := []) hq.2.1
  refine ⟨⟨hz, h1, ?_⟩, fun s => by rw [setA_del]; exact delR_of s, e1⟩
  have := hq.2.2
  show (setA q.rs t []).length ≤ 4
  rw [setA_del]
  by_cases hh : has q.rs t
  · have := e1 hh; omega
  · have := e2 hh; omega
theorem del_put {q : Qr} {t : Int} {l x z : List Ob} (hq : QV q) (ht : TxnV t) (hl : l ≠ []) (h : CanPut q t l x z) (hn : arOf q.rs t = []) : setA (setA q.rs t x) t [] = q.rs := by
  obtain ⟨h1, h2, _⟩ := put_valid hq ht hl h
  refine ascA_ext (k := -1) (k' := -1) (by rw [setA_del]; exact delR_asc h1.2.1) hq.2.1 fun s => ?_
  rw [setA_del, delR_of, h2]
  by_cases e : s = t
  · rw [if_pos e, e, hn]
  · rw [if_neg e, if_neg e]
theorem del_has {q : Qr} {t : Int} (hq : QV q) : ¬ has (setA q.rs t []) t := fun h => by
  obtain ⟨h1, h2, _⟩ := del_valid (t := t) hq hq.1
  have := (has_iff h1.2.1 t).1 h
  rw [h2, if_pos rfl] at this
  exact this rfl
theorem part_valid {q : Qr} (hq : QV q) (i : Nat) (hi : i < q.rs.length) : QV ⟨q.m, q.rs.take i ++ q.rs.drop (i + 1)⟩ := by
  refine ⟨hq.1, hq.2.1.drop1 i, ?_⟩
  have := hq.2.2
  show (q.rs.take i ++ q.rs.drop (i + 1)).length ≤ 4
  rw [List.length_append, List.length_take, List.length_drop]
  omega
end Qu
end Go.Proofs.Ytblknnifccmpkaa
namespace Go.Proofs.Ytblknnifccmpkaa
open Go.RowKit Wo Pu Qu

/-! ### Blocks of two cells. -/
def BlkQ (w : World) (g : Nat) (t : TypeId) (v0 v1 : Value) : Prop := w.heap[g]? = some (.cells #[v0, v1] t (0, 0))
section
variable {w w' : World} {g : Nat} {t : TypeId} {v0 v1 : Value}
theorem BlkQ.lt (h : BlkQ w g t v0 v1) : g < w.heap.size := by
  rcases Nat.lt_or_ge g w.heap.size with h1 | h1
  · exact h1
  · unfold BlkQ at h; rw [Array.getElem?_eq_none h1] at h; cases h
theorem BlkQ.reads (h : BlkQ w g t v0 v1) : w.cell? ⟨g, 0, none⟩ = some v0 ∧ w.cell? ⟨g, 1, none⟩ = some v1 ∧ ∀ o, w.frozen? ⟨g, o, none⟩ = false := by
  unfold BlkQ at h
  refine ⟨by simp [World.cell?, h], by simp [World.cell?, h], fun o => by simp [World.frozen?, h]⟩
theorem BlkQ.new_ (w : World) (t : TypeId) (v0 v1 : Value) : BlkQ (w.alloc (.cells #[v0, v1] t)) w.heap.size t v0 v1 := heap_alloc_new w _
theorem BlkQ.below {C : Nat} (h : BlkQ w g t v0 v1) (hb : Below C w w') (hC : g < C) : BlkQ w' g t v0 v1 := (hb.block g hC).trans h
theorem BlkQ.later (h : BlkQ w g t v0 v1) (hb : Below w.heap.size w w') : BlkQ w' g t v0 v1 := h.below hb h.lt
theorem BlkQ.alloc (h : BlkQ w g t v0 v1) (o : Obj) : BlkQ (w.alloc o) g t v0 v1 := h.later ((Below.refl _ _).alloc (Nat.le_refl _) o)
theorem BlkQ.but {R : Nat} (h : BlkQ w g t v0 v1) (hb : But R w w') (hR : g ≠ R) : BlkQ w' g t v0 v1 := (hb.block g h.lt (fun e => hR (by injection e))).trans h
theorem BlkQ.far (h : BlkQ w g t v0 v1) {p : Addr} (hp : g ≠ p.block) (u : Value) : BlkQ (w.setCell p u) g t v0 v1 := (Below.heap_setCell w p u g hp).trans h
theorem BlkQ.set0 (h : BlkQ w g t v0 v1) (u : Value) : BlkQ (w.setCell ⟨g, 0, none⟩ u) g t u v1 := by unfold BlkQ at h ⊢; simp [World.setCell, Array.getElem?_modify, h]
theorem BlkQ.set1 (h : BlkQ w g t v0 v1) (u : Value) : BlkQ (w.setCell ⟨g, 1, none⟩ u) g t v0 u := by unfold BlkQ at h ⊢; simp [World.setCell, Array.getElem?_modify, h]
theorem BlkQ.grown {row : Option Nat} (h : BlkQ w g t v0 v1) (hg : w.grownBy w' row) (hr : some g ≠ row) : BlkQ w' g t v0 v1 := (hg.block g h.lt hr).trans h
end

/-! ### Areas. -/
/-- At ad lies the area a. -/
def ArAt (w : World) (B : Nat) (ad : Addr) (a : Ar) : Prop :=
  ∃ (A : Option Addr) (c : Nat), w.cell? ad = some (.int .i64 a.t) ∧ w.cell? (ad.add 1) = some (.slice A a.os.length c) ∧ a.os.length ≤ c ∧ Objs w B A a.os
/-- The slice with head A holds the areas rs. -/
def Ars (w : World) (B : Nat) (A : Option Addr) (rs : List Ar) : Prop :=
  rs = [] ∨ ∃ ad, A = some ad ∧ ad.block < B ∧ ∀ i (h : i < rs.length), ArAt w B (ad.add (i * 2)) rs[i]
theorem ArAt.below {w w' : World} {B C : Nat} {ad : Addr} {a : Ar} (h : ArAt w B ad a) (ha : ad.block < B) (hb : Below C w w') (hC : B ≤ C) : ArAt w' B ad a := by
  obtain ⟨A, c, h0, h1, h2, h3⟩ := h
  have f : ∀ p : Addr, p.block < B → w'.cell? p = w.cell? p := fun p hp => hb.cell (by omega)
  exact ⟨A, c, by rw [f _ ha]; exact h0, by rw [f _ (by rw [add_block]; exact ha)]; exact h1, h2, h3.below hb hC⟩
theorem Ars.below {w w' : World} {B C : Nat} {A : Option Addr} {rs : List Ar} (h : Ars w B A rs) (hb : Below C w w') (hC : B ≤ C) : Ars w' B A rs := by
  rcases h with rfl | ⟨ad, e, ha, hh⟩
  · exact .inl rfl
  · exact .inr ⟨ad, e, ha, fun i hi => (hh i hi).below (by rw [add_block]; exact ha) hb hC⟩
theorem Ars.more {w : World} {B B' : Nat} {A : Option Addr} {rs : List Ar} (h : Ars w B A rs) (hB : B ≤ B') : Ars w B' A rs := by
  rcases h with rfl | ⟨ad, e, ha, hh⟩
  · exact .inl rfl
  · refine .inr ⟨ad, e, by omega, fun i hi => ?_⟩
    obtain ⟨A, c, h0, h1, h2, h3⟩ := hh i hi
    exact ⟨A, c, h0, h1, h2, h3.more hB⟩
theorem Ars.ar {w : World} {B : Nat} {A : Option Addr} {rs : List Ar} (h : Ars w B A rs) {k : Nat} (hk : k < rs.length) :
    ∃ (a : Ar) (ad : Addr) (A' : Option Addr) (c : Nat), rs[k] = a ∧ A = some ad ∧ (ad.add (k * 2)).block < B ∧ w.cell? (ad.add (k * 2)) = some (.int .i64 a.t) ∧ w.cell? ⟨(ad.add (k * 2)).block, (ad.add (k * 2)).off + 1, none⟩ = some (.slice A' a.os.length c) ∧ a.os.length ≤ c ∧ Objs w B A' a.os := by
  rcases h with rfl | ⟨ad, e, ha, hh⟩
  · simp at hk
  · obtain ⟨A', c, h0, h1, h2, h3⟩ := hh k hk
    exact ⟨_, ad, A', c, rfl, e, by rw [add_block]; exact ha, h0, h1, h2, h3⟩
/-- Among the cells xs the j-th area is a; its objects are of the call's own. -/
def ArIs (w : World) (B : Nat) (xs : List Value) (j : Nat) (a : Ar) : Prop :=
  ∃ (A : Option Addr) (c : Nat), xs[j * 2]? = some (.int .i64 a.t) ∧ xs[j * 2 + 1]? = some (.slice A a.os.length c) ∧ a.os.length ≤ c ∧ OwnObs w B (.slice A a.os.length c) a.os
/-- The slice v, of the call's own, holds the areas rs. -/
def OwnArs (w : World) (B : Nat) (v : Value) (rs : List Ar) : Prop :=
  ∃ xs, w.ownsRow B 84 2 v rs.length xs ∧ ∀ j (hj : j < rs.length), ArIs w B xs j rs[j]
theorem OwnArs.below {w w' : World} {B : Nat} {v : Value} {rs : List Ar} (h : OwnArs w B v rs) (hb : Below w.heap.size w w') : OwnArs w' B v rs := by
  obtain ⟨xs, h1, h2⟩ := h
  refine ⟨xs, own_below h1 hb (Nat.le_refl _), fun j hj => ?_⟩
  obtain ⟨A, c, q0, q1, q2, q3⟩ := h2 j hj
  exact ⟨A, c, q0, q1, q2, q3.below hb⟩
theorem OwnArs.but {w w' : World} {R B : Nat} {v : Value} {rs : List Ar} (h : OwnArs w B v rs) (hb : But R w w') (hR : R < B) : OwnArs w' B v rs := by
  obtain ⟨xs, h1, h2⟩ := h
  refine ⟨xs, World.ownsRow.kept h1 hb ?_, fun j hj => ?_⟩
  · rcases hv : v.ownBlock with _ | k
    · exact .inl rfl
    · refine .inr (fun e => ?_)
      have := (World.ownsRow.lt h1 k hv).1
      injection e with e
      omega
  · obtain ⟨A, c, q0, q1, q2, q3⟩ := h2 j hj
    exact ⟨A, c, q0, q1, q2, q3.but hb hR⟩
theorem OwnArs.base {w : World} {B B' : Nat} {v : Value} {rs : List Ar} (h : OwnArs w B v rs) (hB : B' ≤ B) : OwnArs w B' v rs := by
  obtain ⟨xs, ⟨h1, h1'⟩, h2⟩ := h
  refine ⟨xs, ⟨h1, ?_⟩, fun j hj => ?_⟩
  · rcases h1' with h | ⟨g, cap, cur, hv, hb, hr⟩
    · exact .inl h
    · exact .inr ⟨g, cap, cur, hv, by omega, hr⟩
  · obtain ⟨A, c, q0, q1, q2, q3⟩ := h2 j hj
    exact ⟨A, c, q0, q1, q2, q3.base hB⟩
theorem OwnArs.lt {w : World} {B : Nat} {v : Value} {rs : List Ar} (h : OwnArs w B v rs) : ∀ k, v.ownBlock = some k → B ≤ k := fun k hk => by
  obtain ⟨xs, h1, _⟩ := h
  exact (World.ownsRow.lt h1 k hk).1
theorem OwnArs.nil_new {w : World} {B : Nat} (hB : B ≤ w.heap.size) : OwnArs (w.alloc (.cells #[] 84)) B (.slice (some ⟨w.heap.size, 0, none⟩) 0 0) [] :=
  ⟨[], nil_own hB _ _, fun j hj => by simp at hj⟩
theorem OwnArs.nil_none (w : World) (B : Nat) : OwnArs w B (.slice none 0 0) [] := ⟨[], ⟨rfl, .inl ⟨rfl, rfl⟩⟩, fun j hj => by simp at hj⟩
theorem OwnObs.nil_none (w : World) (B : Nat) : OwnObs w B (.slice none 0 0) [] := ⟨[], ⟨rfl, .inl ⟨rfl, rfl⟩⟩, fun j hj => by simp at hj⟩
/-- A list of objects, its length and its room. -/
theorem OwnObs.formq {w : World} {B : Nat} {v : Value} {os : List Ob} (h : OwnObs w B v os) : ∃ (A : Option Addr) (c : Nat), v = .slice A os.length c ∧ Objs w w.heap.size A os ∧ os.length ≤ c := by
  obtain ⟨A, c, rfl, ho⟩ := h.form
  obtain ⟨xs, ⟨_, h1⟩, _⟩ := h
  refine ⟨A, c, rfl, ho, ?_⟩
  rcases h1 with ⟨e, h0⟩ | ⟨g, cap, cur, e, _, _, hn, _⟩
  · injection e with _ e2 e3; omega
  · injection e with _ e2 e3; omega
theorem OwnArs.form {w : World} {B : Nat} {v : Value} {rs : List Ar} (h : OwnArs w B v rs) : ∃ (A : Option Addr) (c : Nat), v = .slice A rs.length c ∧ Ars w w.heap.size A rs ∧ rs.length ≤ c := by
  obtain ⟨xs, h1, h2⟩ := h
  have h1' := h1
  obtain ⟨hl, h1⟩ := h1
  rcases h1 with ⟨rfl, h0⟩ | ⟨g, cap, cur, rfl, hB, hh, hn, hm, hcs, htk⟩
  · exact ⟨none, 0, by rw [h0], .inl (List.eq_nil_of_length_eq_zero h0), by omega⟩
  · refine ⟨some ⟨g, 0, none⟩, cap, rfl, .inr ⟨_, rfl, (World.ownsRow.lt h1' g rfl).2, fun i hi => ?_⟩, hn⟩
    obtain ⟨A, c, q0, q1, q2, q3⟩ := h2 i hi
    have hc := World.ownsRow.cells h1' (g := g) rfl
    have e : ∀ d, (((⟨g, 0, none⟩ : Addr).add (i * 2)).add d) = (⟨g, 0, none⟩ : Addr).add (i * 2 + d) := fun d => by
      rw [add_lit, add_lit]
      unfold Addr.add
      split
      · rename_i h; subst h; rfl
      · rfl
    obtain ⟨A3, c3, e3, h3⟩ := q3.form
    injection e3 with e3 _ _
    subst e3
    exact ⟨A, c, hc _ _ q0, by rw [e]; exact hc _ _ q1, q2, h3⟩
/-- A row lies in another block than one of another type. -/
theorem row_kept {w w1 : World} {B sz n : Nat} {u : Value} {T T' : TypeId} {ys : List Value} {row : Option Nat} (h' : w.ownsRow B T sz u n ys) (hT : T ≠ T') (hg : w.grownBy w1 row) (hr : ∀ g, row = some g → ∃ cur fr, w.heap[g]? = some (.cells cur T' fr)) : w1.ownsRow B T sz u n ys := by
  refine World.ownsRow.kept h' hg ?_
  rcases hu : u.ownBlock with _ | k
  · exact .inl rfl
  · refine .inr (fun e => ?_)
    rcases h'.2 with ⟨rfl, _⟩ | ⟨g, _, cur, rfl, _, hh, _⟩
    · cases hu
    · have hk : g = k := by simpa [Value.ownBlock] using hu
      subst hk
      obtain ⟨cur2, fr2, hh2⟩ := hr g e.symm
      rw [hh] at hh2
      injection hh2 with h3
      injection h3 with _ h3
      exact hT h3
theorem OwnObs.keptT {w w1 : World} {B : Nat} {u : Value} {os : List Ob} {T : TypeId} {row : Option Nat} (h : OwnObs w B u os) (h1 : 38 ≠ T) (h2 : 3 ≠ T) (hg : w.grownBy w1 row) (hr : ∀ g, row = some g → ∃ cur fr, w.heap[g]? = some (.cells cur T fr)) : OwnObs w1 B u os := by
  obtain ⟨xs, a1, a2⟩ := h
  refine ⟨xs, row_kept a1 h1 hg hr, fun j hj => ?_⟩
  obtain ⟨A, c, q0, q1, q2, q3⟩ := a2 j hj
  exact ⟨A, c, q0, q1, q2, row_kept q3 h2 hg hr⟩
theorem OwnArs.keptT {w w1 : World} {B : Nat} {u : Value} {rs : List Ar} {T : TypeId} {row : Option Nat} (h : OwnArs w B u rs) (h0 : 84 ≠ T) (h1 : 38 ≠ T) (h2 : 3 ≠ T) (hg : w.grownBy w1 row) (hr : ∀ g, row = some g → ∃ cur fr, w.heap[g]? = some (.cells cur T fr)) : OwnArs w1 B u rs := by
  obtain ⟨xs, a1, a2⟩ := h
  refine ⟨xs, row_kept a1 h0 hg hr, fun j hj => ?_⟩
  obtain ⟨A, c, q0, q1, q2, q3⟩ := a2 j hj
  exact ⟨A, c, q0, q1, q2, q3.keptT h1 h2 hg hr⟩
/-- Objects lie in other blocks than areas. -/
theorem OwnObs.kept_ {w w1 : World} {B : Nat} {u : Value} {os : List Ob} {row : Option Nat} (h : OwnObs w B u os) (hg : w.grownBy w1 row) (hr : ∀ g, row = some g → ∃ cur fr, w.heap[g]? = some (.cells cur 84 fr)) : OwnObs w1 B u os := h.keptT (by decide) (by decide) hg hr
theorem BlkQ.row_type {w : World} {g : Nat} {t : TypeId} {v0 v1 : Value} (h : BlkQ w g t v0 v1) : ∀ k, some g = some k → ∃ cur fr, w.heap[k]? = some (.cells cur t fr) := fun k hk => by
  injection hk with hk
  subst hk
  exact ⟨_, _, h⟩
/-- A cell of a quarantine is stored into. -/
theorem OwnObs.farQ {w : World} {B g : Nat} {u v0 v1 : Value} {os : List Ob} (h : OwnObs w B u os) (hg : BlkQ w g 26 v0 v1) (o : Nat) (x : Value) : OwnObs (w.setCell ⟨g, o, none⟩ x) B u os := h.keptT (by decide) (by decide) (but_set w g o x) hg.row_type
theorem OwnArs.farQ {w : World} {B g : Nat} {u v0 v1 : Value} {rs : List Ar} (h : OwnArs w B u rs) (hg : BlkQ w g 26 v0 v1) (o : Nat) (x : Value) : OwnArs (w.setCell ⟨g, o, none⟩ x) B u rs := h.keptT (by decide) (by decide) (by decide) (but_set w g o x) hg.row_type
/-- A block of a quarantine is no row of areas. -/
theorem BlkQ.ne_row {w : World} {B g n : Nat} {v v0 v1 : Value} {ys : List Value} (h : BlkQ w g 26 v0 v1) (hr : w.ownsRow B 84 2 v n ys) : some g ≠ v.ownBlock := fun e => by
  rcases hr.2 with ⟨rfl, _⟩ | ⟨g2, _, cur, rfl, _, hh, _⟩
  · cases e
  · have hk : g = g2 := by simpa [Value.ownBlock] using e
    subst hk
    unfold BlkQ at h
    rw [h] at hh
    injection hh with h3
    injection h3 with _ h3
    exact absurd h3 (by decide)
theorem OwnArs.row_type {w : World} {B n : Nat} {v : Value} {ys : List Value} (h : w.ownsRow B 84 2 v n ys) : ∀ g, v.ownBlock = some g → ∃ cur fr, w.heap[g]? = some (.cells cur 84 fr) := fun g hg => by
  rcases h.2 with ⟨rfl, _⟩ | ⟨g2, _, cur, rfl, _, hh, _⟩
  · cases hg
  · have hk : g2 = g := by simpa [Value.ownBlock] using hg
    subst hk
    exact ⟨cur, _, hh⟩
/-- One area more. -/
theorem OwnArs.app {w w1 : World} {B c : Nat} {A : Option Addr} {v v' : Value} {rs : List Ar} {a : Ar} {ys : List Value} (hos : ∀ j (hj : j < rs.length), ArIs w B ys j rs[j]) (hc : a.os.length ≤ c)
    (hobs : OwnObs w B (.slice A a.os.length c) a.os) (hrow : w.ownsRow B 84 2 v rs.length ys)
    (hown : w1.ownsRow B 84 2 v' (rs.length + 1) (ys ++ [.int .i64 a.t, .slice A a.os.length c]))
    (hg : (w.alloc (.cells #[.int .i64 a.t, .slice A a.os.length c] 84)).grownBy w1 v.ownBlock) : OwnArs w1 B v' (rs ++ [a]) := by
  have hlen : ys.length = rs.length * 2 := hrow.1
  have al := (Below.refl w.heap.size w).alloc (Nat.le_refl _) (.cells #[.int .i64 a.t, .slice A a.os.length c] 84)
  have keep : ∀ {u : Value} {os : List Ob}, OwnObs w B u os → OwnObs w1 B u os := fun {u os} h =>
    (h.below al).kept_ hg fun g e => OwnArs.row_type (World.ownsRow.alloc hrow _) g e
  refine ⟨_, by simpa using hown, fun j hj => ?_⟩
  by_cases e : j < rs.length
  · obtain ⟨A', c', q0, q1, q2, q3⟩ := hos j e
    rw [List.getElem_append_left e]
    exact ⟨A', c', by rw [List.getElem?_append_left (by omega)]; exact q0, by rw [List.getElem?_append_left (by omega)]; exact q1, q2, keep q3⟩
  · have ej : j = rs.length := by simp at hj; omega
    subst ej
    have eo : (rs ++ [a])[rs.length]'(by simp) = a := by simp
    rw [eo]
    refine ⟨A, c, ?_, ?_, hc, keep hobs⟩
    · rw [List.getElem?_append_right (by omega), hlen]; simp
    · rw [List.getElem?_append_right (by omega), hlen, show rs.length * 2 + 1 - rs.length * 2 = 1 from by omega]; rfl
theorem ar_cells (t : Int) (A : Option Addr) (n c : Nat) : ∀ u ∈ [Value.int .i64 t, .slice A n c], u.oneCell' = true := by
  intro u hu
  simp only [List.mem_cons, List.not_mem_nil, or_false] at hu
  rcases hu with rfl | rfl <;> rfl
theorem new_two (w : World) (v0 v1 : Value) (t : TypeId) : ∀ j u, [v0, v1][j]? = some u → (w.alloc (.cells #[v0, v1] t)).cell? ((⟨w.heap.size, 0, none⟩ : Addr).add j) = some u :=
  World.news_of_block (cs := #[v0, v1]) (heap_alloc_new w _)
theorem info_ar : (Try.prog.info? 84).map (fun i => (i.zero, i.size, i.bytes)) = some (some (.agg #[.int .i64 0, .slice none 0 0]), 2, 32) := by kernel_rfl

/-! ### Quarantines. -/
/-- A quarantine as a value. -/
def qv (A : Option Addr) (n c : Nat) (A2 : Option Addr) (n2 c2 : Nat) : Value := .agg #[.slice A n c, .slice A2 n2 c2]
/-- The quarantine q, read. -/
def Quar (w : World) (B : Nat) (v : Value) (q : Qr) : Prop := ∃ A c A2 c2, v = qv A q.m.length c A2 q.rs.length c2 ∧ Objs w B A q.m ∧ q.m.length ≤ c ∧ Ars w B A2 q.rs ∧ q.rs.length ≤ c2
/-- The quarantine q, of the call's own. -/
def OwnQ (w : World) (B : Nat) (v : Value) (q : Qr) : Prop := ∃ A c A2 c2, v = qv A q.m.length c A2 q.rs.length c2 ∧ OwnObs w B (.slice A q.m.length c) q.m ∧ q.m.length ≤ c ∧ OwnArs w B (.slice A2 q.rs.length c2) q.rs ∧ q.rs.length ≤ c2
theorem Quar.below {w w' : World} {B C : Nat} {v : Value} {q : Qr} (h : Quar w B v q) (hb : Below C w w') (hC : B ≤ C) : Quar w' B v q := by
  obtain ⟨A, c, A2, c2, e, h1, h2, h3, h4⟩ := h
  exact ⟨A, c, A2, c2, e, h1.below hb hC, h2, h3.below hb hC, h4⟩
theorem Quar.more {w : World} {B B' : Nat} {v : Value} {q : Qr} (h : Quar w B v q) (hB : B ≤ B') : Quar w B' v q := by
  obtain ⟨A, c, A2, c2, e, h1, h2, h3, h4⟩ := h
  exact ⟨A, c, A2, c2, e, h1.more hB, h2, h3.more hB, h4⟩
theorem Quar.on {w w' : World} {B : Nat} {v : Value} {q : Qr} (h : Quar w B v q) (hb : Below B w w') (hB : B ≤ w'.heap.size) : Quar w' w'.heap.size v q := (h.below hb (Nat.le_refl _)).more hB
theorem OwnQ.below {w w' : World} {B : Nat} {v : Value} {q : Qr} (h : OwnQ w B v q) (hb : Below w.heap.size w w') : OwnQ w' B v q := by
  obtain ⟨A, c, A2, c2, e, h1, h2, h3, h4⟩ := h
  exact ⟨A, c, A2, c2, e, h1.below hb, h2, h3.below hb, h4⟩
theorem OwnQ.but {w w' : World} {R B : Nat} {v : Value} {q : Qr} (h : OwnQ w B v q) (hb : But R w w') (hR : R < B) : OwnQ w' B v q := by
  obtain ⟨A, c, A2, c2, e, h1, h2, h3, h4⟩ := h
  exact ⟨A, c, A2, c2, e, h1.but hb hR, h2, h3.but hb hR, h4⟩
theorem OwnQ.base {w : World} {B B' : Nat} {v : Value} {q : Qr} (h : OwnQ w B v q) (hB : B' ≤ B) : OwnQ w B' v q := by
  obtain ⟨A, c, A2, c2, e, h1, h2, h3, h4⟩ := h
  exact ⟨A, c, A2, c2, e, h1.base hB, h2, h3.base hB, h4⟩
theorem OwnQ.quar {w : World} {B : Nat} {v : Value} {q : Qr} (h : OwnQ w B v q) : Quar w w.heap.size v q := by
  obtain ⟨A, c, A2, c2, e, h1, h2, h3, h4⟩ := h
  obtain ⟨_, _, e5, h5⟩ := h1.form
  injection e5 with e5 _ _
  subst e5
  obtain ⟨_, _, e6, h6, _⟩ := h3.form
  injection e6 with e6 _ _
  subst e6
  exact ⟨A, c, A2, c2, e, h5, h2, h6, h4⟩
theorem OwnQ.none_ (w : World) (B : Nat) : OwnQ w B (qv none 0 0 none 0 0) ⟨[], []⟩ := ⟨none, 0, none, 0, rfl, OwnObs.nil_none w B, Nat.le_refl _, OwnArs.nil_none w B, Nat.le_refl _⟩
theorem OwnQ.mk_ {w : World} {B : Nat} {u v : Value} {q : Qr} (h1 : OwnObs w B u q.m) (h2 : OwnArs w B v q.rs) : OwnQ w B (.agg #[u, v]) q := by
  obtain ⟨A, c, rfl, _, hc⟩ := h1.formq
  obtain ⟨A2, c2, rfl, _, hc2⟩ := h2.form
  exact ⟨A, c, A2, c2, rfl, h1, hc, h2, hc2⟩
/-- Behind it: a quarantine of the call's own. -/
def NewQ (q : Qr) (w : World) (e : Ending) (w' : World) : Prop := ∃ v, e = .returned v ∧ OwnQ w' w.heap.size v q ∧ Below w.heap.size w w'
/-- Behind it: a quarantine of the call's own, and a word. -/
def NewQB (q : Qr) (b : Bool) (w : World) (e : Ending) (w' : World) : Prop := ∃ v, e = .returned (.tuple #[v, .bool b]) ∧ OwnQ w' w.heap.size v q ∧ Below w.heap.size w w'
end Go.Proofs.Ytblknnifccmpkaa
namespace Go.Proofs.Ytblknnifccmpkaa
open Go.RowKit Wo Pu
namespace Qu

/-- The area at k may stand there. -/
def OkA (rs : List Ar) (k : Nat) (h : k < rs.length) : Prop := ArV rs[k] ∧ (k = 0 ∨ ∃ h' : 0 < k, (rs[k - 1]'(by omega)).t < rs[k].t)
def ArTo (rs : List Ar) (k : Nat) : Prop := ∀ j (h : j < rs.length), j < k → OkA rs j h
theorem ArTo.zero (rs : List Ar) : ArTo rs 0 := fun _ _ h => absurd h (Nat.not_lt_zero _)
theorem ArTo.next {rs : List Ar} {k : Nat} (h : ArTo rs k) (hk : k < rs.length) (ho : OkA rs k hk) : ArTo rs (k + 1) := fun j hj hl => by
  by_cases e : j = k
  · subst e; exact ho
  · exact h j hj (by omega)
theorem asc_all (rs : List Ar) : AscA (-1) rs ↔ ∀ k (h : k < rs.length), OkA rs k h := by
  rw [ascA_iff]
  refine ⟨fun h k hk => ?_, fun h k hk => ?_⟩
  · obtain ⟨h1, h2⟩ := h k hk
    refine ⟨h1, ?_⟩
    by_cases e : k = 0
    · exact .inl e
    · rw [dif_neg e] at h2
      exact .inr ⟨by omega, h2⟩
  · obtain ⟨h1, h2⟩ := h k hk
    refine ⟨h1, ?_⟩
    by_cases e : k = 0
    · rw [dif_pos e]; have := h1.1.1; omega
    · rw [dif_neg e]
      rcases h2 with h2 | ⟨_, h2⟩
      · exact absurd h2 e
      · exact h2
theorem qv_no {q : Qr} {b : Bool} (hb : b = true ↔ QV q) {k : Nat} (hk : k < q.rs.length) (h : ¬ OkA q.rs k hk) : b = false := by
  rw [← Bool.not_eq_true]
  exact fun e => h ((asc_all q.rs).1 (hb.1 e).2.1 k hk)
theorem qv_end {q : Qr} {b : Bool} (hb : b = true ↔ QV q) (h : ArTo q.rs q.rs.length) : b = (storeB q.m && decide (q.rs.length ≤ 4)) := by
  rw [Bool.eq_iff_iff, hb, Bool.and_eq_true, decide_eq_true_eq]
  unfold QV
  rw [asc_all]
  exact ⟨fun e => ⟨e.1, e.2.2⟩, fun e => ⟨e.1, fun k hk => h k hk hk, e.2⟩⟩
/-- None of the first k is of t. -/
def NoA (rs : List Ar) (t : Int) (k : Nat) : Prop := ∀ j (h : j < rs.length), j < k → rs[j].t ≠ t
theorem NoA.zero (rs : List Ar) (t : Int) : NoA rs t 0 := fun _ _ h => absurd h (Nat.not_lt_zero _)
theorem NoA.next {rs : List Ar} {t : Int} {k : Nat} (h : NoA rs t k) (hk : k < rs.length) (e : rs[k].t ≠ t) : NoA rs t (k + 1) := fun j hj hl => by
  by_cases e2 : j = k
  · subst e2; exact e
  · exact h j hj (by omega)
theorem NoA.none {rs : List Ar} {t : Int} (h : NoA rs t rs.length) : ¬ has rs t := fun ⟨a, ha, e⟩ => by
  obtain ⟨i, hi, rfl⟩ := List.getElem_of_mem ha
  exact h i hi hi e
theorem NoA.arOf {rs : List Ar} {t : Int} : ∀ {k : Nat}, NoA rs t k → (hk : k < rs.length) → rs[k].t = t → arOf rs t = rs[k].os := by
  induction rs with
  | nil => intro k _ hk; simp at hk
  | cons a rs ih =>
    intro k h hk e
    cases k with
    | zero => show (if a.t = t then a.os else _) = _; rw [if_pos (show a.t = t from e)]; rfl
    | succ k =>
      show (if a.t = t then a.os else Qu.arOf rs t) = _
      rw [if_neg (show ¬ a.t = t from h 0 (by simp) (by omega))]
      exact ih (fun j hj hl => h (j + 1) (by simpa using hj) (by omega)) (by simpa using hk) e
/-- Where the area of t is, -1 if there is none. -/
def Idx (rs : List Ar) (t r : Int) : Prop := (r = -1 ∧ ¬ has rs t ∧ arOf rs t = []) ∨ ∃ k, ∃ h : k < rs.length, r = (k : Int) ∧ NoA rs t k ∧ rs[k].t = t ∧ arOf rs t = rs[k].os
theorem idx_ex (rs : List Ar) (t : Int) : ∃ r, Idx rs t r := by
  induction rs with
  | nil => exact ⟨-1, .inl ⟨rfl, (fun ⟨a, ha, _⟩ => by cases ha), rfl⟩⟩
  | cons a rs ih =>
    by_cases e : a.t = t
    · exact ⟨0, .inr ⟨0, by simp, rfl, .zero _ _, e, by show (if a.t = t then a.os else _) = _; rw [if_pos e]; rfl⟩⟩
    · have ea : Qu.arOf (a :: rs) t = Qu.arOf rs t := by show (if a.t = t then a.os else _) = _; rw [if_neg e]
      obtain ⟨r, ⟨h1, h2, h3⟩ | ⟨k, hk, rfl, h4, h2, h3⟩⟩ := ih
      · refine ⟨-1, .inl ⟨rfl, fun ⟨b, hb, eb⟩ => ?_, by rw [ea]; exact h3⟩⟩
        rcases List.mem_cons.1 hb with rfl | hb
        · exact e eb
        · exact h2 ⟨b, hb, eb⟩
      · refine ⟨((k + 1 : Nat) : Int), .inr ⟨k + 1, by simpa using hk, rfl, fun j hj hl => ?_, h2, by rw [ea]; exact h3⟩⟩
        cases j with
        | zero => exact e
        | succ j => exact h4 j (by simpa using hj) (by omega)
theorem Idx.has {rs : List Ar} {t r : Int} (h : Idx rs t r) : (r = -1 ∧ ¬ Qu.has rs t) ∨ (0 ≤ r ∧ r < rs.length ∧ Qu.has rs t) := by
  rcases h with ⟨h1, h2, _⟩ | ⟨k, hk, rfl, _, h2, _⟩
  · exact .inl ⟨h1, h2⟩
  · exact .inr ⟨by omega, by omega, _, List.getElem_mem hk, h2⟩
theorem Idx.at {rs : List Ar} {t r : Int} (h : Idx rs t r) {k : Nat} (hk : k < rs.length) (hn : NoA rs t k) (e : rs[k].t = t) : r = (k : Int) := by
  rcases h with ⟨_, h2, _⟩ | ⟨j, hj, rfl, h3, h2, _⟩
  · exact absurd ⟨_, List.getElem_mem hk, e⟩ h2
  · congr 1
    by_cases h4 : j < k
    · exact absurd h2 (hn j hj h4)
    · by_cases h5 : k < j
      · exact absurd e (h3 k hk h5)
      · omega
theorem Idx.none {rs : List Ar} {t r : Int} (h : Idx rs t r) (hn : NoA rs t rs.length) : r = -1 := by
  rcases h with ⟨h1, _, _⟩ | ⟨j, hj, rfl, _, h2, _⟩
  · exact h1
  · exact absurd h2 (hn j hj hj)
/-- The areas that have been laid, and what is still to come. -/
def SetTo (rs : List Ar) (t : Int) (x : List Ob) (out : List Ar) (p : Bool) (k : Nat) : Prop := setA rs t x = out ++ setR t x p (rs.drop k)
theorem SetTo.zero (rs : List Ar) (t : Int) (x : List Ob) : SetTo rs t x [] (decide (x.length = 0)) 0 := rfl
theorem SetTo.next {rs : List Ar} {t : Int} {x : List Ob} {out : List Ar} {p : Bool} {k : Nat} (h : SetTo rs t x out p k) (hk : k < rs.length) :
    SetTo rs t x (out ++ ((if !p && decide (t ≤ rs[k].t) then [⟨t, x⟩] else []) ++ (if rs[k].t = t then [] else [rs[k]]))) (p || decide (t ≤ rs[k].t)) (k + 1) := by
  unfold SetTo at h ⊢
  rw [h, List.drop_eq_getElem_cons hk, setR_cons, List.append_assoc, List.append_assoc]
theorem SetTo.all {rs : List Ar} {t : Int} {x : List Ob} {out : List Ar} {p : Bool} (h : SetTo rs t x out p rs.length) : setA rs t x = out ++ (if p then [] else [⟨t, x⟩]) := by
  unfold SetTo at h
  rw [h, List.drop_length]
  rfl
/-- Sizes that a call can bear. -/
def FitQ (q : Qr) : Prop := Fit q.m ∧ q.m.length ≤ 1048576 ∧ q.rs.length ≤ 1048576 ∧ ∀ a ∈ q.rs, Fit a.os ∧ a.os.length ≤ 1048576
/-- Sizes of what is valid. -/
def SmQ (q : Qr) : Prop := (∀ o ∈ q.m, o.zs.length ≤ 1048576) ∧ q.m.length ≤ 1048576 ∧ q.rs.length ≤ 1048576 ∧ ∀ a ∈ q.rs, (∀ o ∈ a.os, o.zs.length ≤ 1048576) ∧ a.os.length ≤ 1048576
theorem store_small {os : List Ob} (h : storeB os = true) : (∀ o ∈ os, o.zs.length ≤ 4 ∧ o.s.size ≤ 8) ∧ os.length ≤ 16 := by
  refine ⟨fun o ho => ?_, (storeB_parts h).2⟩
  obtain ⟨i, hi, rfl⟩ := List.getElem_of_mem ho
  have := vldB_parts (storeB_valid h i hi)
  exact ⟨this.2.1, this.2.2.1⟩
theorem store_fit {os : List Ob} (h : storeB os = true) : Fit os := fun o ho => by
  have := (store_small h).1 o ho
  unfold maxLen
  omega
theorem QV.small {q : Qr} (h : QV q) : SmQ q := by
  obtain ⟨h1, h2, h3⟩ := h
  have h4 := store_small h1
  refine ⟨fun o ho => by have := (h4.1 o ho).1; omega, by omega, by omega, fun a ha => ?_⟩
  have h5 := store_small (h2.mem a ha).2.2.1
  exact ⟨fun o ho => by have := (h5.1 o ho).1; omega, by omega⟩
theorem QV.fit {q : Qr} (h : QV q) : FitQ q := by
  obtain ⟨h1, h2, h3⟩ := h
  have h4 := store_small h1
  refine ⟨store_fit h1, by omega, by omega, fun a ha => ?_⟩
  have h6 := (h2.mem a ha).2.2.1
  have h5 := store_small h6
  exact ⟨store_fit h6, by omega⟩
theorem NoA.last {rs : List Ar} {t : Int} {k : Nat} (h : NoA rs t k) (hk : rs.length ≤ k) : ¬ has rs t := NoA.none fun j hj hl => h j hj (by omega)
end Qu
end Go.Proofs.Ytblknnifccmpkaa
namespace Go.Proofs.Ytblknnifccmpkaa
open Go.RowKit Wo Pu Qu

theorem bool_of' (P : Prop) : ∃ b : Bool, b = true ↔ P := by
  by_cases h : P
  · exact ⟨true, by simp [h]⟩
  · exact ⟨false, by simp [h]⟩
theorem l12Txn_is (b : Bool) (t : Int) (w : World) (hb : b = true ↔ TxnV t) : Calls Try.prog 65 #[.int .i64 t] w (Same (.bool b) w) := by
  have HB := hid hb
  clear hb
  by_cases h0 : 0 ≤ t
  · have e0 : decide (0 ≤ t) = true := decide_eq_true h0
    by_cases h1 : t ≤ 11
    · have e1 : decide (t ≤ 11) = true := decide_eq_true h1
      have F := hid (HB.out.2 ⟨h0, h1⟩)
      go_enter Try.func65, Try.ntmps65
      go_wp2
      go_ret
      rw [F.out]
      exact ⟨rfl, rfl⟩
    · have e1 : decide (t ≤ 11) = false := decide_eq_false h1
      have F : Hid (b = false) := by
        show b = false
        rw [← Bool.not_eq_true]
        exact fun e => h1 (HB.out.1 e).2
      go_enter Try.func65, Try.ntmps65
      go_wp2
      go_ret
      rw [F.out]
      exact ⟨rfl, rfl⟩
  · have e0 : decide (0 ≤ t) = false := decide_eq_false h0
    have F : Hid (b = false) := by
      show b = false
      rw [← Bool.not_eq_true]
      exact fun e => h0 (HB.out.1 e).1
    go_enter Try.func65, Try.ntmps65
    go_wp2
    go_ret
    rw [F.out]
    exact ⟨rfl, rfl⟩
/-- A quarantine laid into a block. -/
def boxQ (A : Option Addr) (n c : Nat) (A2 : Option Addr) (n2 c2 : Nat) : Obj := .cells #[.slice A n c, .slice A2 n2 c2] 26
set_option maxHeartbeats 2000000 in
theorem l13Find_is (r : Int) (v : Value) (q : Qr) (t : Int) (w : World) (h : Quar w w.heap.size v q) (hn : q.rs.length ≤ 1048576) (hr : Idx q.rs t r) : Calls Try.prog 66 #[v, .int .i64 t] w (Ret (.int .i64 r) w) := by
  obtain ⟨A, c, A2, c2, rfl, -, -, ha0, -⟩ := h
  have HR := hid hr
  clear hr
  unfold qv
  go_enter Try.func66, Try.ntmps66
  have al := (Below.refl w.heap.size w).alloc (Nat.le_refl _) (.cells #[.slice A q.m.length c, .slice A2 q.rs.length c2] 26)
  have ha := (ha0.below al (Nat.le_refl _)).more al.size
  have u := BlkQ.new_ w 26 (.slice A q.m.length c) (.slice A2 q.rs.length c2)
  go_wp2_with fail
  generalize w.alloc (.cells #[.slice A q.m.length c, .slice A2 q.rs.length c2] 26) = W at *
  obtain ⟨z0, z1, -⟩ := id u.reads
  go_loop [5] (fun i => ∃ k : Nat, k ≤ q.rs.length ∧ i = .int .i64 k ∧ Hid (NoA q.rs t k)) (fun i => q.rs.length - (intOf i).toNat)
  case atStart => exact ⟨0, Nat.zero_le _, rfl, .zero _ _⟩
  case round =>
    obtain ⟨k, hk, rfl, H⟩ := hrel
    by_cases hlt : k < q.rs.length
    · obtain ⟨a, ad, A', c', ho, rfl, hb, g0, g1, -, -⟩ := ha.ar hlt
      have q0 : (0 : Int) ≤ (k : Int) := by omega
      have q1 : (k : Int) < (q.rs.length : Int) := by omega
      by_cases he : a.t = t
      · have e0 : (a.t == t) = true := by rw [beq_iff_eq]; exact he
        have F := hid (HR.out.at hlt H.out (by rw [ho]; exact he))
        clear H he
        go_wp2
        go_ret
        rw [F.out]
        exact .mk_ al
      · have e0 : (a.t == t) = false := by rw [beq_eq_false_iff_ne]; exact he
        have HN := hid (H.out.next hlt (by rw [ho]; exact he))
        clear H he
        go_wp2
        go_round
        case rel => exact ⟨k + 1, by omega, by go_num, HN⟩
        case measure => simp [intOf]; omega
    · have hk' : k = q.rs.length := by omega
      subst hk'
      have F := hid (HR.out.none H.out)
      clear H
      go_wp2
      go_ret
      rw [F.out]
      exact .mk_ al
end Go.Proofs.Ytblknnifccmpkaa
namespace Go.Proofs.Ytblknnifccmpkaa
open Go.RowKit Wo Pu Qu

/-- What l13All answers. -/
def NewAll (os l : List Ob) (w : World) (e : Ending) (w' : World) : Prop :=
  ∃ v xs b, e = .returned (.tuple #[v, .bool b]) ∧ OwnObs w' w.heap.size v xs ∧ Hid (storeB xs = true ∧ (b = true → Uni os l xs) ∧ (b = false → xs = [] ∧ ¬ ∃ ys, Uni os l ys)) ∧ Below w.heap.size w w'
set_option maxRecDepth 100000 in
set_option maxHeartbeats 4000000 in
theorem l13All_any (A A2 : Option Addr) (c c2 : Nat) (os l : List Ob) (w : World) (h : Objs w w.heap.size A os) (hl : Objs w w.heap.size A2 l) (HS : Hid (storeB os = true)) (HL : Hid (storeB l = true)) :
    Calls Try.prog 67 #[.slice A os.length c, .slice A2 l.length c2] w (NewAll os l w) := by
  have hls := (storeB_parts HL.out).2
  have hos := (storeB_parts HS.out).2
  go_enter Try.func67, Try.ntmps67
  go_wp2_with fail
  refine (l1Copy_any A c os w h (by omega) (fun o ho => by have := ((store_small HS.out).1 o ho).1; omega)).mono ?_
  rintro e w1 ⟨v1, rfl, o1, b1⟩
  go_wp2_with fail
  go_loopw [6, 7] (fun v i wr => ∃ (k : Nat) (ys : List Ob), k ≤ l.length ∧ i = .int .i64 k ∧ OwnObs wr w.heap.size v ys ∧ Hid (Uni os (l.take k) ys) ∧ Below w.heap.size w wr) (fun _ i _ => l.length - (intOf i).toNat)
  case atStart => exact ⟨0, os, Nat.zero_le _, rfl, o1, by rw [List.take_zero]; exact Uni.none_ HS.out, b1⟩
  case round =>
    obtain ⟨k, ys, hk, rfl, ho, HU, hb⟩ := hrel
    clear o1 b1
    have hz := hb.size
    obtain ⟨Ay, cy, rfl, hy, hcy⟩ := ho.formq
    by_cases hlt : k < l.length
    · obtain ⟨o, ad, A', c', hoe, rfl, ha, g0, g1, g2, g3⟩ := ((hl.below hb (Nat.le_refl _)).more hz).obj hlt
      have q0 : (0 : Int) ≤ (k : Int) := by omega
      have q1 : (k : Int) < (l.length : Int) := by omega
      have HSY := hid HU.out.1
      obtain ⟨r, hr⟩ := at_ex ys (iOb o)
      have HR := hid hr
      have HV : Hid (vOb o = true) := by show _ = _; rw [← hoe]; exact storeB_valid HL.out k hlt
      have hym := (storeB_parts HSY.out).2
      have HO : Hid (o ∈ l ∧ ∀ ys', Uni ys [o] ys' → Uni os (l.take (k + 1)) ys') := ⟨by rw [← hoe]; exact List.getElem_mem hlt, fun ys' hy' => by
        rw [List.take_succ_eq_append_getElem hlt, hoe]
        exact HU.out.snoc hy'⟩
      clear hr hoe
      go_wp2_with fail
      refine (l1Put_any Ay cy ys A' c' o r wr hy hcy (by omega) (fun i hi => storeB_valid HSY.out i hi) g3 HV HR).mono ?_
      rintro e w2 ⟨v2, ys', b2, rfl, hp, ho2, hb2⟩
      have b3 := hb.trans (hb2.mono hz)
      have ho3 := ho2.base hz
      cases b2 with
      | true =>
        have hu := put_yes HSY.out HV.out HR.out hp
        have HN := hid (HO.out.2 ys' hu)
        clear hp hu HU HSY HR HO
        go_wp2_with fail
        go_roundw
        case rel => exact ⟨k + 1, ys', by omega, by go_num, ho3, HN, b3⟩
        case measure => simp [intOf]; omega
      | false =>
        have HN : Hid (¬ ∃ xs, Uni os l xs) := fun ⟨xs, hx⟩ =>
          put_no HSY.out HR.out hp hx.1 (fun x hm => (hx.2 x).2 (by
            rcases (HU.out.2 x).1 hm with e | e
            · exact .inl e
            · exact .inr (List.mem_of_mem_take e))) ((hx.2 o).2 (.inr HO.out.1))
        clear hp HU HSY HR HO
        have on := OwnObs.nil_new (w := w2) b3.size
        have b4 := b3.alloc b3.size (.cells #[] 38)
        go_wp2_with fail
        go_ret2
        exact ⟨_, [], false, rfl, on, ⟨rfl, (fun e => by cases e), fun _ => ⟨rfl, HN.out⟩⟩, b4⟩
    · have hk' : k = l.length := by omega
      subst hk'
      have HN : Hid (Uni os l ys) := by
        have := HU.out
        rwa [List.take_length] at this
      clear HU
      go_wp2_with fail
      go_ret2
      exact ⟨_, ys, true, rfl, ho, ⟨HN.out.1, fun _ => HN.out, (fun e => by cases e)⟩, hb⟩
/-! ### The laws' areas. -/
/-- Behind it: objects to be read. -/
def Shown (os : List Ob) (w : World) (e : Ending) (w' : World) : Prop := ∃ A c, e = .returned (.slice A os.length c) ∧ os.length ≤ c ∧ Objs w' w'.heap.size A os ∧ Below w.heap.size w w'
set_option maxHeartbeats 2000000 in
theorem areaOf_any (v : Value) (q : Qr) (t : Int) (w : World) (h : Quar w w.heap.size v q) (hn : q.rs.length ≤ 1048576) :
    Calls Try.prog 25 #[v, .int .i64 t] w (Shown (arOf q.rs t) w) := by
  obtain ⟨A, c, A2, c2, rfl, -, -, ha0, -⟩ := h
  obtain ⟨os, hos⟩ : ∃ os, arOf q.rs t = os := ⟨_, rfl⟩
  rw [hos]
  have HO := hid hos
  clear hos
  unfold qv
  go_enter Try.func25, Try.ntmps25
  have al := (Below.refl w.heap.size w).alloc (Nat.le_refl _) (.cells #[.slice A q.m.length c, .slice A2 q.rs.length c2] 26)
  have ha := (ha0.below al (Nat.le_refl _)).more al.size
  have u := BlkQ.new_ w 26 (.slice A q.m.length c) (.slice A2 q.rs.length c2)
  go_wp2_with fail
  generalize w.alloc (.cells #[.slice A q.m.length c, .slice A2 q.rs.length c2] 26) = W at *
  obtain ⟨z0, z1, -⟩ := id u.reads
  go_loop [5] (fun i => ∃ k : Nat, k ≤ q.rs.length ∧ i = .int .i64 k ∧ Hid (NoA q.rs t k)) (fun i => q.rs.length - (intOf i).toNat)
  case atStart => exact ⟨0, Nat.zero_le _, rfl, .zero _ _⟩
  case round =>
    obtain ⟨k, hk, rfl, H⟩ := hrel
    by_cases hlt : k < q.rs.length
    · obtain ⟨a, ad, A', c', ho, rfl, hb, g0, g1, g2, g3⟩ := ha.ar hlt
      have q0 : (0 : Int) ≤ (k : Int) := by omega
      have q1 : (k : Int) < (q.rs.length : Int) := by omega
      by_cases he : a.t = t
      · have e0 : (a.t == t) = true := by rw [beq_iff_eq]; exact he
        have F : Hid (a.os = os) := by
          have := H.out.arOf hlt (by rw [ho]; exact he)
          rw [HO.out, ho] at this
          exact this.symm
        clear H he
        go_wp2
        go_ret
        rw [← F.out]
        exact ⟨A', c', rfl, g2, g3, al⟩
      · have e0 : (a.t == t) = false := by rw [beq_eq_false_iff_ne]; exact he
        have HN := hid (H.out.next hlt (by rw [ho]; exact he))
        clear H he
        go_wp2
        go_round
        case rel => exact ⟨k + 1, by omega, by go_num, HN⟩
        case measure => simp [intOf]; omega
    · have hk' : k = q.rs.length := by omega
      subst hk'
      have F : Hid (os = []) := by
        show os = []
        rw [← HO.out]
        exact arOf_no H.out.none
      clear H
      have al2 := al.alloc al.size (.cells #[] 38)
      go_wp2
      go_ret
      rw [F.out]
      exact ⟨_, _, rfl, Nat.le_refl _, .inl rfl, al2⟩
end Go.Proofs.Ytblknnifccmpkaa
namespace Go.Proofs.Ytblknnifccmpkaa
open Go.RowKit Wo Pu
namespace Qu

/-- The objects that count: those of the store, and those of the area whose ids the store lacks. -/
def effQ (m a : List Ob) : List Ob := m ++ a.filter (fun o => !isIn m (iOb o))
theorem effQ_mem {m a : List Ob} {o : Ob} : o ∈ effQ m a ↔ o ∈ m ∨ (o ∈ a ∧ isIn m (iOb o) = false) := by
  unfold effQ
  rw [List.mem_append, List.mem_filter, Bool.not_eq_true']
theorem eff_q {m a : List Ob} (hm : storeB m = true) (ha : storeB a = true) : Eff (m ++ a) (effQ m a) := by
  refine ⟨fun r h hf => ?_, fun o ho => ?_, fun o ho p hp e => ?_, fun o ho => ?_⟩
  · by_cases hr : r < m.length
    · rw [List.getElem_append_left hr]
      exact effQ_mem.2 (.inl (List.getElem_mem hr))
    · rw [List.getElem_append_right (by omega)]
      refine effQ_mem.2 (.inr ⟨List.getElem_mem _, ?_⟩)
      rw [Bool.eq_false_iff]
      intro e
      obtain ⟨o, ho, hi⟩ := isIn_iff.1 e
      obtain ⟨j, hj, rfl⟩ := List.mem_iff_getElem.1 ho
      refine hf j (by rw [List.length_append]; omega) (by omega) ?_
      rw [List.getElem_append_left hj, List.getElem_append_right (by omega)]
      exact hi
  · rcases effQ_mem.1 ho with h | h
    · exact List.mem_append_left _ h
    · exact List.mem_append_right _ h.1
  · have no : ∀ {x y : Ob}, x ∈ m → isIn m (iOb y) = false → iOb x = iOb y → False := fun {x y} hx hy e => by
      rw [isIn_iff.2 ⟨x, hx, e⟩] at hy
      cases hy
    rcases effQ_mem.1 ho with h | h
    · rcases effQ_mem.1 hp with k | k
      · exact Go.Proofs.Ytblknnifccmpkaa.storeB_inj hm h k e
      · exact (no h k.2 e).elim
    · rcases effQ_mem.1 hp with k | k
      · exact (no k h.2 e.symm).elim
      · exact Go.Proofs.Ytblknnifccmpkaa.storeB_inj ha h.1 k.1 e
  · have v : ∀ {os : List Ob}, storeB os = true → o ∈ os → vOb o = true := fun {os} hs h => by
      obtain ⟨i, hi, rfl⟩ := List.mem_iff_getElem.1 h
      exact storeB_valid hs i hi
    rcases List.mem_append.1 ho with h | h
    · exact v hm h
    · exact v ha h
theorem isIn_app (m a : List Ob) (x : Int) : isIn (m ++ a) x = (isIn m x || isIn a x) := by
  unfold isIn
  exact List.any_append
theorem Rc.congr_ {os es : List Ob} {fr : List Int} (h : ∀ o, o ∈ os → o ∈ es) {x : Int} (hx : Rc os fr x) : Rc es fr x := by
  induction hx with
  | base h => exact .base h
  | link ho _ hy ih => exact .link (h _ ho) ih hy
theorem Rc.range_ {os es : List Ob} (he : Eff os es) {fr : List Int} {x : Int} (hl : linksB fr = true) (h : Rc es fr x) : 0 ≤ x ∧ x < 991 := by
  induction h with
  | base h => exact (linksB_parts hl).1.2 _ h
  | link ho _ hy _ => exact he.links _ ho _ hy
/-- The arguments with which there is something to be told. -/
def MisOk (q : Qr) (t : Int) (fr : List Int) : Prop := QV q ∧ TxnV t ∧ linksB fr = true
/-- M is what QuarantineMissing answers. -/
def QMis (q : Qr) (t : Int) (fr M : List Int) : Prop :=
  Asc M ∧ ((MisOk q t fr ∧ ∀ x, x ∈ M ↔ Rc (effQ q.m (arOf q.rs t)) fr x ∧ isIn (q.m ++ arOf q.rs t) x = false) ∨ (¬ MisOk q t fr ∧ M = []))
theorem asc_ext {L M : List Int} (hL : Asc L) (hM : Asc M) (h : ∀ x, x ∈ L ↔ x ∈ M) : L = M := by
  induction L generalizing M with
  | nil =>
    cases M with
    | nil => rfl
    | cons b M => exact absurd ((h b).2 (List.mem_cons_self ..)) (by simp)
  | cons a L ih =>
    cases M with
    | nil => exact absurd ((h a).1 (List.mem_cons_self ..)) (by simp)
    | cons b M =>
      have h1 := List.pairwise_cons.1 hL
      have h2 := List.pairwise_cons.1 hM
      have e : a = b := by
        rcases List.mem_cons.1 ((h a).1 (List.mem_cons_self ..)) with e | e
        · exact e
        · rcases List.mem_cons.1 ((h b).2 (List.mem_cons_self ..)) with e2 | e2
          · exact e2.symm
          · have := h1.1 b e2; have := h2.1 a e; omega
      subst e
      rw [ih h1.2 h2.2 fun x => ?_]
      constructor
      · intro hx
        rcases List.mem_cons.1 ((h x).1 (List.mem_cons_of_mem _ hx)) with e | e
        · have := h1.1 x hx; omega
        · exact e
      · intro hx
        rcases List.mem_cons.1 ((h x).2 (List.mem_cons_of_mem _ hx)) with e | e
        · have := h2.1 x hx; omega
        · exact e
theorem QMis.one {q : Qr} {t : Int} {fr L M : List Int} (h : QMis q t fr L) (h' : QMis q t fr M) : L = M := by
  rcases h.2 with ⟨h1, h2⟩ | ⟨h1, h2⟩
  · rcases h'.2 with ⟨g1, g2⟩ | ⟨g1, g2⟩
    · exact asc_ext h.1 h'.1 fun x => (h2 x).trans (g2 x).symm
    · exact absurd h1 g1
  · rcases h'.2 with ⟨g1, g2⟩ | ⟨g1, g2⟩
    · exact absurd g1 h1
    · rw [h2, g2]
theorem QMis.ok {q : Qr} {t : Int} {fr M : List Int} (h : QMis q t fr M) (hM : M ≠ []) : MisOk q t fr ∧ ∀ x, x ∈ M → isIn q.m x = false ∧ isIn (arOf q.rs t) x = false := by
  rcases h.2 with ⟨h1, h2⟩ | ⟨_, h2⟩
  · refine ⟨h1, fun x hx => ?_⟩
    have := ((h2 x).1 hx).2
    rw [isIn_app, Bool.or_eq_false_iff] at this
    exact this
  · exact absurd h2 hM
theorem mis_of {q : Qr} {t : Int} {fr L : List Int} (h : MisOk q t fr) (hL : RcList (effQ q.m (arOf q.rs t)) fr L) : QMis q t fr (missL (q.m ++ arOf q.rs t) L) := by
  refine ⟨missL_asc _ _, .inl ⟨h, fun x => ?_⟩⟩
  unfold missL
  rw [List.mem_filter, sortedTo_mem, hL x, Bool.not_eq_true']
  exact ⟨fun e => ⟨e.1.1, e.2⟩, fun e => ⟨⟨e.1, Rc.range_ (eff_q h.1.1 (arOf_store h.1.2.1 t)) h.2.2 e.1⟩, e.2⟩⟩
theorem QMis.few {q : Qr} {t : Int} {fr M : List Int} (h : QMis q t fr M) : M.length ≤ 991 := by
  rcases h.2 with ⟨h1, h2⟩ | ⟨_, h2⟩
  · refine range_le (h.1.imp fun e => Int.ne_of_lt e) fun x hx => ?_
    exact Rc.range_ (eff_q h1.1.1 (arOf_store h1.1.2.1 t)) h1.2.2 ((h2 x).1 hx).1
  · rw [h2]; simp
/-- What is missing stays missing when the area is promoted. -/
theorem mis_promote {q : Qr} {t : Int} {fr M : List Int} {z : List Ob} (h : QMis q t fr M) (hq : QV q) (ht : TxnV t) (hz : Uni q.m (arOf q.rs t) z) : IsM z fr M := by
  have hsub : ∀ o, o ∈ effQ q.m (arOf q.rs t) ↔ o ∈ z := fun o => by
    rw [effQ_mem, hz.2]
    constructor
    · rintro (e | e)
      · exact .inl e
      · exact .inr e.1
    · rintro (e | e)
      · exact .inl e
      · by_cases hi : isIn q.m (iOb o) = true
        · obtain ⟨p, hp, ep⟩ := isIn_iff.1 hi
          have := Go.Proofs.Ytblknnifccmpkaa.storeB_inj hz.1 ((hz.2 p).2 (.inl hp)) ((hz.2 o).2 (.inr e)) ep
          rw [← this]
          exact .inl hp
        · exact .inr ⟨e, by simpa using hi⟩
  have hin : ∀ x, isIn (q.m ++ arOf q.rs t) x = isIn z x := fun x => by
    rw [Bool.eq_iff_iff, isIn_iff, isIn_iff]
    constructor
    · rintro ⟨o, ho, e⟩
      exact ⟨o, (hz.2 o).2 (List.mem_append.1 ho), e⟩
    · rintro ⟨o, ho, e⟩
      exact ⟨o, List.mem_append.2 ((hz.2 o).1 ho), e⟩
  refine ⟨h.1, ?_⟩
  rcases h.2 with ⟨h1, h2⟩ | ⟨h1, h2⟩
  · refine .inl ⟨⟨hz.1, h1.2.2⟩, fun x => ?_⟩
    rw [h2, hin]
    exact and_congr_left fun _ => ⟨Rc.congr_ fun o => (hsub o).1, Rc.congr_ fun o => (hsub o).2⟩
  · refine .inr ⟨?_, h2⟩
    rw [hz.1, Bool.true_and, ← Bool.not_eq_true]
    exact fun e => h1 ⟨hq, ht, e⟩
theorem isM_one {os : List Ob} {fr L M : List Int} (h : IsM os fr L) (h' : IsM os fr M) : L = M := by
  rcases h.2 with ⟨h1, h2⟩ | ⟨h1, h2⟩
  · rcases h'.2 with ⟨g1, g2⟩ | ⟨g1, g2⟩
    · exact asc_ext h.1 h'.1 fun x => (h2 x).trans (g2 x).symm
    · rw [h1.1, h1.2] at g1; cases g1
  · rcases h'.2 with ⟨g1, g2⟩ | ⟨g1, g2⟩
    · rw [g1.1, g1.2] at h1; cases h1
    · rw [h2, g2]
end Qu
end Go.Proofs.Ytblknnifccmpkaa
namespace Go.Proofs.Ytblknnifccmpkaa
open Go.RowKit Wo Pu Qu

/-- An element, as it is. -/
def rawE (v : Value) : Option (DataW Value × List MemPlace) := some (.held v, [])
theorem intK : Go.Maps.Keyed Try.prog 3 := Go.Maps.int_keyed Try.underlying3
def WfT (t : Int) : Prop := (Lit.int .i64 t).wf = true
theorem wfT_of {t : Int} (h0 : -9223372036854775808 ≤ t) (h1 : t ≤ 9223372036854775807) : WfT t := WalkArith.wf_i64 ⟨h0, h1⟩
theorem wfT_txn {t : Int} (h : TxnV t) : WfT t := wfT_of (by have := h.1; omega) (by have := h.2; omega)
def upd {α : Type} (f : Int → Option α) (k : Int) (v : Option α) : Int → Option α := fun t => if t = k then v else f t
theorem upd_same {α : Type} (f : Int → Option α) (k : Int) (v : Option α) : upd f k v k = v := if_pos rfl
theorem upd_other {α : Type} {f : Int → Option α} {k t : Int} {v : Option α} (h : t ≠ k) : upd f k v t = f t := if_neg h
/-- Block b is a map of n entries; f tells the element at each key. -/
def MapQ (w : World) (b n : Nat) (f : Int → Option Value) : Prop :=
  ∃ D : DataW Value, w.ownsMap Try.prog 3 rawE b n D ∧ Go.Maps.size D = n ∧ ∀ t : Int, WfT t → Go.Maps.has D (.int .i64 t) = (f t).isSome ∧ ∀ z, D.atKey (.int .i64 t) (.held z) = .held ((f t).getD z)
section
variable {w w' : World} {b n : Nat} {f : Int → Option Value}
theorem MapQ.made (w : World) : MapQ (w.alloc (.map #[] 0)) w.heap.size 0 (fun _ => none) := ⟨.map [], World.ownsMap_made _ _ _ _, rfl, fun _ _ => ⟨rfl, fun _ => rfl⟩⟩
theorem MapQ.lt (h : MapQ w b n f) : b < w.heap.size := by obtain ⟨_, h, _⟩ := h; exact h.lt
theorem MapQ.kept {row : Option Nat} (h : MapQ w b n f) (hg : w.grownBy w' row) (hne : some b ≠ row) : MapQ w' b n f := by
  obtain ⟨D, h, r⟩ := h
  exact ⟨D, h.kept hg hne, r⟩
theorem MapQ.below {C : Nat} (h : MapQ w b n f) (hb : Below C w w') (hC : b < C) : MapQ w' b n f := by
  obtain ⟨D, ⟨es, clock, q0, q1⟩, r⟩ := h
  exact ⟨D, ⟨es, clock, (hb.block b hC).trans q0, q1⟩, r⟩
theorem MapQ.later (h : MapQ w b n f) (hb : Below w.heap.size w w') : MapQ w' b n f := h.below hb h.lt
theorem MapQ.block (h : MapQ w b n f) : ∃ es clock, w.heap[b]? = some (.map es clock) := by
  obtain ⟨D, ⟨es, clock, q0, _⟩, _⟩ := h
  exact ⟨es, clock, q0⟩
theorem tight {D : DataW Value} {m : Nat} (h : w.ownsMap Try.prog 3 rawE b m D) : w.ownsMap Try.prog 3 rawE b (Go.Maps.size D) D := by
  obtain ⟨es, clock, q0, q1, q2, rfl⟩ := h
  exact ⟨es, clock, q0, q1, by simp [Go.Maps.size, length_sorted], rfl⟩
theorem lit_ne {t k : Int} (h : t ≠ k) : (Lit.int .i64 t) ≠ Lit.int .i64 k := fun e => h (by injection e)
theorem wfKey {k : Int} (hk : WfT k) : keyOf Try.prog 3 (.int .i64 k) = some (.int .i64 k) := Go.Maps.keyOf_int_mk Try.underlying3 hk
theorem MapQ.put {t e : TypeId} (h : MapQ w b n f) (ht : Try.prog.underlying t = some (.map 3 e)) (hn : n < maxLen) {k : Int} (hk : WfT k) (v : Value) :
    ∃ w', (Instr.mapUpdate t (.map (some b)) (.int .i64 k) v).run Try.prog w = .ok () w' ∧ MapQ w' b (if (f k).isSome then n else n + 1) (upd f k (some v)) ∧ w.grownBy w' (some b) := by
  obtain ⟨D, ho, hs, hf⟩ := h
  obtain ⟨w', hr, ho', hg⟩ := ho.update intK ht hn (wfKey hk) (show rawE v = some (.held v, []) from rfl)
  have ez : Go.Maps.size (D.put (.int .i64 k) (.held v)) = if (f k).isSome then n else n + 1 := by
    rw [Go.Maps.size_put (ho.tidy intK), (hf k hk).1, hs]
  refine ⟨w', hr, ⟨D.put (.int .i64 k) (.held v), ?_, ez, fun s hs' => ?_⟩, hg⟩
  · rw [← ez]; exact tight ho'
  · by_cases e : s = k
    · subst e
      rw [upd_same, Go.Maps.has_put_same ho.isMap (intK.key (wfKey hk))]
      exact ⟨rfl, fun z => Go.Maps.atKey_put_same ho.isMap (intK.key (wfKey hk)) _ _⟩
    · rw [upd_other e, Go.Maps.has_put_other (lit_ne e)]
      exact ⟨(hf s hs').1, fun z => by rw [Go.Maps.atKey_put_other (lit_ne e)]; exact (hf s hs').2 z⟩
theorem MapQ.drop {t e : TypeId} (h : MapQ w b n f) (ht : Try.prog.underlying t = some (.map 3 e)) {k : Int} (hk : WfT k) (ty : TypeId) :
    ∃ w', (Builtin.delete_ #[t, 3] ty #[.map (some b), .int .i64 k]).run Try.prog w = .ok (.tuple #[]) w' ∧ (∃ m, MapQ w' b m (upd f k none)) ∧ w.grownBy w' (some b) := by
  obtain ⟨D, ho, hs, hf⟩ := h
  obtain ⟨w', hr, ho', hg⟩ := ho.drop intK ht (wfKey hk) ty
  refine ⟨w', hr, ⟨_, D.del (.int .i64 k), tight ho', rfl, fun s hs' => ?_⟩, hg.grown⟩
  by_cases e : s = k
  · subst e
    rw [upd_same, Go.Maps.has_del_same]
    exact ⟨rfl, fun z => Go.Maps.atKey_del_same _⟩
  · rw [upd_other e, Go.Maps.has_del_other (lit_ne e)]
    exact ⟨(hf s hs').1, fun z => by rw [Go.Maps.atKey_del_other (lit_ne e)]; exact (hf s hs').2 z⟩
theorem held_inj {x y : Value} {ps : List MemPlace} (h : rawE x = some (.held y, ps)) : x = y := by
  unfold rawE at h
  injection h with h
  injection h with h _
  injection h
theorem MapQ.look {t e : TypeId} (h : MapQ w b n f) (ht : Try.prog.underlying t = some (.map 3 e)) (hz : (zeroValue e).run Try.prog w = .ok (.slice none 0 0) w) {k : Int} (hk : WfT k) :
    (Instr.lookup t (.map (some b)) (.int .i64 k) false).run Try.prog w = .ok ((f k).getD (.slice none 0 0)) w := by
  obtain ⟨D, ho, hs, hf⟩ := h
  obtain ⟨v, ps, hr, hv⟩ := ho.lookup intK ht hz (show rawE (.slice none 0 0) = some (.held (.slice none 0 0), []) from rfl) (wfKey hk)
  rw [(hf k hk).2] at hv
  rw [hr, held_inj hv]
theorem MapQ.look_ok {t e : TypeId} (h : MapQ w b n f) (ht : Try.prog.underlying t = some (.map 3 e)) (hz : (zeroValue e).run Try.prog w = .ok (.slice none 0 0) w) {k : Int} (hk : WfT k) :
    (Instr.lookup t (.map (some b)) (.int .i64 k) true).run Try.prog w = .ok (.tuple #[(f k).getD (.slice none 0 0), .bool (f k).isSome]) w := by
  obtain ⟨D, ho, hs, hf⟩ := h
  obtain ⟨v, ps, hr, hv⟩ := ho.look_ok intK ht hz (show rawE (.slice none 0 0) = some (.held (.slice none 0 0), []) from rfl) (wfKey hk)
  rw [(hf k hk).2] at hv
  rw [hr, held_inj hv, (hf k hk).1]
theorem MapQ.len {t e : TypeId} (h : MapQ w b n f) (ht : Try.prog.underlying t = some (.map 3 e)) (ty : TypeId) : (Builtin.len_ #[t] ty #[.map (some b)]).run Try.prog w = .ok (.int .i64 n) w := by
  obtain ⟨D, ho, hs, hf⟩ := h
  have := ho.len ht ty
  rwa [hs] at this
end

/-! ### At the operation, for the walk. -/
section
variable {w : World} {ops : Array Oper} {rest : List Oper} {o : Oper} {a : Act} {Q : Exit → Act → World → Prop} {b n : Nat} {f : Int → Option Value}
theorem wpList_update_q (hg : o.guard = none) (m x v : Operand) (t e : TypeId) (hop : o.op = Op.mapUpdate t m x v) (ht : Try.prog.underlying t = some (.map 3 e))
    (hm : a.eval m = .map (some b)) (hown : MapQ w b n f) (hn : n < maxLen) (k : Int) (val : Value) (hx : a.eval x = .int .i64 k) (hv : a.eval v = val) (hk : WfT k)
    (hK : ∀ w', MapQ w' b (if (f k).isSome then n else n + 1) (upd f k (some val)) → w.grownBy w' (some b) → wpList Try.prog ops Q rest (a.put o.dst undef) w') : wpList Try.prog ops Q (o :: rest) a w := by
  refine wpList_plain hg fun K' hK' => ?_
  obtain ⟨w', hrun, r1, r2⟩ := hown.put ht hn hk val
  unfold Oper.wp
  simp [execOp, hop, hm, hx, hv, hrun, Result.andThen]
  exact hK' _ _ (hK w' r1 r2)
theorem wpList_delete_q (hg : o.guard = none) (m x : Operand) (t e : TypeId) (hop : o.op = Op.call { callee := Callee.builtin Builtin.delete, args := #[m, x], argTypes := #[t, 3] }) (ht : Try.prog.underlying t = some (.map 3 e))
    (hm : a.eval m = .map (some b)) (hown : MapQ w b n f) (k : Int) (hx : a.eval x = .int .i64 k) (hk : WfT k)
    (hK : ∀ w' m, MapQ w' b m (upd f k none) → w.grownBy w' (some b) → wpList Try.prog ops Q rest (a.put o.dst (.tuple #[])) w') : wpList Try.prog ops Q (o :: rest) a w := by
  refine wpList_plain hg fun K' hK' => ?_
  obtain ⟨w', hrun, ⟨m', r1⟩, r2⟩ := hown.drop ht hk o.type
  unfold Oper.wp
  simp [execOp, hop, resolve, invoke, builtin, hm, hx, hrun, Result.andThen]
  exact hK' _ _ (hK w' m' r1 r2)
theorem wpList_len_q (hg : o.guard = none) (m : Operand) (t e : TypeId) (hop : o.op = Op.call { callee := Callee.builtin Builtin.len, args := #[m], argTypes := #[t] }) (ht : Try.prog.underlying t = some (.map 3 e))
    (hm : a.eval m = .map (some b)) (hown : MapQ w b n f) (hK : wpList Try.prog ops Q rest (a.put o.dst (.int .i64 n)) w) : wpList Try.prog ops Q (o :: rest) a w := by
  refine wpList_plain hg fun K' hK' => ?_
  unfold Oper.wp
  simp [execOp, hop, resolve, invoke, builtin, hm, hown.len ht o.type, Result.andThen]
  exact hK' _ _ hK
theorem wpList_look_q (hg : o.guard = none) (m x : Operand) (t e : TypeId) (hop : o.op = Op.lookup t m x false) (ht : Try.prog.underlying t = some (.map 3 e)) (hz : (zeroValue e).run Try.prog w = .ok (.slice none 0 0) w)
    (hm : a.eval m = .map (some b)) (hown : MapQ w b n f) (k : Int) (hx : a.eval x = .int .i64 k) (hk : WfT k) (v : Value) (hv : (f k).getD (.slice none 0 0) = v)
    (hK : wpList Try.prog ops Q rest (a.put o.dst v) w) : wpList Try.prog ops Q (o :: rest) a w := by
  subst hv
  refine wpList_plain hg fun K' hK' => ?_
  unfold Oper.wp
  simp [execOp, hop, hm, hx, hown.look ht hz hk, Result.andThen]
  exact hK' _ _ hK
theorem wpList_lookok_q (hg : o.guard = none) (m x : Operand) (t e : TypeId) (hop : o.op = Op.lookup t m x true) (ht : Try.prog.underlying t = some (.map 3 e)) (hz : (zeroValue e).run Try.prog w = .ok (.slice none 0 0) w)
    (hm : a.eval m = .map (some b)) (hown : MapQ w b n f) (k : Int) (hx : a.eval x = .int .i64 k) (hk : WfT k) (v : Value) (hv : (f k).getD (.slice none 0 0) = v) (c : Bool) (hc : (f k).isSome = c)
    (hK : wpList Try.prog ops Q rest (a.put o.dst (.tuple #[v, .bool c])) w) : wpList Try.prog ops Q (o :: rest) a w := by
  subst hv hc
  refine wpList_plain hg fun K' hK' => ?_
  unfold Oper.wp
  simp [execOp, hop, hm, hx, hown.look_ok ht hz hk, Result.andThen]
  exact hK' _ _ hK
end

/-! ### Areas by their transactions. -/
/-- A cell that can be read is no map's. -/
theorem cell_map {w : World} {b : Nat} {es : Array MapEntry} {clock : Nat} (hb : w.heap[b]? = some (.map es clock)) {p : Addr} {v : Value} (hp : w.cell? p = some v) : p.block ≠ b := fun e => by
  unfold World.cell? at hp
  rw [e, hb] at hp
  simp at hp
/-- What could be read can still be read. -/
def Reads (w w' : World) : Prop := ∀ p v, w.cell? p = some v → w'.cell? p = some v
theorem Reads.of_map {w w' : World} {b : Nat} {es : Array MapEntry} {clock : Nat} (hb : w.heap[b]? = some (.map es clock)) (hg : w.grownBy w' (some b)) : Reads w w' := fun p v hp => by
  have h1 := cell_map hb hp
  have h2 : p.block < w.heap.size := by
    rcases Nat.lt_or_ge p.block w.heap.size with h | h
    · exact h
    · unfold World.cell? at hp
      rw [Array.getElem?_eq_none h] at hp
      simp at hp
  rw [← hp]
  exact World.cell?_of_block (hg.block p.block h2 fun e => h1 (by injection e))
theorem Wo.Row.reads {w w' : World} {B : Nat} {A : Option Addr} {vs : List Value} (h : Row w B A vs) (hr : Reads w w') : Row w' B A vs := by
  rcases h with h | ⟨ad, e, h1, h2⟩
  · exact .inl h
  · exact .inr ⟨ad, e, h1, fun j v hj => hr _ _ (h2 j v hj)⟩
theorem Objs.reads {w w' : World} {B : Nat} {A : Option Addr} {os : List Ob} (h : Objs w B A os) (hr : Reads w w') : Objs w' B A os := by
  rcases h with h | ⟨ad, e, h1, h2⟩
  · exact .inl h
  · refine .inr ⟨ad, e, h1, fun j hj => ?_⟩
    obtain ⟨A1, c1, q0, q1, q2, q3⟩ := h2 j hj
    exact ⟨A1, c1, hr _ _ q0, hr _ _ q1, hr _ _ q2, q3.reads hr⟩
/-- Block b is a map of n areas; g tells the objects of each transaction. -/
def AMap (w : World) (b n : Nat) (g : Int → Option (List Ob)) : Prop :=
  ∃ f, MapQ w b n f ∧ ∀ t, (f t = none ∧ g t = none) ∨ ∃ os A c, g t = some os ∧ f t = some (.slice A os.length c) ∧ os.length ≤ c ∧ Objs w w.heap.size A os
section
variable {w w' : World} {b n : Nat} {g : Int → Option (List Ob)}
theorem AMap.made (w : World) : AMap (w.alloc (.map #[] 0)) w.heap.size 0 (fun _ => none) := ⟨_, MapQ.made w, fun _ => .inl ⟨rfl, rfl⟩⟩
theorem AMap.lt (h : AMap w b n g) : b < w.heap.size := by obtain ⟨_, h, _⟩ := h; exact h.lt
theorem AMap.later (h : AMap w b n g) (hb : Below w.heap.size w w') : AMap w' b n g := by
  obtain ⟨f, h, hf⟩ := h
  refine ⟨f, h.later hb, fun t => ?_⟩
  rcases hf t with e | ⟨os, A, c, q0, q1, q2, q3⟩
  · exact .inl e
  · exact .inr ⟨os, A, c, q0, q1, q2, (q3.below hb (Nat.le_refl _)).more hb.size⟩
theorem AMap.drew (h : AMap w b n g) : AMap w.drew b n g := h.later (Below.refl _ _).drew
/-- One transaction's objects are stored. -/
theorem AMap.put_ {m : Nat} {f : Int → Option Value} (hf : ∀ t, (f t = none ∧ g t = none) ∨ ∃ os A c, g t = some os ∧ f t = some (.slice A os.length c) ∧ os.length ≤ c ∧ Objs w w.heap.size A os) (hq : MapQ w b n f) {t : Int} {os : List Ob} {A : Option Addr} {c : Nat}
    (ho : Objs w w.heap.size A os) (hc : os.length ≤ c) (h' : MapQ w' b m (upd f t (some (.slice A os.length c)))) (hg : w.grownBy w' (some b)) : AMap w' b m (upd g t (some os)) := by
  obtain ⟨es, clock, hb⟩ := hq.block
  have hr := Reads.of_map hb hg
  refine ⟨_, h', fun s => ?_⟩
  by_cases e : s = t
  · subst e
    exact .inr ⟨os, A, c, upd_same _ _ _, upd_same _ _ _, hc, (ho.reads hr).more hg.size⟩
  · rw [upd_other e, upd_other e]
    rcases hf s with e | ⟨os', A', c', q0, q1, q2, q3⟩
    · exact .inl e
    · exact .inr ⟨os', A', c', q0, q1, q2, (q3.reads hr).more hg.size⟩
theorem AMap.drop_ {m : Nat} {f : Int → Option Value} (hf : ∀ t, (f t = none ∧ g t = none) ∨ ∃ os A c, g t = some os ∧ f t = some (.slice A os.length c) ∧ os.length ≤ c ∧ Objs w w.heap.size A os) (hq : MapQ w b n f) {t : Int}
    (h' : MapQ w' b m (upd f t none)) (hg : w.grownBy w' (some b)) : AMap w' b m (upd g t none) := by
  obtain ⟨es, clock, hb⟩ := hq.block
  have hr := Reads.of_map hb hg
  refine ⟨_, h', fun s => ?_⟩
  by_cases e : s = t
  · subst e
    exact .inl ⟨upd_same _ _ _, upd_same _ _ _⟩
  · rw [upd_other e, upd_other e]
    rcases hf s with e | ⟨os', A', c', q0, q1, q2, q3⟩
    · exact .inl e
    · exact .inr ⟨os', A', c', q0, q1, q2, (q3.reads hr).more hg.size⟩
end
end Go.Proofs.Ytblknnifccmpkaa
namespace Go.Proofs.Ytblknnifccmpkaa
open Go.RowKit Wo Pu
namespace Qu

/-- The objects of a transaction, if it has an area. -/
def gOf : List Ar → Int → Option (List Ob)
  | [], _ => none
  | a :: rs, t => if a.t = t then some a.os else gOf rs t
theorem gOf_arOf (rs : List Ar) (t : Int) : (gOf rs t).getD [] = arOf rs t := by
  induction rs with
  | nil => rfl
  | cons a rs ih =>
    unfold gOf arOf
    by_cases e : a.t = t
    · rw [if_pos e, if_pos e]; rfl
    · rw [if_neg e, if_neg e]; exact ih
theorem gOf_some {rs : List Ar} {t : Int} {os : List Ob} (h : gOf rs t = some os) : ∃ a ∈ rs, a.t = t ∧ a.os = os := by
  induction rs with
  | nil => cases h
  | cons a rs ih =>
    unfold gOf at h
    by_cases e : a.t = t
    · rw [if_pos e] at h; injection h with h
      exact ⟨a, List.mem_cons_self .., e, h⟩
    · rw [if_neg e] at h
      obtain ⟨b, hb, h1⟩ := ih h
      exact ⟨b, List.mem_cons_of_mem _ hb, h1⟩
theorem gOf_none {rs : List Ar} {t : Int} : gOf rs t = none ↔ ¬ has rs t := by
  induction rs with
  | nil => exact ⟨fun _ ⟨a, ha, _⟩ => (by cases ha), fun _ => rfl⟩
  | cons a rs ih =>
    unfold gOf
    by_cases e : a.t = t
    · rw [if_pos e]
      exact ⟨fun h => (by cases h), fun h => absurd ⟨a, List.mem_cons_self .., e⟩ h⟩
    · rw [if_neg e, ih]
      constructor
      · rintro h ⟨b, hb, hbt⟩
        rcases List.mem_cons.1 hb with rfl | hb
        · exact e hbt
        · exact h ⟨b, hb, hbt⟩
      · rintro h ⟨b, hb, hbt⟩
        exact h ⟨b, List.mem_cons_of_mem _ hb, hbt⟩
theorem gOf_snoc {rs : List Ar} {a : Ar} (h : ¬ has rs a.t) : gOf (rs ++ [a]) = upd (gOf rs) a.t (some a.os) := by
  funext t
  have key : ∀ l : List Ar, gOf (l ++ [a]) t = (gOf l t).or (if a.t = t then some a.os else none) := by
    intro l
    induction l with
    | nil => rfl
    | cons b l ih =>
      show (if b.t = t then some b.os else gOf (l ++ [a]) t) = Option.or (if b.t = t then some b.os else gOf l t) _
      by_cases e : b.t = t
      · rw [if_pos e, if_pos e]; rfl
      · rw [if_neg e, if_neg e]; exact ih
  rw [key]
  by_cases e : t = a.t
  · subst e
    rw [upd_same, gOf_none.2 h, if_pos rfl]; rfl
  · rw [upd_other e, if_neg fun e' => e e'.symm]
    cases gOf rs t <;> rfl
/-- g tells the areas rs. -/
def GQ (rs : List Ar) (g : Int → Option (List Ob)) : Prop := ∀ t, TxnV t → (g t).getD [] = arOf rs t ∧ ∀ os, g t = some os → storeB os = true ∧ os ≠ []
theorem GQ.of {rs : List Ar} (h : AscA (-1) rs) : GQ rs (gOf rs) := fun t _ => ⟨gOf_arOf rs t, fun os ho => by
  obtain ⟨a, ha, _, rfl⟩ := gOf_some ho
  exact ⟨(h.mem a ha).2.2.1, (h.mem a ha).2.2.2⟩⟩
theorem GQ.set_ {rs : List Ar} {g : Int → Option (List Ob)} (h : GQ rs g) {t : Int} {x : List Ob} {rs' : List Ar} (hx : storeB x = true ∧ x ≠ []) (hr : ∀ s, arOf rs' s = if s = t then x else arOf rs s) : GQ rs' (upd g t (some x)) := fun s hs => by
  by_cases e : s = t
  · subst e
    rw [upd_same, hr, if_pos rfl]
    exact ⟨rfl, fun os ho => by injection ho with ho; rw [← ho]; exact hx⟩
  · rw [upd_other e, hr, if_neg e]
    exact h s hs
theorem GQ.del_ {rs : List Ar} {g : Int → Option (List Ob)} (h : GQ rs g) {t : Int} {rs' : List Ar} (hr : ∀ s, arOf rs' s = if s = t then [] else arOf rs s) : GQ rs' (upd g t none) := fun s hs => by
  by_cases e : s = t
  · subst e
    rw [upd_same, hr, if_pos rfl]
    exact ⟨rfl, fun os ho => by cases ho⟩
  · rw [upd_other e, hr, if_neg e]
    exact h s hs
/-- The area of a transaction, as a list. -/
def oneA (g : Int → Option (List Ob)) (t : Int) : List Ar := match g t with
  | some os => [⟨t, os⟩]
  | none => []
/-- The areas of the m transactions from k on. -/
def lsA (g : Int → Option (List Ob)) (k : Int) : Nat → List Ar
  | 0 => []
  | m + 1 => oneA g k ++ lsA g (k + 1) m
theorem lsA_snoc (g : Int → Option (List Ob)) : ∀ (m : Nat) (k : Int), lsA g k (m + 1) = lsA g k m ++ oneA g (k + m) := by
  intro m
  induction m with
  | zero => intro k; show oneA g k ++ [] = [] ++ oneA g (k + 0); rw [List.append_nil, List.nil_append, Int.add_zero]
  | succ m ih =>
    intro k
    show oneA g k ++ lsA g (k + 1) (m + 1) = (oneA g k ++ lsA g (k + 1) m) ++ oneA g (k + ((m + 1 : Nat) : Int))
    rw [ih, List.append_assoc]
    congr 3
    omega
theorem lsA_yes {g : Int → Option (List Ob)} {m : Nat} {os : List Ob} (h : g (m : Int) = some os) : lsA g 0 (m + 1) = lsA g 0 m ++ [⟨(m : Int), os⟩] := by
  rw [lsA_snoc, Int.zero_add]; unfold oneA; rw [h]
theorem lsA_no {g : Int → Option (List Ob)} {m : Nat} (h : g (m : Int) = none) : lsA g 0 (m + 1) = lsA g 0 m := by
  rw [lsA_snoc, Int.zero_add]; unfold oneA; rw [h, List.append_nil]
theorem lsA_length (g : Int → Option (List Ob)) : ∀ (m : Nat) (k : Int), (lsA g k m).length ≤ m := by
  intro m
  induction m with
  | zero => intro k; exact Nat.le_refl _
  | succ m ih =>
    intro k
    have := ih (k + 1)
    have h1 : (oneA g k).length ≤ 1 := by unfold oneA; split <;> simp
    show (oneA g k ++ lsA g (k + 1) m).length ≤ m + 1
    rw [List.length_append]
    omega
theorem lsA_asc {g : Int → Option (List Ob)} : ∀ (m : Nat) (k : Int), 0 ≤ k → k + m ≤ 12 → (∀ t, TxnV t → ∀ os, g t = some os → storeB os = true ∧ os ≠ []) → AscA (k - 1) (lsA g k m) := by
  intro m
  induction m with
  | zero => intro k _ _ _; trivial
  | succ m ih =>
    intro k h0 h1 hg
    have h2 := ih (k + 1) (by omega) (by omega) hg
    rw [show k + 1 - 1 = k from by omega] at h2
    show AscA (k - 1) (oneA g k ++ lsA g (k + 1) m)
    unfold oneA
    have hk : TxnV k := ⟨h0, by omega⟩
    cases e : g k with
    | none => exact h2.weak (by omega)
    | some os => exact ⟨by show k - 1 < k; omega, ⟨hk, hg k hk os e⟩, h2⟩
theorem lsA_of {g : Int → Option (List Ob)} : ∀ (m : Nat) (k t : Int), arOf (lsA g k m) t = if k ≤ t ∧ t < k + m then (g t).getD [] else [] := by
  intro m
  induction m with
  | zero => intro k t; rw [if_neg (by omega)]; rfl
  | succ m ih =>
    intro k t
    show arOf (oneA g k ++ lsA g (k + 1) m) t = _
    by_cases e : k = t
    · subst e
      rw [if_pos (by omega)]
      unfold oneA
      cases h : g k with
      | none =>
        show arOf (lsA g (k + 1) m) k = _
        rw [ih, if_neg (by omega)]; rfl
      | some os =>
        show (if k = k then os else _) = _
        rw [if_pos rfl]; rfl
    · have h1 : arOf (oneA g k ++ lsA g (k + 1) m) t = arOf (lsA g (k + 1) m) t := by
        unfold oneA
        cases g k with
        | none => rfl
        | some os => show (if k = t then os else _) = _; rw [if_neg e]; rfl
      rw [h1, ih]
      by_cases h2 : k + 1 ≤ t ∧ t < k + 1 + m
      · rw [if_pos h2, if_pos (by omega)]
      · rw [if_neg h2, if_neg (by omega)]
/-- The list is that of the areas. -/
theorem lsA_all {rs : List Ar} {g : Int → Option (List Ob)} (h : AscA (-1) rs) (hg : GQ rs g) : lsA g 0 12 = rs := by
  have h1 : AscA (-1) (lsA g 0 12) := lsA_asc 12 0 (by omega) (by omega) fun t ht => (hg t ht).2
  refine ascA_ext h1 h fun t => ?_
  rw [lsA_of]
  by_cases ht : TxnV t
  · rw [if_pos ⟨ht.1, by have := ht.2; omega⟩]
    exact (hg t ht).1
  · rw [if_neg fun e => ht ⟨e.1, by omega⟩]
    exact (arOf_no fun e => ht (has_range h e).2).symm
end Qu
end Go.Proofs.Ytblknnifccmpkaa
namespace Go.Proofs.Ytblknnifccmpkaa
open Go.RowKit Wo Pu

theorem implValid_val (v : Bool) (B : Nat) (A : Option Addr) (c : Nat) (o : Ob) (w : World) (hv : vOb o = v) (hr : Row w B A (ints o.zs)) (hB : B ≤ w.heap.size) (hm : o.zs.length ≤ maxLen) (hs : o.s.size ≤ maxLen) :
    Calls Try.prog 105 #[ob o.kd A o.zs.length c o.s] w (Ret (.bool v) w) := by
  subst hv
  exact implValid_any B A c o.kd o.zs o.s w hr hB hm hs
theorem implId_val (v : Int) (B : Nat) (A : Option Addr) (c : Nat) (o : Ob) (w : World) (hr : Row w B A (ints o.zs)) (hB : B ≤ w.heap.size) (hm : o.zs.length ≤ maxLen) (hs : o.s.size ≤ maxLen) (e : iOb o = v) :
    Calls Try.prog 75 #[ob o.kd A o.zs.length c o.s] w (Ret (.int .i64 v) w) := by
  subst e
  exact implId_any B A c o.kd o.zs o.s w hr hB hm hs

set_option maxHeartbeats 4000000 in
theorem implStorePut_any (A : Option Addr) (c : Nat) (os : List Ob) (A' : Option Addr) (c' : Nat) (o : Ob) (r : Nat) (w : World) (h : Objs w w.heap.size A os) (hf : Fit os) (hn : os.length ≤ maxLen)
    (hro : Row w w.heap.size A' (ints o.zs)) (hfo : o.zs.length ≤ maxLen ∧ o.s.size ≤ maxLen) (hr : Hid (At_ os (iOb o) r)) :
    Calls Try.prog 101 #[.slice A os.length c, ob o.kd A' o.zs.length c' o.s] w (PuttedAll os o r w) := by
  unfold ob
  have h1 : Objs (w.alloc (.cells #[.int .i64 o.kd, .slice A' o.zs.length c', .string o.s] 38)) (w.alloc (.cells #[.int .i64 o.kd, .slice A' o.zs.length c', .string o.s] 38)).heap.size A os :=
    (h.below ((Below.refl w.heap.size w).alloc (Nat.le_refl _) _) (Nat.le_refl _)).more (by simp)
  rcases hst : storeB os with _ | _
  · go_enter Try.func101, Try.ntmps101
    go_wp2_with fail
    refine (implStoreValid_any A c os _ h1 hf hn).mono ?_
    rintro e w1 ⟨rfl, hb1⟩
    obtain ⟨p1, b1, z1⟩ := box_facts hb1 rfl
    clear hb1
    rw [hst]
    go_wp2_with fail
    refine bodyPost_ret (v := .tuple #[.slice (some ⟨w1.heap.size, 0, none⟩) 0 0, .bool false]) (by simp [results, Try.results101, go_sem]) rfl (PuttedAll.none_ b1 (.inl hst))
  · rcases hvo : vOb o with _ | _
    · go_enter Try.func101, Try.ntmps101
      go_wp2_with fail
      refine (implStoreValid_any A c os _ h1 hf hn).mono ?_
      rintro e w1 ⟨rfl, hb1⟩
      obtain ⟨p1, b1, z1⟩ := box_facts hb1 rfl
      clear hb1
      rw [hst]
      obtain ⟨x0, x1, x2, -⟩ := id p1.reads
      go_wp2_with fail
      refine (implValid_val false w.heap.size A' c' o w1 hvo (hro.below b1 (Nat.le_refl _)) b1.size hfo.1 hfo.2).mono ?_
      rintro e w2 ⟨rfl, hb2⟩
      have b2 := b1.trans (hb2.mono b1.size)
      go_wp2_with fail
      refine bodyPost_ret (v := .tuple #[.slice (some ⟨w2.heap.size, 0, none⟩) 0 0, .bool false]) (by simp [results, Try.results101, go_sem]) rfl (PuttedAll.none_ b2 (.inr hvo))
    · have hn16 := (storeB_parts hst).2
      have hn6 : os.length ≤ 1048576 := by omega
      have hsO : ∀ p ∈ os, p.zs.length ≤ 1048576 := fun p hp => by
        obtain ⟨i, hi, rfl⟩ := List.mem_iff_getElem.1 hp
        exact links_few (storeB_valid hst i hi)
      have HST := hid hst
      have HVO := hid hvo
      go_enter Try.func101, Try.ntmps101
      go_wp2_with fail
      refine (implStoreValid_any A c os _ h1 hf hn).mono ?_
      rintro e w1 ⟨rfl, hb1⟩
      obtain ⟨p1, b1, z1⟩ := box_facts hb1 rfl
      clear hb1
      rw [hst]
      obtain ⟨x0, x1, x2, -⟩ := id p1.reads
      go_wp2_with fail
      refine (implValid_val true w.heap.size A' c' o w1 hvo (hro.below b1 (Nat.le_refl _)) b1.size hfo.1 hfo.2).mono ?_
      rintro e w2 ⟨rfl, hb2⟩
      have p2 := p1.below hb2 p1.lt
      have b2 := b1.trans (hb2.mono b1.size)
      clear x0 x1 x2 p1 b1 hb2 hst hvo h1 z1
      obtain ⟨x0, x1, x2, -⟩ := id p2.reads
      go_wp2_with fail
      refine (copyObjects_any A c os w2 ((h.below b2 (Nat.le_refl _)).more b2.size) hn6 hsO).mono ?_
      rintro e w3 ⟨g, rfl, hv3, hb3⟩
      have p3 := p2.below hb3 p2.lt
      have b3 := b2.trans (hb3.mono b2.size)
      have z2 := b2.size
      have za := hb3.size
      clear x0 x1 x2 p2 hb3
      obtain ⟨x0, x1, x2, -⟩ := id p3.reads
      obtain ⟨id0, hid0⟩ : ∃ x, iOb o = x := ⟨_, rfl⟩
      have HID := hid hid0
      go_wp2_with fail
      refine (implId_val id0 w.heap.size A' c' o w3 (hro.below b3 (Nat.le_refl _)) b3.size hfo.1 hfo.2 hid0).mono ?_
      rintro e w4 ⟨rfl, hb4⟩
      have p4 := p3.below hb4 p3.lt
      have b4 := b3.trans (hb4.mono b3.size)
      have hv4 := hv3.below hb4
      have zb := Nat.le_trans za hb4.size
      clear za x0 x1 x2 p3 hb4 hv3 hid0 b3
      go_wp2_with fail
      refine (findObject_any A c os id0 r w4 ((h.below b4 (Nat.le_refl _)).more b4.size) hf hn (by rw [← HID.out]; exact hr)).mono ?_
      rintro e w5 ⟨b, rfl, hbx, hb5⟩
      have p5 := p4.below hb5 p4.lt
      have b5 := b4.trans (hb5.mono b4.size)
      have hv5 := hv4.below hb5
      have zc := Nat.le_trans zb hb5.size
      clear zb p4 hb5 hv4 b4
      have HBX : Hid (b = true ↔ ∃ h : r < os.length, iOb os[r] = iOb o) := by show _ ↔ _; rw [HID.out]; exact hbx
      clear hbx
      obtain ⟨x0, x1, x2, -⟩ := id p5.reads
      have hz5 := b5.size
      cases b
      · have hex : ¬ ∃ h : r < os.length, iOb os[r] = iOb o := fun e => by have := HBX.out.2 e; cases this
        have HEX := hid hex
        clear hex HBX
        by_cases h16 : os.length = 16
        · have e16 : (((os.length : Nat) : Int) == 16) = true := by rw [h16]; rfl
          have H16 := hid h16
          clear h16
          go_wp2_with fail
          refine bodyPost_ret (v := .tuple #[.slice (some ⟨g, 0, none⟩) os.length os.length, .bool false]) (by simp [results, Try.results101, go_sem]) rfl ⟨_, os, false, rfl, ⟨fun _ _ => ⟨fun h1 h2 => absurd ⟨h1, h2⟩ HEX.out, fun _ _ => ⟨rfl, rfl⟩, fun _ hx => absurd hx (by rw [H16.out]; omega)⟩, fun hx => ?_⟩, hv5.base z2, b5⟩
          rw [HST.out, HVO.out] at hx
          rcases hx with hx | hx <;> cases hx
        · have e16 : (((os.length : Nat) : Int) == 16) = false := by rw [beq_eq_false_iff_ne]; omega
          have H16 : Hid (os.length < 16) := by show os.length < 16; omega
          clear h16
          have hzo : o.zs.length ≤ 1048576 := links_few HVO.out
          go_wp2_with fail
          refine (copied_any w.heap.size A' c' o w5 (hro.below b5 (Nat.le_refl _)) hz5 hzo).mono ?_
          rintro e w6 ⟨A6, c6, rfl, hl6, hb6⟩
          unfold ob
          have b6 := b5.trans (hb6.mono hz5)
          have hv6 := hv5.below hb6
          have al := (Below.refl w6.heap.size w6).alloc (Nat.le_refl _) (.cells #[.int .i64 o.kd, .slice A6 o.zs.length c6, .string o.s] 38)
          have hz6 := Nat.le_trans zc hb6.size
          have hv7 := hv6.below al
          have hl7 := (hl6.base zc).below al (Nat.le_refl _)
          have u7 := Blk.new_ w6 38 (.int .i64 o.kd) (.slice A6 o.zs.length c6) (.string o.s)
          have b7 := b6.trans (al.mono b6.size)
          have HI := hid (insert_any w2.heap.size g w6.heap.size r c6 A6 os o _ hv7 u7 hl7 hr.out.1 (by omega) (by simp; omega))
          clear hb6 hl6 hv5 hv6 al hv7 hl7 u7 x0 x1 x2 p5
          go_wp2_with fail
          refine (HI.out).mono ?_
          rintro e w8 ⟨v8, rfl, hv8, b8⟩
          obtain ⟨A8, c8, rfl, _⟩ := hv8.form
          go_wp2_with fail
          refine bodyPost_ret (v := .tuple #[.slice A8 (os.take r ++ o :: os.drop r).length c8, .bool true]) (by simp [results, Try.results101, go_sem]) rfl ⟨_, _, true, rfl, ⟨fun _ _ => ⟨fun h1 h2 => absurd ⟨h1, h2⟩ HEX.out, fun _ hx => absurd H16.out (by omega), fun _ _ => ⟨rfl, rfl⟩⟩, fun hx => ?_⟩, hv8.base z2, b7.trans (b8.mono z2)⟩
          rw [HST.out, HVO.out] at hx
          rcases hx with hx | hx <;> cases hx
      · obtain ⟨hlt, he⟩ := HBX.out.1 rfl
        obtain ⟨o2, ad, A2, c2, ho2, rfl, ha, g0, g1, g2, g3⟩ := (h.below b5 (Nat.le_refl _)).obj hlt
        obtain ⟨bb, hbb⟩ : ∃ bb : Bool, Hid (bb = true ↔ o2.kd = o.kd ∧ o2.s.toList = o.s.toList ∧ o2.zs = o.zs) := by
          by_cases hs : o2.kd = o.kd ∧ o2.s.toList = o.s.toList ∧ o2.zs = o.zs
          · exact ⟨true, ⟨fun _ => hs, fun _ => rfl⟩⟩
          · exact ⟨false, ⟨fun e => (by cases e), fun e => absurd e hs⟩⟩
        have hPut : Hid (PutIs os o r os bb) := ⟨fun _ _ => ⟨rfl, by rw [ho2]; exact hbb.out⟩, fun hx => absurd ⟨hlt, he⟩ hx, fun hx => absurd ⟨hlt, he⟩ hx⟩
        have few2 : o2.zs.length ≤ 1048576 := by rw [← ho2]; exact hsO _ (List.getElem_mem hlt)
        have ha5 := Nat.lt_of_lt_of_le ha hz5
        have G0 := Later.cell g0 ha5
        have G1 := Later.cell (p := ⟨(ad.add (r * 3)).block, (ad.add (r * 3)).off + 1, none⟩) g1 ha5
        have G2 := Later.cell (p := ⟨(ad.add (r * 3)).block, (ad.add (r * 3)).off + 2, none⟩) g2 ha5
        have G3 := Later.cell (p := ⟨w.heap.size, 0, none⟩) x0 p5.lt
        have G4 := Later.cell (p := ⟨w.heap.size, 1, none⟩) x1 p5.lt
        have G5 := Later.cell (p := ⟨w.heap.size, 2, none⟩) x2 p5.lt
        have rO : Row w5 w5.heap.size A' (ints o.zs) := (hro.below b5 (Nat.le_refl _)).more hz5
        have r2 := g3.more hz5
        have k0 : 0 ≤ (r : Int) := by omega
        have k1 : (r : Int) < (os.length : Int) := by omega
        clear HBX he ho2 g0 g1 g2 g3 x0 x1 x2
        go_wp2_with fail
        refine wp_region_later w5.heap.size (by kernel_rfl) (by kernel_rfl) ?_
        repeat (go_big_quiet_step ((go_at_call 121; exact Later.call (Nat.le_refl _) _ (equals_any w5.heap.size w5.heap.size A2 A' c2 c' o2.kd o2.zs o2.s o.kd o.zs o.s _ (r2.later _) (rO.later _) (Later.size (Nat.le_refl _) _) (Later.size (Nat.le_refl _) _) few2 bb hbb))))
        refine wpQuiet_nil ?_
        intro _ hw'
        obtain ⟨xx, hxx⟩ := hw'
        have hbx := xx.b
        subst hxx
        go_wp2_with fail
        refine bodyPost_ret (v := .tuple #[.slice (some ⟨g, 0, none⟩) os.length os.length, .bool bb]) (by simp [results, Try.results101, go_sem]) rfl ⟨_, os, bb, rfl, ⟨fun _ _ => hPut.out, fun hx => ?_⟩, (hv5.below hbx).base z2, b5.trans (hbx.mono hz5)⟩
        rw [HST.out, HVO.out] at hx
        rcases hx with hx | hx <;> cases hx
end Go.Proofs.Ytblknnifccmpkaa
namespace Go.Proofs.Ytblknnifccmpkaa
open Go.RowKit Wo Pu Qu

/-- Behind it: the store of all, or nothing. -/
def AllIn (os l : List Ob) (w : World) (e : Ending) (w' : World) : Prop :=
  ∃ (A : Option Addr) (c : Nat) (xs : List Ob) (b : Bool), e = .returned (.tuple #[.slice A xs.length c, .bool b]) ∧ xs.length ≤ c ∧ Objs w' w'.heap.size A xs ∧ Hid (storeB xs = true ∧ (b = true → Uni os l xs) ∧ (b = false → ¬ ∃ ys, Uni os l ys)) ∧ Below w.heap.size w w'
set_option maxRecDepth 100000 in
set_option maxHeartbeats 4000000 in
theorem storeObjects_any (A A2 : Option Addr) (c c2 : Nat) (os l : List Ob) (w : World) (h : Objs w w.heap.size A os) (hc : os.length ≤ c) (hl : Objs w w.heap.size A2 l) (HS : Hid (storeB os = true)) (HL : Hid (storeB l = true)) :
    Calls Try.prog 64 #[.slice A os.length c, .slice A2 l.length c2] w (AllIn os l w) := by
  have hls := (storeB_parts HL.out).2
  go_enter Try.func64, Try.ntmps64
  go_wp2_with fail
  go_loopw [0, 12] (fun v i wr => ∃ (k : Nat) (ys : List Ob) (Ay : Option Addr) (cy : Nat), k ≤ l.length ∧ i = .int .i64 k ∧ v = .slice Ay ys.length cy ∧ ys.length ≤ cy ∧ Objs wr wr.heap.size Ay ys ∧ Hid (Uni os (l.take k) ys) ∧ Below w.heap.size w wr) (fun _ i _ => l.length - (intOf i).toNat)
  case atStart => exact ⟨0, os, A, c, Nat.zero_le _, rfl, rfl, hc, h, by rw [List.take_zero]; exact Uni.none_ HS.out, Below.refl _ _⟩
  case round =>
    obtain ⟨k, ys, Ay, cy, hk, rfl, rfl, hcy, hy, HU, hb⟩ := hrel
    clear h hc
    have hz := hb.size
    by_cases hlt : k < l.length
    · obtain ⟨o, ad, A', c', hoe, rfl, ha, g0, g1, g2, g3⟩ := ((hl.below hb (Nat.le_refl _)).more hz).obj hlt
      have q0 : (0 : Int) ≤ (k : Int) := by omega
      have q1 : (k : Int) < (l.length : Int) := by omega
      have HSY := hid HU.out.1
      obtain ⟨r, hr⟩ := at_ex ys (iOb o)
      have HR := hid hr
      have HV : Hid (vOb o = true) := by show _ = _; rw [← hoe]; exact storeB_valid HL.out k hlt
      have hym := (storeB_parts HSY.out).2
      have HO : Hid (o ∈ l ∧ ∀ ys', Uni ys [o] ys' → Uni os (l.take (k + 1)) ys') := ⟨by rw [← hoe]; exact List.getElem_mem hlt, fun ys' hy' => by
        rw [List.take_succ_eq_append_getElem hlt, hoe]
        exact HU.out.snoc hy'⟩
      have hzo : o.zs.length ≤ maxLen ∧ o.s.size ≤ maxLen := by
        have := store_fit HL.out o HO.out.1
        exact this
      have al := (Below.refl wr.heap.size wr).alloc (Nat.le_refl _) (.cells #[.int .i64 o.kd, .slice A' o.zs.length c', .string o.s] 38)
      have u := Blk.new_ wr 38 (.int .i64 o.kd) (.slice A' o.zs.length c') (.string o.s)
      have CP := hid (implStorePut_any Ay cy ys A' c' o r _ ((hy.below al (Nat.le_refl _)).more al.size) (store_fit HSY.out) (by unfold maxLen; omega) ((g3.below al (Nat.le_refl _)).more al.size) hzo HR)
      unfold ob at CP
      obtain ⟨x0, x1, x2, -⟩ := id u.reads
      clear hr hoe hy g3
      go_wp2_with fail
      refine CP.out.mono ?_
      rintro e w2 ⟨v2, ys', b2, rfl, hp, ho2, d2⟩
      have b3 := hb.trans ((al.trans (d2.mono al.size)).mono hz)
      obtain ⟨A5, c5, rfl, hx5, hc5⟩ := ho2.formq
      have hp := hp.1 HSY.out HV.out
      cases b2 with
      | true =>
        have hu := put_yes HSY.out HV.out HR.out hp
        have HN := hid (HO.out.2 ys' hu)
        clear hp hu HU HSY HR HO x0 x1 x2
        go_wp2_with fail
        go_roundw
        case rel => exact ⟨k + 1, ys', A5, c5, by omega, by go_num, rfl, hc5, hx5, HN, b3⟩
        case measure => simp [intOf]; omega
      | false =>
        have HN : Hid (¬ ∃ xs, Uni os l xs) := fun ⟨xs, hx⟩ =>
          put_no HSY.out HR.out hp hx.1 (fun x hm => (hx.2 x).2 (by
            rcases (HU.out.2 x).1 hm with e | e
            · exact .inl e
            · exact .inr (List.mem_of_mem_take e))) ((hx.2 o).2 (.inr HO.out.1))
        clear hp HU HSY HR HO x0 x1 x2
        go_wp2_with fail
        go_ret2
        exact ⟨none, 0, [], false, rfl, Nat.le_refl _, .inl rfl, ⟨rfl, (fun e => by cases e), fun _ => HN.out⟩, b3⟩
    · have hk' : k = l.length := by omega
      subst hk'
      have HN : Hid (Uni os l ys) := by
        have := HU.out
        rwa [List.take_length] at this
      clear HU
      go_wp2_with fail
      go_ret2
      exact ⟨Ay, cy, ys, true, rfl, hcy, hy, ⟨HN.out.1, fun _ => HN.out, (fun e => by cases e)⟩, hb⟩
end Go.Proofs.Ytblknnifccmpkaa
namespace Go.Proofs.Ytblknnifccmpkaa
open Go.RowKit Wo Pu Qu

/-- The objects of both, ascending. -/
def Mrg (m l os : List Ob) : Prop := stB (-1) os = true ∧ os.length ≤ m.length + l.length ∧ ∀ x, x ∈ os ↔ x ∈ effQ m l
theorem Mrg.start {m : List Ob} (h : storeB m = true) : Mrg m [] m := ⟨(storeB_parts h).1, Nat.le_refl _, fun x => by rw [effQ_mem]; simp⟩
theorem mem_snoc {m l : List Ob} {o x : Ob} : x ∈ effQ m (l ++ [o]) ↔ x ∈ effQ m l ∨ (x = o ∧ isIn m (iOb o) = false) := by
  rw [effQ_mem, effQ_mem, List.mem_append, List.mem_singleton]
  constructor
  · rintro (h | ⟨h | h, h2⟩)
    · exact .inl (.inl h)
    · exact .inl (.inr ⟨h, h2⟩)
    · subst h; exact .inr ⟨rfl, h2⟩
  · rintro ((h | h) | ⟨h, h2⟩)
    · exact .inl h
    · exact .inr ⟨.inl h.1, h.2⟩
    · subst h; exact .inr ⟨.inr rfl, h2⟩
/-- The object's id is there. -/
theorem Mrg.old {m l os : List Ob} {o : Ob} (h : Mrg m l os) (hn : ∀ p ∈ l, iOb p ≠ iOb o) (hi : ∃ p ∈ os, iOb p = iOb o) : Mrg m (l ++ [o]) os := by
  refine ⟨h.1, by rw [List.length_append]; have := h.2.1; omega, fun x => ?_⟩
  rw [mem_snoc, h.2.2]
  refine ⟨.inl, fun e => ?_⟩
  rcases e with e | ⟨_, e⟩
  · exact e
  · obtain ⟨p, hp, he⟩ := hi
    rcases effQ_mem.1 ((h.2.2 p).1 hp) with h1 | ⟨h1, _⟩
    · rw [isIn_iff.2 ⟨p, h1, he⟩] at e; cases e
    · exact absurd he (hn p h1)
/-- It is not: the object is laid in between. -/
theorem Mrg.new_ {m l os : List Ob} {o : Ob} {r : Nat} (h : Mrg m l os) (hv : vOb o = true) (hr : At_ os (iOb o) r) (hi : ¬ ∃ h : r < os.length, iOb os[r] = iOb o) : Mrg m (l ++ [o]) (os.take r ++ o :: os.drop r) := by
  have hno := at_none_ h.1 hr hi
  refine ⟨stB_ins h.1 (by have := iOb_valid.2 hv; omega) hr.1 hr.2.1 fun hlt => ?_, ?_, fun x => ?_⟩
  · have h1 := hr.2.2 hlt
    have h2 : ¬ iOb os[r] = iOb o := fun e => hi ⟨hlt, e⟩
    omega
  · have := h.2.1
    have := hr.1
    simp
    omega
  · have hin : isIn m (iOb o) = false := by
      rw [Bool.eq_false_iff]
      intro e
      obtain ⟨p, hp, he⟩ := isIn_iff.1 e
      obtain ⟨j, hj, rfl⟩ := List.getElem_of_mem ((h.2.2 p).2 (effQ_mem.2 (.inl hp)))
      exact hno j hj he
    rw [mem_snoc, List.mem_append, List.mem_cons, ← h.2.2]
    have hx : x ∈ os ↔ x ∈ os.take r ∨ x ∈ os.drop r := by
      conv => lhs; rw [← List.take_append_drop r os]
      exact List.mem_append
    rw [hx]
    constructor
    · rintro (e | e | e)
      · exact .inl (.inl e)
      · exact .inr ⟨e, hin⟩
      · exact .inl (.inr e)
    · rintro ((e | e) | ⟨e, _⟩)
      · exact .inl e
      · exact .inr (.inr e)
      · exact .inr (.inl e)
theorem Rc.mrg {m l os : List Ob} (h : Mrg m l os) {fr L : List Int} (hL : RcList os fr L) : RcList (effQ m l) fr L := fun x =>
  (hL x).trans ⟨fun e => Rc.congr_ (fun o ho => (h.2.2 o).1 ho) e, fun e => Rc.congr_ (fun o ho => (h.2.2 o).2 ho) e⟩
theorem isIn_mrg {m l os : List Ob} (h : Mrg m l os) (x : Int) : isIn os x = isIn (m ++ l) x := by
  rw [Bool.eq_iff_iff, isIn_iff, isIn_iff]
  constructor
  · rintro ⟨o, ho, e⟩
    rcases effQ_mem.1 ((h.2.2 o).1 ho) with h1 | h1
    · exact ⟨o, List.mem_append_left _ h1, e⟩
    · exact ⟨o, List.mem_append_right _ h1.1, e⟩
  · rintro ⟨o, ho, e⟩
    rcases List.mem_append.1 ho with h1 | h1
    · exact ⟨o, (h.2.2 o).2 (effQ_mem.2 (.inl h1)), e⟩
    · cases hi : isIn m (iOb o) with
      | false => exact ⟨o, (h.2.2 o).2 (effQ_mem.2 (.inr ⟨h1, hi⟩)), e⟩
      | true =>
        obtain ⟨p, hp, he⟩ := isIn_iff.1 hi
        exact ⟨p, (h.2.2 p).2 (effQ_mem.2 (.inl hp)), he.trans e⟩
theorem missL_mrg {m l os : List Ob} (h : Mrg m l os) (L : List Int) : missL os L = missL (m ++ l) L := by
  unfold missL
  congr 1
  funext x
  rw [isIn_mrg h]

/-! ### The copy of the first list. -/
/-- Behind it: a row of the objects' cells. -/
def CloneO (os : List Ob) (w : World) (e : Ending) (w' : World) : Prop := ∃ v xs, e = .returned v ∧ w'.ownsRow w.heap.size 38 3 v os.length xs ∧ Cells w' w.heap.size xs os ∧ (∀ u ∈ xs, u.oneCell' = true) ∧ Below w.heap.size w w'
set_option maxRecDepth 100000 in
theorem cloneObs_any (A : Option Addr) (c : Nat) (os : List Ob) (w : World) (h : Objs w w.heap.size A os) (hn : os.length ≤ 1048576) :
    Calls Try.prog 110 #[.slice A os.length c] w (CloneO os w) := by
  obtain ⟨i0, hi, hz0, hz1, hz2⟩ := info_of info_ob
  have q22 : ∀ (w : World) (a : Option Addr) (n c n' c' : Nat), (binOp .eql 23 (.slice a n c) (.slice none n' c')).run Try.prog w = .ok (.bool a.isNone) w := fun w a n c n' c' => Lib.run_eql_slice_nil w _ _ a n c n' c' Try.underlying23
  cases A with
  | none =>
    obtain rfl : os = [] := by
      rcases h with h | ⟨ad, e, _⟩
      · exact h
      · cases e
    go_enter Try.func110, Try.ntmps110
    go_wp2
    go_ret
    exact ⟨_, [], rfl, ⟨rfl, .inl ⟨rfl, rfl⟩⟩, ⟨rfl, fun j hj => by simp at hj⟩, fun u hu => by simp at hu, Below.refl _ _⟩
  | some ad =>
    obtain ⟨xs, hxr, hxc, hx1⟩ := h.cells
    have hxl := hxc.1
    have HX := hid hxc
    have al := (Below.refl w.heap.size w).alloc (Nat.le_refl _) (.cells #[] 38)
    clear h hxc
    go_enter Try.func110, Try.ntmps110
    go_wp2_with (at_builtin; go_must (refine wpList_append_row _ rfl _ _ 23 rfl w.heap.size 38 i0 (.agg #[.int .i64 0, .slice none 0 0, .string ⟨#[]⟩]) 3 48 Try.underlying23 hi hz0 hz1 hz2 rfl (by decide) _ 0 [] rfl (nil_own (Nat.le_refl _) _ _) w.heap.size (some ad) os.length c xs rfl (hxr.below al (Nat.le_refl _)) hxl hx1 (by unfold maxLen; omega) (by omega) (by simp) ?_); intro v5 w5 hown hg)
    have b5 : Below w.heap.size w w5 := al.grown hg (by simp) (fun j hj => by have hj' : some w.heap.size = some j := hj; injection hj' with hj'; omega)
    rw [Nat.zero_add, List.nil_append] at hown
    have HO := hid hown
    have hform : ∃ (A : Option Addr) (c : Nat), v5 = .slice A os.length c := by
      rcases hown.2 with ⟨rfl, h0⟩ | ⟨g, cap, cur, rfl, _⟩
      · exact ⟨none, 0, by rw [h0]⟩
      · exact ⟨_, _, rfl⟩
    obtain ⟨A5, c5, rfl⟩ := hform
    clear hown hg
    go_wp2
    go_ret
    exact ⟨_, xs, rfl, HO.out, HX.out.below b5 (Nat.le_refl _), hx1, b5⟩

/-! ### Both. -/
def Merged (m l : List Ob) (w : World) (e : Ending) (w' : World) : Prop := ∃ (A : Option Addr) (c : Nat) (os : List Ob), e = .returned (.slice A os.length c) ∧ Objs w' w'.heap.size A os ∧ Hid (Mrg m l os) ∧ Below w.heap.size w w'
theorem cells_laid {w : World} {B : Nat} {xs : List Value} {os : List Ob} {o : Ob} {A : Option Addr} {c : Nat} (h : Cells w B xs os) (hr : Row w B A (ints o.zs)) (r : Nat) : Cells w B (xs.take (r * 3) ++ [.int .i64 o.kd, .slice A o.zs.length c, .string o.s] ++ xs.drop (r * 3)) (os.take r ++ o :: os.drop r) := by
  have := ((h.take_ r).app (Cells.one (c := c) hr)).app (h.drop_ r)
  rwa [List.append_assoc (os.take r)] at this
theorem one_laid {xs : List Value} {o : Ob} {A : Option Addr} {c r : Nat} (h : ∀ u ∈ xs, u.oneCell' = true) : ∀ u ∈ xs.take r ++ [.int .i64 o.kd, .slice A o.zs.length c, .string o.s] ++ xs.drop r, u.oneCell' = true := by
  intro u hu
  rcases List.mem_append.1 hu with hu | hu
  · rcases List.mem_append.1 hu with hu | hu
    · exact h u (List.mem_of_mem_take hu)
    · exact obj_cells o A c u hu
  · exact h u (List.mem_of_mem_drop hu)
set_option maxRecDepth 100000 in
set_option maxHeartbeats 4000000 in
theorem mergeObjects_any (A A2 : Option Addr) (c c2 : Nat) (m l : List Ob) (w : World) (h : Objs w w.heap.size A m) (hl : Objs w w.heap.size A2 l) (HS : Hid (storeB m = true)) (HL : Hid (storeB l = true)) :
    Calls Try.prog 82 #[.slice A m.length c, .slice A2 l.length c2] w (Merged m l w) := by
  have hms := (storeB_parts HS.out).2
  have hls := (storeB_parts HL.out).2
  have CC := hid (cloneObs_any A c m w h (by omega))
  go_enter Try.func82, Try.ntmps82
  go_wp2_with fail
  refine CC.out.mono ?_
  rintro e w1 ⟨v1, xs1, rfl, r1, c1, o1, b1⟩
  clear CC h
  go_wp2_with fail
  go_loopw [5, 14] (fun v i wr => ∃ (k : Nat) (os : List Ob) (xs : List Value), k ≤ l.length ∧ i = .int .i64 k ∧ wr.ownsRow w.heap.size 38 3 v os.length xs ∧ Cells wr w.heap.size xs os ∧ (∀ u ∈ xs, u.oneCell' = true) ∧ Hid (Mrg m (l.take k) os) ∧ Below w.heap.size w wr) (fun _ i _ => l.length - (intOf i).toNat)
  case atStart => exact ⟨0, m, xs1, Nat.zero_le _, rfl, r1, c1, o1, by rw [List.take_zero]; exact Mrg.start HS.out, b1⟩
  case round =>
    clear r1 c1 o1 b1
    obtain ⟨k, os, xs, hk, rfl, hr, hcl, ho1, HM, hb⟩ := hrel
    have hz := hb.size
    obtain ⟨Am, cm, rfl, hob⟩ := hcl.objs hz hr rfl
    by_cases hlt : k < l.length
    · obtain ⟨o, ad, A', c', hoe, rfl, ha, g0, g1, g2, g3⟩ := (hl.below hb (Nat.le_refl _)).obj hlt
      have q0 : (0 : Int) ≤ (k : Int) := by omega
      have q1 : (k : Int) < (l.length : Int) := by omega
      obtain ⟨r, hrr⟩ := at_ex os (iOb o)
      have HR := hid hrr
      have HV : Hid (vOb o = true) := by show _ = _; rw [← hoe]; exact storeB_valid HL.out k hlt
      have HF : Hid (∀ p ∈ l.take k, iOb p ≠ iOb o) := fun p hp e => by
        obtain ⟨j, hj, rfl⟩ := List.getElem_of_mem hp
        rw [List.getElem_take, ← hoe] at e
        have hjk : j < k := by rw [List.length_take] at hj; omega
        have := (stB_sorted (storeB_parts HL.out).1 j (by omega)).2 k hlt hjk
        omega
      have HT : Hid (l.take (k + 1) = l.take k ++ [o]) := by show _ = _; rw [List.take_succ_eq_append_getElem hlt, hoe]
      have hol : o ∈ l := by rw [← hoe]; exact List.getElem_mem hlt
      have hzo := store_fit HL.out o hol
      have hosl : os.length ≤ 32 := by
        have := HM.out.2.1
        rw [List.length_take] at this
        omega
      have hfo : Fit os := fun p hp => by
        obtain ⟨j, hj, rfl⟩ := List.getElem_of_mem hp
        have := vldB_parts (stB_valid HM.out.1 j hj : vldB os[j].kd os[j].zs os[j].s.size = true)
        unfold maxLen; omega
      have al := (Below.refl wr.heap.size wr).alloc (Nat.le_refl _) (.cells #[.int .i64 o.kd, .slice A' o.zs.length c', .string o.s] 38)
      have u := Blk.new_ wr 38 (.int .i64 o.kd) (.slice A' o.zs.length c') (.string o.s)
      have hr1 := World.ownsRow.alloc hr (.cells #[.int .i64 o.kd, .slice A' o.zs.length c', .string o.s] 38)
      have b1 := hb.trans (al.mono hz)
      have g31 := g3.below (al.mono hz) (Nat.le_refl _)
      have hcl1 := hcl.below (al.mono hz) (Nat.le_refl _)
      have hob1 := (hob.below al (Nat.le_refl _)).more al.size
      obtain ⟨id0, hid0⟩ : ∃ x, iOb o = x := ⟨_, rfl⟩
      have HID := hid hid0
      have CI := hid (implId_val id0 w.heap.size A' c' o _ g31 b1.size hzo.1 hzo.2 hid0)
      unfold ob at CI
      obtain ⟨x0, x1, x2, -⟩ := id u.reads
      clear hrr hoe g3 hid0 hr hcl hob hb
      go_wp2_with fail
      clear g0 g1 g2
      generalize wr.alloc (.cells #[.int .i64 o.kd, .slice A' o.zs.length c', .string o.s] 38) = W at *
      refine CI.out.mono ?_
      rintro e w2 ⟨rfl, d2⟩
      have u2 := u.below d2 u.lt
      have hr2 := own_below hr1 d2 (Nat.le_refl _)
      have b2 := b1.trans (d2.mono b1.size)
      have hcl2 := hcl1.below (d2.mono b1.size) (Nat.le_refl _)
      have hob2 := (hob1.below d2 (Nat.le_refl _)).more d2.size
      have g32 := g31.below (d2.mono b1.size) (Nat.le_refl _)
      clear u hr1 hcl1 hob1 g31 b1 x0 x1 x2 CI d2 al
      go_wp2_with fail
      refine (findObject_any Am cm os id0 r w2 hob2 hfo (by unfold maxLen; omega) (by rw [← HID.out]; exact HR)).mono ?_
      rintro e w3 ⟨bf, rfl, hbf, d3⟩
      have u3 := u2.below d3 u2.lt
      have hr3 := own_below hr2 d3 (Nat.le_refl _)
      have b3 := b2.trans (d3.mono b2.size)
      have hcl3 := hcl2.below (d3.mono b2.size) (Nat.le_refl _)
      have g33 := g32.below (d3.mono b2.size) (Nat.le_refl _)
      obtain ⟨x0, x1, x2, -⟩ := id u3.reads
      clear u2 hr2 hcl2 hob2 g32 b2 d3
      cases bf with
      | true =>
        have HN : Hid (Mrg m (l.take (k + 1)) os) := by
          show Mrg _ _ _
          rw [HT.out]
          obtain ⟨hlt2, e⟩ := hbf.1 rfl
          exact HM.out.old HF.out ⟨_, List.getElem_mem hlt2, by rw [e, HID.out]⟩
        clear hbf HM HR HV HF HT HID
        go_wp2_with fail
        go_roundw
        case rel => exact ⟨k + 1, os, xs, by omega, by go_num, hr3, hcl3, ho1, HN, b3⟩
        case measure => simp [intOf]; omega
      | false =>
        have HN : Hid (Mrg m (l.take (k + 1)) (os.take r ++ o :: os.drop r)) := by
          show Mrg _ _ _
          rw [HT.out]
          exact HM.out.new_ HV.out HR.out fun ⟨hlt2, e⟩ => by have := hbf.2 ⟨hlt2, by rw [e, HID.out]⟩; cases this
        have hrl : r ≤ os.length := HR.out.1
        have z3 := b3.size
        have u4 := Blk.new_ w3 38 (.int .i64 o.kd) (.slice A' o.zs.length c') (.string o.s)
        have al4 := (Below.refl w3.heap.size w3).alloc (Nat.le_refl _) (.cells #[.int .i64 o.kd, .slice A' o.zs.length c', .string o.s] 38)
        have hr4 := World.ownsRow.alloc hr3 (.cells #[.int .i64 o.kd, .slice A' o.zs.length c', .string o.s] 38)
        have b4 := b3.trans (al4.mono z3)
        have hcl4 := hcl3.below (al4.mono z3) (Nat.le_refl _)
        have g34 := g33.below (al4.mono z3) (Nat.le_refl _)
        have hbo : (Value.slice Am os.length cm).ownBlock ≠ some w3.heap.size := fun e => by have := (World.ownsRow.lt hr3 _ e).2; omega
        have CX := hid (insertRow_any w.heap.size w3.heap.size r os.length _ _ _ _ xs _ rfl _ hr4 u4 ho1 (obj_cells o A' c') hrl (by omega) (by have := al4.size; omega) hbo)
        have HLEN : Hid ((os.take r ++ o :: os.drop r).length = os.length + 1) := by
          show _ = _
          simp
          omega
        clear hbf HM HR HV HF HT HID u4 hr4 hr3 hcl3 g33 b3 al4 hbo
        go_wp2_with fail
        refine CX.out.mono ?_
        rintro e w5 ⟨v5, rfl, hr5, d5⟩
        have b5 := b4.trans d5
        have hcl5 := cells_laid (c := c') (hcl4.below d5 (Nat.le_refl _)) (g34.below d5 (Nat.le_refl _)) r
        have HR5 : Hid (w5.ownsRow w.heap.size 38 3 v5 (os.take r ++ o :: os.drop r).length (xs.take (r * 3) ++ [.int .i64 o.kd, .slice A' o.zs.length c', .string o.s] ++ xs.drop (r * 3))) := by
          show World.ownsRow _ _ _ _ _ _ _
          rw [HLEN.out]
          exact hr5
        have HC5 := hid hcl5
        have HO5 := hid (one_laid (o := o) (A := A') (c := c') (r := r * 3) ho1)
        have hform : ∃ (A : Option Addr) (c : Nat), v5 = .slice A (os.length + 1) c := by
          rcases hr5.2 with ⟨_, h0⟩ | ⟨g, cap, cur, rfl, _⟩
          · omega
          · exact ⟨_, _, rfl⟩
        obtain ⟨A5, c5, rfl⟩ := hform
        clear hr5 hcl5 CX hcl4 g34 b4 d5
        go_wp2_with fail
        go_roundw
        case rel => exact ⟨k + 1, _, _, by omega, by go_num, HR5.out, HC5.out, HO5.out, HN, b5⟩
        case measure => simp [intOf]; omega
    · have hk' : k = l.length := by omega
      subst hk'
      have HN : Hid (Mrg m l os) := by
        have := HM.out
        rwa [List.take_length] at this
      clear HM
      go_wp2
      go_ret
      exact ⟨Am, cm, os, rfl, hob, HN, hb⟩
end Go.Proofs.Ytblknnifccmpkaa
