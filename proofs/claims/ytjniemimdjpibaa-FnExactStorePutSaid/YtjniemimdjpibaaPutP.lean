/-
  Plain facts: what a put does to a store.
-/
import Derived.Test.YtjniemimdjpibaaPuts
namespace Go.Proofs.Ytjniemimdjpibaa
open Go.RowKit Wo Pu

theorem Ob.same {a b : Ob} (h : SameOb a b) : a = b := by
  obtain ⟨h1, h2, h3⟩ := h
  obtain ⟨ka, za, sa⟩ := a
  obtain ⟨kb, zb, sb⟩ := b
  simp only at h1 h2 h3
  subst h1 h3
  rw [ByteArray.toList_eq, ByteArray.toList_eq] at h2
  have : sa = sb := ByteArray.ext (Array.toList_inj.1 h2)
  rw [this]
theorem SameOb.refl (o : Ob) : SameOb o o := ⟨rfl, rfl, rfl⟩

theorem stB_ins {o : Ob} : ∀ {os : List Ob} {last : Int} {r : Nat}, stB last os = true → last < iOb o → r ≤ os.length → (∀ j (hj : j < os.length), j < r → iOb os[j] < iOb o) → (∀ h : r < os.length, iOb o < iOb os[r]) → stB last (os.take r ++ o :: os.drop r) = true := by
  intro os
  induction os with
  | nil =>
    intro last r _ hl _ _ _
    simp [stB, hl]
  | cons p os ih =>
    intro last r hs hl hr h1 h2
    simp only [stB, Bool.and_eq_true, decide_eq_true_eq] at hs
    cases r with
    | zero =>
      simp only [List.take_zero, List.drop_zero, List.nil_append, stB, Bool.and_eq_true, decide_eq_true_eq]
      exact ⟨hl, h2 (Nat.zero_lt_succ _), hs.2⟩
    | succ r =>
      simp only [List.take_succ_cons, List.drop_succ_cons, List.cons_append, stB, Bool.and_eq_true, decide_eq_true_eq]
      refine ⟨hs.1, ih hs.2 (h1 0 (Nat.zero_lt_succ _) (by omega)) (by simpa using hr) (fun j hj hjr => ?_) (fun h => ?_)⟩
      · have := h1 (j + 1) (by simpa using hj) (by omega); simpa using this
      · have := h2 (by simpa using h); simpa using this
/-- Sorted lists with the same objects are one. -/
theorem stB_ext : ∀ {xs bs : List Ob} {la lb : Int}, stB la xs = true → stB lb bs = true → (∀ x, x ∈ xs ↔ x ∈ bs) → xs = bs := by
  intro xs
  induction xs with
  | nil =>
    intro bs la lb _ _ h
    cases bs with
    | nil => rfl
    | cons b bs => have := (h b).2 (by simp); cases this
  | cons a xs ih =>
    intro bs la lb ha hb h
    cases bs with
    | nil => have := (h a).1 (by simp); cases this
    | cons b bs =>
      have sa := stB_sorted ha
      have sb := stB_sorted hb
      simp only [stB, Bool.and_eq_true, decide_eq_true_eq] at ha hb
      have lowa : ∀ x ∈ xs, iOb a < iOb x := fun x hx => by
        obtain ⟨i, hi, rfl⟩ := List.mem_iff_getElem.1 hx
        have := (sa 0 (by simp)).2 (i + 1) (by simpa using hi) (by omega)
        simpa using this
      have lowb : ∀ x ∈ bs, iOb b < iOb x := fun x hx => by
        obtain ⟨i, hi, rfl⟩ := List.mem_iff_getElem.1 hx
        have := (sb 0 (by simp)).2 (i + 1) (by simpa using hi) (by omega)
        simpa using this
      have hab : a = b := by
        rcases List.mem_cons.1 ((h a).1 (by simp)) with e | e
        · exact e
        · rcases List.mem_cons.1 ((h b).2 (by simp)) with e2 | e2
          · exact e2.symm
          · have := lowb a e; have := lowa b e2; omega
      subst hab
      rw [ih ha.2 hb.2 fun x => ⟨fun hx => ?_, fun hx => ?_⟩]
      · rcases List.mem_cons.1 ((h x).1 (List.mem_cons_of_mem _ hx)) with e | e
        · subst e; have := lowa x hx; omega
        · exact e
      · rcases List.mem_cons.1 ((h x).2 (List.mem_cons_of_mem _ hx)) with e | e
        · subst e; have := lowb x hx; omega
        · exact e

/-- A put that succeeds. -/
theorem PutIs.true_ {os : List Ob} {o : Ob} {r : Nat} {os' : List Ob} (hs : storeB os = true) (hv : vOb o = true) (hr : At_ os (iOb o) r) (h : PutIs os o r os' true) :
    storeB os' = true ∧ (∃ h : r < os'.length, os'[r] = o) ∧ At_ os' (iOb o) r ∧ (∀ x, x ∈ os' ↔ x ∈ os ∨ x = o) ∧ os'.length ≤ os.length + 1 ∧ ((¬ ∃ h : r < os.length, iOb os[r] = iOb o) → os'.length = os.length + 1) := by
  obtain ⟨hst, h16⟩ := storeB_parts hs
  by_cases hex : ∃ h : r < os.length, iOb os[r] = iOb o
  · obtain ⟨hlt, he⟩ := hex
    obtain ⟨rfl, hb⟩ := h.1 hlt he
    have hso := Ob.same (hb.1 rfl)
    refine ⟨hs, ⟨hlt, hso⟩, hr, fun x => ⟨fun hx => .inl hx, fun hx => ?_⟩, by omega, fun hn => absurd ⟨hlt, he⟩ hn⟩
    rcases hx with hx | hx
    · exact hx
    · rw [hx, ← hso]; exact List.getElem_mem hlt
  · have hlt16 : os.length < 16 := by
      by_cases h6 : 16 ≤ os.length
      · have := (h.2.1 hex h6).2; cases this
      · omega
    obtain ⟨rfl, _⟩ := h.2.2 hex hlt16
    have hl : (os.take r).length = r := by rw [List.length_take]; have := hr.1; omega
    have hlen : (os.take r ++ o :: os.drop r).length = os.length + 1 := by simp; have := hr.1; omega
    have hget : (os.take r ++ o :: os.drop r)[r]'(by rw [hlen]; have := hr.1; omega) = o := by
      rw [List.getElem_append_right (by omega)]; simp [hl]
    refine ⟨?_, ⟨by rw [hlen]; have := hr.1; omega, hget⟩, ⟨by rw [hlen]; have := hr.1; omega, fun j hj hjr => ?_, fun h => by rw [hget]; omega⟩, fun x => ?_, by rw [hlen]; omega, fun _ => hlen⟩
    · unfold storeB
      rw [stB_ins hst (by have := iOb_valid.2 hv; omega) hr.1 hr.2.1 fun h => ?_, decide_eq_true (by rw [hlen]; omega)]
      · rfl
      · have h1 := hr.2.2 h
        have h2 : ¬ iOb os[r] = iOb o := fun e => hex ⟨h, e⟩
        omega
    · rw [List.getElem_append_left (by omega), List.getElem_take]
      exact hr.2.1 j (by have := hr.1; omega) hjr
    · rw [List.mem_append, List.mem_cons]
      refine ⟨fun hx => ?_, fun hx => ?_⟩
      · rcases hx with hx | hx | hx
        · exact .inl (List.mem_of_mem_take hx)
        · exact .inr hx
        · exact .inl (List.mem_of_mem_drop hx)
      · rcases hx with hx | hx
        · rw [← List.take_append_drop r os, List.mem_append] at hx
          rcases hx with hx | hx
          · exact .inl hx
          · exact .inr (.inr hx)
        · exact .inr (.inl hx)
theorem PutAll.true_ {os : List Ob} {o : Ob} {r : Nat} {os' : List Ob} (h : PutAll os o r os' true) : storeB os = true ∧ vOb o = true ∧ PutIs os o r os' true := by
  cases hs : storeB os
  · have := (h.2 (.inl hs)).2; cases this
  · cases hv : vOb o
    · have := (h.2 (.inr hv)).2; cases this
    · exact ⟨rfl, rfl, h.1 hs hv⟩
/-- Both answer alike. -/
theorem PutIs.one {os : List Ob} {o : Ob} {r : Nat} {os1 os2 : List Ob} {b1 b2 : Bool} (h1 : PutIs os o r os1 b1) (h2 : PutIs os o r os2 b2) : os1 = os2 ∧ b1 = b2 := by
  by_cases hex : ∃ h : r < os.length, iOb os[r] = iOb o
  · obtain ⟨hlt, he⟩ := hex
    obtain ⟨e1, e2⟩ := h1.1 hlt he
    obtain ⟨f1, f2⟩ := h2.1 hlt he
    exact ⟨by rw [e1, f1], by rw [Bool.eq_iff_iff, e2, f2]⟩
  · by_cases h6 : 16 ≤ os.length
    · obtain ⟨e1, e2⟩ := h1.2.1 hex h6
      obtain ⟨f1, f2⟩ := h2.2.1 hex h6
      exact ⟨by rw [e1, f1], by rw [e2, f2]⟩
    · obtain ⟨e1, e2⟩ := h1.2.2 hex (by omega)
      obtain ⟨f1, f2⟩ := h2.2.2 hex (by omega)
      exact ⟨by rw [e1, f1], by rw [e2, f2]⟩
theorem PutAll.one {os : List Ob} {o : Ob} {r : Nat} {os1 os2 : List Ob} {b1 b2 : Bool} (h1 : PutAll os o r os1 b1) (h2 : PutAll os o r os2 b2) : os1 = os2 ∧ b1 = b2 := by
  cases hs : storeB os
  · obtain ⟨e1, e2⟩ := h1.2 (.inl hs)
    obtain ⟨f1, f2⟩ := h2.2 (.inl hs)
    exact ⟨by rw [e1, f1], by rw [e2, f2]⟩
  · cases hv : vOb o
    · obtain ⟨e1, e2⟩ := h1.2 (.inr hv)
      obtain ⟨f1, f2⟩ := h2.2 (.inr hv)
      exact ⟨by rw [e1, f1], by rw [e2, f2]⟩
    · exact (h1.1 hs hv).one (h2.1 hs hv)
/-- An object that is there is put again. -/
theorem PutAll.again {os : List Ob} {o : Ob} {r : Nat} {os1 os2 : List Ob} {b2 : Bool} (hr : At_ os (iOb o) r) (h1 : PutAll os o r os1 true) (h2 : PutAll os1 o r os2 b2) : os2 = os1 ∧ b2 = true := by
  obtain ⟨hs, hv, hp⟩ := h1.true_
  obtain ⟨s1, ⟨hlt, ho⟩, _⟩ := hp.true_ hs hv hr
  obtain ⟨e1, e2⟩ := (h2.1 s1 hv).1 hlt (by rw [ho])
  exact ⟨e1, e2.2 (by rw [ho]; exact SameOb.refl o)⟩
/-- An object of a store is found. -/
theorem fnd_mem {os : List Ob} {p : Ob} {r : Nat} (hs : storeB os = true) (hp : p ∈ os) (hr : At_ os (iOb p) r) : fndO os (iOb p) r = some p := by
  obtain ⟨i, hi, rfl⟩ := List.mem_iff_getElem.1 hp
  have hsort := stB_sorted (storeB_parts hs).1
  have hir : i = r := by
    by_cases h1 : i < r
    · have := hr.2.1 i hi h1; omega
    · by_cases h2 : i = r
      · exact h2
      · have h3 : r < os.length := by omega
        have h4 := hr.2.2 h3
        have h5 := (hsort r h3).2 i hi (by omega)
        omega
  subst hir
  exact fnd_b hs hi rfl
theorem fnd_none_of {os : List Ob} {x : Int} {r : Nat} (h : ¬ ∃ h : r < os.length, iOb os[r] = x) : fndO os x r = none := fnd_c h
/-- The order does not matter. -/
theorem PutAll.order {os os1 os2 os3 os4 : List Ob} {o p : Ob} {r r1 r2 r3 : Nat} {b : Bool} (ar : At_ os (iOb o) r) (ar1 : At_ os1 (iOb p) r1) (ar2 : At_ os (iOb p) r2) (ar3 : At_ os3 (iOb o) r3)
    (h1 : PutAll os o r os1 true) (h2 : PutAll os1 p r1 os2 true) (h3 : PutAll os p r2 os3 true) (h4 : PutAll os3 o r3 os4 b) : os4 = os2 ∧ b = true := by
  obtain ⟨hs, hvo, p1⟩ := h1.true_
  obtain ⟨hs1, hvp, p2⟩ := h2.true_
  obtain ⟨_, _, p3⟩ := h3.true_
  obtain ⟨_, _, _, m1, _, l1⟩ := p1.true_ hs hvo ar
  obtain ⟨s2, _, _, m2, _, l2⟩ := p2.true_ hs1 hvp ar1
  obtain ⟨s3, _, _, m3, l3', l3⟩ := p3.true_ hs hvp ar2
  have p4 := h4.1 s3 hvo
  have same1 : ∀ x ∈ os1, iOb x = iOb o → x = o := fun x hx e => by
    rcases (m1 x).1 hx with h | h
    · obtain ⟨i, hi, rfl⟩ := List.mem_iff_getElem.1 h
      have hi1 : i = r := by
        by_cases q1 : i < r
        · have := ar.2.1 i hi q1; omega
        · by_cases q2 : i = r
          · exact q2
          · have q3 : r < os.length := by omega
            have q4 := ar.2.2 q3
            have q5 := (stB_sorted (storeB_parts hs).1 r q3).2 i hi (by omega)
            omega
      subst hi1
      exact Ob.same ((p1.1 hi e).2.1 rfl)
    · exact h
  have same2 : iOb p = iOb o → p = o := fun e => by
    have ho : o ∈ os1 := (m1 o).2 (.inr rfl)
    obtain ⟨i, hi, hio⟩ := List.mem_iff_getElem.1 ho
    have hi1 : i = r1 := by
      by_cases q1 : i < r1
      · have := ar1.2.1 i hi q1; rw [hio] at this; omega
      · by_cases q2 : i = r1
        · exact q2
        · have q3 : r1 < os1.length := by omega
          have q4 := ar1.2.2 q3
          have q5 := (stB_sorted (storeB_parts hs1).1 r1 q3).2 i hi (by omega)
          rw [hio] at q5
          omega
    subst hi1
    have := Ob.same ((p2.1 hi (by rw [hio, e])).2.1 rfl)
    rw [hio] at this
    exact this.symm
  have hb : b = true := by
    by_cases hex : ∃ h : r3 < os3.length, iOb os3[r3] = iOb o
    · obtain ⟨hlt, he⟩ := hex
      refine ((p4.1 hlt he).2).2 ?_
      have hx : os3[r3] = o := by
        rcases (m3 _).1 (List.getElem_mem hlt) with h | h
        · exact same1 _ ((m1 _).2 (.inl h)) he
        · rw [h] at he ⊢; exact same2 he
      rw [hx]; exact SameOb.refl o
    · by_cases h6 : 16 ≤ os3.length
      · exfalso
        have nin : ∀ x ∈ os3, ¬ iOb x = iOb o := fun x hx e => by
          obtain ⟨i, hi, rfl⟩ := List.mem_iff_getElem.1 hx
          have key := at_none s3 ar3 hex i hi
          exact key e
        have hno : ¬ ∃ h : r < os.length, iOb os[r] = iOb o := fun ⟨h, e⟩ => nin _ ((m3 _).2 (.inl (List.getElem_mem h))) e
        have l1e := l1 hno
        have hpo : ¬ iOb p = iOb o := nin p ((m3 p).2 (.inr rfl))
        have s1le := (storeB_parts hs1).2
        have s2le := (storeB_parts s2).2
        by_cases hp2 : ∃ h : r2 < os.length, iOb os[r2] = iOb p
        · obtain ⟨q1, q2⟩ := hp2
          have := (p3.1 q1 q2).1
          rw [this] at h6
          omega
        · have l3e := l3 hp2
          have hp1 : ¬ ∃ h : r1 < os1.length, iOb os1[r1] = iOb p := fun ⟨q1, q2⟩ => by
            rcases (m1 _).1 (List.getElem_mem q1) with h | h
            · obtain ⟨i, hi, e⟩ := List.mem_iff_getElem.1 h
              have := at_none hs ar2 hp2 i hi
              rw [e] at this
              exact this q2
            · rw [h] at q2; exact hpo q2.symm
          have := l2 hp1
          omega
      · exact (p4.2.2 hex (by omega)).2
  subst hb
  obtain ⟨s4, _, _, m4, _⟩ := p4.true_ s3 hvo ar3
  refine ⟨stB_ext (storeB_parts s4).1 (storeB_parts s2).1 fun x => ?_, rfl⟩
  rw [m4, m3, m2, m1]
  constructor
  · rintro ((h | h) | h)
    · exact .inl (.inl h)
    · exact .inr h
    · exact .inl (.inr h)
  · rintro ((h | h) | h)
    · exact .inl (.inl h)
    · exact .inr h
    · exact .inl (.inr h)
end Go.Proofs.Ytjniemimdjpibaa
