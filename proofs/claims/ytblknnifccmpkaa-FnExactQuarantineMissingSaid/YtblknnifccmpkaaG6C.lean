/-
  Walks: the model's StoreReach and StoreMissing.
  Plain facts: the lists of what is reached and of what is missing.
  Plain facts: the program's work list, and what decreases.
  Walk: the program's marks of what is reached.
  Walks: the program's StoreReach and StoreMissing.
-/
import Derived.Test.YtblknnifccmpkaaReachS
import Derived.Test.YtblknnifccmpkaaStoreV
import Derived.Test.YtblknnifccmpkaaG5C
import Derived.Laws.Rows
import Derived.Laws.Tables
import Derived.Laws.CopyOwn
import Derived.Great.BuildSlice
namespace Go.Proofs.Ytblknnifccmpkaa
open Go.RowKit Wo Pu

theorem ascB_nodup {zs : List Int} : ∀ {lo : Int}, ascB lo zs = true → zs.Nodup := by
  induction zs with
  | nil => intro _ _; exact List.nodup_nil
  | cons a bs ih =>
    intro lo h
    simp only [ascB, Bool.and_eq_true, decide_eq_true_eq] at h
    rw [List.nodup_cons]
    exact ⟨fun ha => by have := ascB_range h.2.2 a ha; omega, ih h.2.2⟩
theorem linksB_parts {zs : List Int} (h : linksB zs = true) : (zs.Nodup ∧ ∀ x ∈ zs, 0 ≤ x ∧ x < 991) ∧ zs.length ≤ 4 := by
  simp only [linksB, Bool.and_eq_true, decide_eq_true_eq] at h
  exact ⟨⟨ascB_nodup h.1, fun x hx => by have := ascB_range h.1 x hx; omega⟩, h.2⟩
theorem store_links {os : List Ob} (hs : storeB os = true) : ∀ o ∈ os, ∀ y ∈ o.zs, 0 ≤ y ∧ y < 991 := fun o ho y hy => by
  obtain ⟨i, hi, rfl⟩ := List.mem_iff_getElem.1 ho
  have hv : vldB os[i].kd os[i].zs os[i].s.size = true := storeB_valid hs i hi
  have := ascB_range (vldB_parts hv).1 y hy
  omega
/-- What the answer speaks of. -/
def Ans (os : List Ob) (fr L : List Int) : Prop := ((storeB os && linksB fr) = true ∧ RcList os fr L) ∨ ((storeB os && linksB fr) = false ∧ L = [])
theorem sortedTo_nil (k : Nat) : sortedTo [] k = [] := by
  apply List.eq_nil_iff_forall_not_mem.2
  intro x hx
  have := (sortedTo_mem.1 hx).1
  cases this
theorem reachL_nil (os : List Ob) : reachL os [] = [] := by unfold reachL; rw [sortedTo_nil]; rfl
theorem missL_nil (os : List Ob) : missL os [] = [] := by unfold missL; rw [sortedTo_nil]; rfl
theorem Ans.one {os : List Ob} {fr L M : List Int} (h : Ans os fr L) (h' : Ans os fr M) : sortedTo L 991 = sortedTo M 991 := by
  rcases h with ⟨h1, h2⟩ | ⟨h1, h2⟩
  · rcases h' with ⟨g1, g2⟩ | ⟨g1, g2⟩
    · exact h2.one g2 991
    · rw [h1] at g1; cases g1
  · rcases h' with ⟨g1, g2⟩ | ⟨g1, g2⟩
    · rw [h1] at g1; cases g1
    · rw [h2, g2]
theorem Ans.reach {os : List Ob} {fr L M : List Int} (h : Ans os fr L) (h' : Ans os fr M) : reachL os L = reachL os M := by unfold reachL; rw [h.one h']
theorem Ans.miss {os : List Ob} {fr L M : List Int} (h : Ans os fr L) (h' : Ans os fr M) : missL os L = missL os M := by unfold missL; rw [h.one h']

/-- A list of the call's own, of what is reached. -/
def ReachedAs (f : List Int → List Int) (os : List Ob) (fr : List Int) (w : World) (e : Ending) (w' : World) : Prop := ∃ L, Ans os fr L ∧ NewOwn (f L) w e w'
/-- The list v is not the list that lies from B to C. -/
def Off (v : Value) (B C : Nat) : Prop := ∀ g, v.ownBlock = some g → g < B ∨ C ≤ g
theorem filter_yes {S : List Int} {p : Int → Bool} {k : Nat} (hk : k < S.length) (h : p S[k] = true) : (S.take (k + 1)).filter p = (S.take k).filter p ++ [S[k]] := by
  rw [List.take_succ_eq_append_getElem hk, List.filter_append]; simp [h]
theorem filter_no {S : List Int} {p : Int → Bool} {k : Nat} (hk : k < S.length) (h : p S[k] = false) : (S.take (k + 1)).filter p = (S.take k).filter p := by
  rw [List.take_succ_eq_append_getElem hk, List.filter_append]; simp [h]

set_option maxRecDepth 100000 in
set_option maxHeartbeats 4000000 in
theorem l1MissingE_any (A A' : Option Addr) (c c' : Nat) (os es : List Ob) (fr : List Int) (w : World) (h : Objs w w.heap.size A os) (HS : Hid (Eff os es)) (hn16 : os.length ≤ 32) (hfr : Row w w.heap.size A' (ints fr)) (HF : Hid (fr.Nodup ∧ ∀ x ∈ fr, 0 ≤ x ∧ x < 991)) (h4 : fr.length ≤ 4) :
    Calls Try.prog 84 #[.slice A os.length c, .slice A' fr.length c'] w (fun e w' => ∃ L, RcList es fr L ∧ NewOwn (missL os L) w e w') := by
  obtain ⟨i0, hi, hz0, hz1, hz2⟩ := info_of info_int
  have HV : Hid (∀ i (hi : i < os.length), vOb os[i] = true) := fun i hi => HS.out.val _ (List.getElem_mem hi)
  go_enter Try.func84, Try.ntmps84
  obtain ⟨w1, hw1⟩ : ∃ w1, w.alloc (.cells #[] 3) = w1 := ⟨_, rfl⟩
  have b1 : Below w.heap.size w w1 := by rw [← hw1]; exact (Below.refl w.heap.size w).alloc (Nat.le_refl _) (.cells #[] 3)
  have o1 : Own w1 w.heap.size (.slice (some ⟨w.heap.size, 0, none⟩) 0 0) [] := by rw [← hw1]; exact .nil_new (Nat.le_refl _)
  have z1 : w.heap.size + 1 ≤ w1.heap.size := by rw [← hw1]; simp
  go_wp2_with fail
  clear hw1
  refine (l1ReachE_any A A' c c' os es fr w1 ((h.below b1 (Nat.le_refl _)).more b1.size) hn16 HS ((hfr.below b1 (Nat.le_refl _)).more b1.size) HF.out h4).mono ?_
  rintro e w2 ⟨L, hL, v2, rfl, o2, hb2⟩
  have b2 := b1.trans (hb2.mono b1.size)
  have o0 := o1.below hb2 (Nat.le_refl _)
  have HL := hid hL
  have hlS := sortedTo_length L 991
  clear hL o1 hb2 b1
  obtain ⟨S, hS⟩ : ∃ S, sortedTo L 991 = S := ⟨_, rfl⟩
  rw [hS] at o2 hlS
  have HSS := hid hS
  clear hS
  obtain ⟨A2, c2, rfl, _⟩ := o2.form
  go_wp2_with fail
  go_loopw [5, 7] (fun v i wr => ∃ k : Nat, i = .int .i64 k ∧ k ≤ S.length ∧ Own wr w.heap.size v ((S.take k).filter (fun x => !isIn os x)) ∧ Own wr w1.heap.size (.slice A2 S.length c2) S ∧ Below w.heap.size w wr ∧ w2.heap.size ≤ wr.heap.size ∧ Off v w1.heap.size w2.heap.size) (fun _ i _ => S.length - (intOf i).toNat)
  case atStart => exact ⟨0, rfl, Nat.zero_le _, o0, o2, b2, Nat.le_refl _, fun g hg => by have hg' : some w.heap.size = some g := hg; injection hg' with hg'; omega⟩
  case round =>
    obtain ⟨k, rfl, hk, ho, hoS, hb, hz2', hoff⟩ := hrel
    clear o0 b2
    have hz := hb.size
    have hlf : ((S.take k).filter (fun x => !isIn os x)).length ≤ k := Nat.le_trans (List.length_filter_le _ _) (by rw [List.length_take]; omega)
    obtain ⟨AF, cF, rfl, _⟩ := ho.form
    by_cases hlt : k < S.length
    · obtain ⟨ad, rfl, hba, hc⟩ := hoS.row.int_ hlt
      obtain ⟨r, hr⟩ := first_ex os S[k]
      have HR := hid hr
      clear hr
      have hw := (h.below hb (Nat.le_refl _)).more hz
      obtain ⟨x, hx⟩ : ∃ x, S[k] = x := ⟨_, rfl⟩
      rw [hx] at hc HR
      have HX := hid hx
      clear hx
      have k0 : 0 ≤ (k : Int) := by omega
      have k1 : (k : Int) < (S.length : Int) := by omega
      by_cases hrl : r < os.length
      · have HIN : Hid (isIn os x = true) := isIn_iff.2 ⟨_, List.getElem_mem hrl, HR.out.2.2 hrl⟩
        go_wp2_with fail
        refine (l1Get_any A c os x r (r : Int) wr hw (by unfold maxLen; omega) (by show (r : Int) = _; rw [if_pos hrl]) HV HR).mono ?_
        rintro e w6 ⟨rfl, hb6⟩
        have b6 := hb.trans (hb6.mono hz)
        have o6 := ho.below hb6 (Nat.le_refl _)
        have oS6 := hoS.below hb6 (Nat.le_refl _)
        have z6 := hb6.size
        have g0 : 0 ≤ (r : Int) := by omega
        have g1 : ¬ (r : Int) < 0 := by omega
        clear hc hba hb6 hw ho hb hoS
        have HE : Hid ((S.take (k + 1)).filter (fun x => !isIn os x) = (S.take k).filter (fun x => !isIn os x)) := filter_no hlt (by rw [HX.out]; first | exact HIN.out | exact congrArg (fun b => !b) HIN.out)
        go_wp2_with fail
        go_roundw
        case rel => exact ⟨k + 1, by go_num, by omega, by rw [HE.out]; exact o6, oS6, b6, by omega, hoff⟩
        case measure => simp [intOf]; omega
      · have HIN : Hid (isIn os x = false) := by
          show isIn os x = false
          rw [Bool.eq_false_iff]
          intro e
          obtain ⟨o, ho, he⟩ := isIn_iff.1 e
          obtain ⟨i, hi, rfl⟩ := List.mem_iff_getElem.1 ho
          exact HR.out.2.1 i hi (by omega) he
        go_wp2_with fail
        refine (l1Get_any A c os x r (-1) wr hw (by unfold maxLen; omega) (by show (-1 : Int) = _; rw [if_neg hrl]) HV HR).mono ?_
        rintro e w6 ⟨rfl, hb6⟩
        have b6 := hb.trans (hb6.mono hz)
        have o6 := ho.below hb6 (Nat.le_refl _)
        have oS6 := hoS.below hb6 (Nat.le_refl _)
        have z6 := hb6.size
        clear hc hba hb6 hw ho hb hoS
        have HE : Hid ((S.take (k + 1)).filter (fun x => !isIn os x) = (S.take k).filter (fun x => !isIn os x) ++ [x]) := by
          rw [← HX.out]; exact filter_yes hlt (by rw [HX.out]; first | exact HIN.out | exact congrArg (fun b => !b) HIN.out)
        obtain ⟨ad', had, _, hc⟩ := oS6.row.int_ hlt
        obtain rfl : ad = ad' := by cases had; rfl
        rw [HX.out] at hc
        go_wp2_with (at_builtin; go_must (refine wpList_append_lies _ rfl _ _ 36 rfl w.heap.size 3 i0 (.int .i64 0) 1 8 Try.underlying36 hi hz0 hz1 hz2 rfl (by decide) _ _ _ rfl (World.ownsRow.alloc o6 _) ⟨w6.heap.size, 0, none⟩ 1 1 [.int .i64 x] rfl rfl (cell_one_new _ _ _) (one_int x) (by omega) (by unfold maxLen; omega) (by omega) (by simp; omega) (w6.heap.size + 1) (by simp) ?_); intro gg cap w7 hown hgrow hat hlt7)
        have ho1 := Own.app hown
        have al := (Below.refl w6.heap.size w6).alloc (Nat.le_refl _) (.cells #[.int .i64 x] 3)
        have hb1 : Below w.heap.size w w7 := (b6.alloc b6.size _).grown hgrow (by simp; have := b6.size; omega) (o6.lt)
        have oS7 : Own w7 w1.heap.size (.slice (some ad) S.length c2) S := World.ownsRow.kept (oS6.below al (Nat.le_refl _)) hgrow (by
          rcases hq : (Value.slice (some ad) S.length c2).ownBlock with _ | q
          · exact .inl rfl
          · refine .inr (fun e => ?_)
            have e' : (Value.slice AF ((S.take k).filter (fun x => !isIn os x)).length cF).ownBlock = some q := e.symm
            have q1 := hoff q e'
            have q2 := World.ownsRow.lt o2 q hq
            omega)
        have z7 : w2.heap.size ≤ w7.heap.size := by have := hgrow.size; simp at this; omega
        have off7 : Off (.slice (some ⟨gg, 0, none⟩) (((S.take k).filter (fun x => !isIn os x)).length + 1) cap) w1.heap.size w2.heap.size := fun q hq => by
          have hq' : some gg = some q := hq
          injection hq' with hq'
          subst hq'
          rcases hat with e | e
          · exact hoff gg e
          · omega
        clear hown hgrow hat
        go_wp2_with fail
        go_roundw
        case rel => exact ⟨k + 1, by go_num, by omega, by rw [HE.out]; exact ho1, oS7, hb1, z7, off7⟩
        case measure => simp [intOf]; omega
    · have hk' : k = S.length := by omega
      subst hk'
      have he : (S.take S.length).filter (fun x => !isIn os x) = S.filter (fun x => !isIn os x) := by rw [List.take_length]
      go_wp2
      go_ret
      exact ⟨L, HL.out, _, rfl, by unfold missL; rw [HSS.out, ← he]; exact ho, hb⟩

theorem l1Missing_any (A A' : Option Addr) (c c' : Nat) (os : List Ob) (fr : List Int) (w : World) (h : Objs w w.heap.size A os) (HS : Hid (storeB os = true)) (hn16 : os.length ≤ 16) (hfr : Row w w.heap.size A' (ints fr)) (HF : Hid (fr.Nodup ∧ ∀ x ∈ fr, 0 ≤ x ∧ x < 991)) (h4 : fr.length ≤ 4) :
    Calls Try.prog 84 #[.slice A os.length c, .slice A' fr.length c'] w (fun e w' => ∃ L, RcList os fr L ∧ NewOwn (missL os L) w e w') :=
  l1MissingE_any A A' c c' os os fr w h (Eff.store HS.out) (by omega) hfr HF h4
end Go.Proofs.Ytblknnifccmpkaa
namespace Go.Proofs.Ytblknnifccmpkaa
open Go.RowKit Wo Pu

def Asc (L : List Int) : Prop := L.Pairwise (· < ·)
theorem sortedTo_asc (L : List Int) (k : Nat) : Asc (sortedTo L k) := by
  unfold sortedTo
  refine List.Pairwise.filter _ ?_
  rw [List.pairwise_map]
  exact List.pairwise_lt_range.imp fun h => by omega
theorem reachL_asc (os : List Ob) (L : List Int) : Asc (reachL os L) := List.Pairwise.filter _ (sortedTo_asc L _)
theorem missL_asc (os : List Ob) (L : List Int) : Asc (missL os L) := List.Pairwise.filter _ (sortedTo_asc L _)
theorem Rc.range {os : List Ob} {fr : List Int} {x : Int} (hs : storeB os = true) (hl : linksB fr = true) (h : Rc os fr x) : 0 ≤ x ∧ x < 991 := by
  induction h with
  | base h => exact (linksB_parts hl).1.2 _ h
  | link ho _ hy _ => exact store_links hs _ ho _ hy
theorem mem_reach {os : List Ob} {fr L : List Int} {x : Int} (hs : storeB os = true) (hl : linksB fr = true) (h : RcList os fr L) : x ∈ reachL os L ↔ Rc os fr x ∧ isIn os x = true := by
  unfold reachL
  rw [List.mem_filter, sortedTo_mem, h x]
  exact ⟨fun e => ⟨e.1.1, e.2⟩, fun e => ⟨⟨e.1, e.1.range hs hl⟩, e.2⟩⟩
theorem mem_miss {os : List Ob} {fr L : List Int} {x : Int} (hs : storeB os = true) (hl : linksB fr = true) (h : RcList os fr L) : x ∈ missL os L ↔ Rc os fr x ∧ isIn os x = false := by
  unfold missL
  rw [List.mem_filter, sortedTo_mem, h x, Bool.not_eq_true']
  exact ⟨fun e => ⟨e.1.1, e.2⟩, fun e => ⟨⟨e.1, e.1.range hs hl⟩, e.2⟩⟩
/-- R holds what is reached and stored, M what is reached and not stored. -/
def IsR (os : List Ob) (fr R : List Int) : Prop := Asc R ∧ (((storeB os = true ∧ linksB fr = true) ∧ ∀ x, x ∈ R ↔ Rc os fr x ∧ isIn os x = true) ∨ ((storeB os && linksB fr) = false ∧ R = []))
def IsM (os : List Ob) (fr M : List Int) : Prop := Asc M ∧ (((storeB os = true ∧ linksB fr = true) ∧ ∀ x, x ∈ M ↔ Rc os fr x ∧ isIn os x = false) ∨ ((storeB os && linksB fr) = false ∧ M = []))
theorem Ans.isreach {os : List Ob} {fr L : List Int} (h : Ans os fr L) : IsR os fr (reachL os L) := by
  refine ⟨reachL_asc os L, ?_⟩
  rcases h with ⟨h1, h2⟩ | ⟨h1, h2⟩
  · obtain ⟨hs, hl⟩ := Bool.and_eq_true_iff.1 h1
    exact .inl ⟨⟨hs, hl⟩, fun x => mem_reach hs hl h2⟩
  · exact .inr ⟨h1, by rw [h2, reachL_nil]⟩
theorem Ans.ismiss {os : List Ob} {fr L : List Int} (h : Ans os fr L) : IsM os fr (missL os L) := by
  refine ⟨missL_asc os L, ?_⟩
  rcases h with ⟨h1, h2⟩ | ⟨h1, h2⟩
  · obtain ⟨hs, hl⟩ := Bool.and_eq_true_iff.1 h1
    exact .inl ⟨⟨hs, hl⟩, fun x => mem_miss hs hl h2⟩
  · exact .inr ⟨h1, by rw [h2, missL_nil]⟩
theorem Ans.few {os : List Ob} {L : List Int} : (reachL os L).length ≤ 991 ∧ (missL os L).length ≤ 991 :=
  ⟨Nat.le_trans (List.length_filter_le _ _) (sortedTo_length L 991), Nat.le_trans (List.length_filter_le _ _) (sortedTo_length L 991)⟩
theorem IsR.ok {os : List Ob} {fr R : List Int} (h : IsR os fr R) (hn : R ≠ []) : (storeB os = true ∧ linksB fr = true) ∧ ∀ x, x ∈ R ↔ Rc os fr x ∧ isIn os x = true := by
  rcases h.2 with h | h
  · exact h
  · exact absurd h.2 hn
theorem IsM.ok {os : List Ob} {fr R : List Int} (h : IsM os fr R) (hn : R ≠ []) : (storeB os = true ∧ linksB fr = true) ∧ ∀ x, x ∈ R ↔ Rc os fr x ∧ isIn os x = false := by
  rcases h.2 with h | h
  · exact h
  · exact absurd h.2 hn
/-- Is x a given id, or linked from one of the first k objects of R? -/
def why (os : List Ob) (fr R : List Int) (x : Int) (k : Nat) : Bool := decide (x ∈ fr) || (R.take k).any (fun y => os.any (fun o => decide (iOb o = y) && decide (x ∈ o.zs)))
theorem why_zero (os : List Ob) (fr R : List Int) (x : Int) : why os fr R x 0 = decide (x ∈ fr) := by simp [why]
theorem why_yes {os : List Ob} {fr R : List Int} {x : Int} {k : Nat} (hk : k < R.length) (h : why os fr R x k = true) : why os fr R x (k + 1) = true := by
  unfold why at h ⊢
  rw [List.take_succ_eq_append_getElem hk, List.any_append]
  rw [Bool.or_eq_true] at h
  rcases h with h | h
  · rw [h]; rfl
  · rw [h]; simp
theorem why_no {os : List Ob} {fr R : List Int} {x : Int} {k : Nat} {o : Ob} (hs : storeB os = true) (ho : o ∈ os) (hk : k < R.length) (he : iOb o = R[k]) (h : why os fr R x k = false) : why os fr R x (k + 1) = decide (x ∈ o.zs) := by
  unfold why at h ⊢
  rw [List.take_succ_eq_append_getElem hk, List.any_append]
  rw [Bool.or_eq_false_iff] at h
  rw [h.1, h.2, Bool.false_or, Bool.false_or, List.any_cons, List.any_nil, Bool.or_false, Bool.eq_iff_iff, decide_eq_true_eq, List.any_eq_true]
  constructor
  · rintro ⟨p, hp, hpx⟩
    rw [Bool.and_eq_true, decide_eq_true_eq, decide_eq_true_eq] at hpx
    have := storeB_inj hs hp ho (hpx.1.trans he.symm)
    subst this
    exact hpx.2
  · intro hx
    exact ⟨o, ho, by rw [Bool.and_eq_true, decide_eq_true_eq, decide_eq_true_eq]; exact ⟨he, hx⟩⟩
theorem Rc.cases_ {os : List Ob} {fr : List Int} {x : Int} (h : Rc os fr x) : x ∈ fr ∨ ∃ o ∈ os, Rc os fr (iOb o) ∧ x ∈ o.zs := by
  cases h with
  | base h => exact .inl h
  | link ho h hy => exact .inr ⟨_, ho, h, hy⟩
theorem why_all {os : List Ob} {fr R : List Int} {x : Int} (hR : ∀ x, x ∈ R ↔ Rc os fr x ∧ isIn os x = true) (h : Rc os fr x) : why os fr R x R.length = true := by
  unfold why
  rw [List.take_length, Bool.or_eq_true, decide_eq_true_eq]
  rcases h.cases_ with h | ⟨o, ho, h1, h2⟩
  · exact .inl h
  · refine .inr (List.any_eq_true.2 ⟨iOb o, (hR _).2 ⟨h1, isIn_iff.2 ⟨o, ho, rfl⟩⟩, List.any_eq_true.2 ⟨o, ho, ?_⟩⟩)
    simp [h2]
/-- The object with an id, or the zero one. -/
def obOf (os : List Ob) (x : Int) (o : Ob) : Prop := (isIn os x = true → o ∈ os ∧ iOb o = x) ∧ (isIn os x = false → o = ob0)
theorem fnd_of {os : List Ob} {x : Int} {r : Nat} (hs : storeB os = true) (hr : At_ os x r) : obOf os x ((fndO os x r).getD ob0) ∧ (fndO os x r).isSome = isIn os x := by
  by_cases h : ∃ h : r < os.length, iOb os[r] = x
  · obtain ⟨h1, h2⟩ := h
    have hi : isIn os x = true := (isIn_at hs hr).2 ⟨h1, h2⟩
    rw [fnd_b hs h1 h2, hi]
    exact ⟨⟨fun _ => ⟨List.getElem_mem h1, h2⟩, fun e => by rw [hi] at e; cases e⟩, rfl⟩
  · have hi : isIn os x = false := by
      rw [Bool.eq_false_iff]
      exact fun e => h ((isIn_at hs hr).1 e)
    rw [fnd_c h, hi]
    exact ⟨⟨fun e => (by rw [hi] at e; cases e), fun _ => rfl⟩, rfl⟩
theorem obOf.few {os : List Ob} {x : Int} {o : Ob} (hs : storeB os = true) (h : obOf os x o) : o.zs.length ≤ 4 := by
  cases hi : isIn os x
  · rw [h.2 hi]; simp [ob0]
  · obtain ⟨h1, _⟩ := h.1 hi
    obtain ⟨j, hj, rfl⟩ := List.mem_iff_getElem.1 h1
    exact (vldB_parts (storeB_valid hs j hj : vldB os[j].kd os[j].zs os[j].s.size = true)).2.1
theorem one_links {x : Int} (h0 : 0 ≤ x) (h1 : x < 991) : linksB [x] = true := by
  simp [linksB, ascB]; omega
theorem store_in {os : List Ob} (hs : storeB os = true) {o : Ob} (ho : o ∈ os) : 0 ≤ iOb o ∧ iOb o < 991 := by
  obtain ⟨j, hj, rfl⟩ := List.mem_iff_getElem.1 ho
  have hv : vldB os[j].kd os[j].zs os[j].s.data.toList.length = true := storeB_valid hs j hj
  unfold iOb oid
  rw [if_pos hv]
  exact idOf_range hv
end Go.Proofs.Ytblknnifccmpkaa
namespace Go.Proofs.Ytblknnifccmpkaa
open Go.RowKit Wo Pu

/-- V has been followed, U waits. -/
def Wk (os : List Ob) (fr V U : List Int) : Prop :=
  V.Nodup ∧ (∀ x ∈ V, 0 ≤ x ∧ x < 991) ∧ (∀ x ∈ U, 0 ≤ x ∧ x < 991) ∧ (∀ x ∈ V, Rc os fr x) ∧ (∀ x ∈ U, Rc os fr x) ∧ (∀ x ∈ fr, x ∈ V ∨ x ∈ U) ∧ (∀ o ∈ os, iOb o ∈ V → ∀ y ∈ o.zs, y ∈ V ∨ y ∈ U) ∧ U.length ≤ 4 + 4 * V.length
theorem Wk.start {os : List Ob} {fr : List Int} (h : ∀ x ∈ fr, 0 ≤ x ∧ x < 991) (h4 : fr.length ≤ 4) : Wk os fr [] fr :=
  ⟨List.nodup_nil, fun x hx => (by cases hx), h, fun x hx => (by cases hx), fun x hx => .base hx, fun x hx => .inr hx, fun o _ hx => (by cases hx), by simpa using h4⟩
theorem Wk.skip {os : List Ob} {fr V U : List Int} {x : Int} (h : Wk os fr V (U ++ [x])) (hx : x ∈ V) : Wk os fr V U := by
  obtain ⟨h1, h2, h3, h4, h5, h6, h7, h8⟩ := h
  have key : ∀ y, y ∈ V ∨ y ∈ U ++ [x] → y ∈ V ∨ y ∈ U := fun y hy => by
    rcases hy with e | e
    · exact .inl e
    · rcases List.mem_append.1 e with e | e
      · exact .inr e
      · rw [List.mem_singleton.1 e]; exact .inl hx
  refine ⟨h1, h2, fun y hy => h3 y (List.mem_append_left _ hy), h4, fun y hy => h5 y (List.mem_append_left _ hy), fun y hy => key y (h6 y hy), fun o ho hv y hy => key y (h7 o ho hv y hy), ?_⟩
  rw [List.length_append, List.length_singleton] at h8
  omega
theorem Wk.follow {os : List Ob} {fr V U zs : List Int} {x : Int} (h : Wk os fr V (U ++ [x])) (hx : x ∉ V) (hz : zs.length ≤ 4) (hzr : ∀ y ∈ zs, 0 ≤ y ∧ y < 991)
    (ho : ∀ o ∈ os, iOb o = x → o.zs = zs) (hn : zs = [] ∨ ∃ o ∈ os, iOb o = x ∧ o.zs = zs) : Wk os fr (V ++ [x]) (U ++ zs) := by
  obtain ⟨h1, h2, h3, h4, h5, h6, h7, h8⟩ := h
  have hxU : x ∈ U ++ [x] := List.mem_append_right _ (by simp)
  have key : ∀ y, y ∈ V ∨ y ∈ U ++ [x] → y ∈ V ++ [x] ∨ y ∈ U ++ zs := fun y hy => by
    rcases hy with e | e
    · exact .inl (List.mem_append_left _ e)
    · rcases List.mem_append.1 e with e | e
      · exact .inr (List.mem_append_left _ e)
      · exact .inl (List.mem_append_right _ e)
  refine ⟨nodup_app h1 hx, fun y hy => ?_, fun y hy => ?_, fun y hy => ?_, fun y hy => ?_, fun y hy => key y (h6 y hy), fun o ho' hv y hy => ?_, ?_⟩
  · rcases List.mem_append.1 hy with e | e
    · exact h2 y e
    · rw [List.mem_singleton.1 e]; exact h3 x hxU
  · rcases List.mem_append.1 hy with e | e
    · exact h3 y (List.mem_append_left _ e)
    · exact hzr y e
  · rcases List.mem_append.1 hy with e | e
    · exact h4 y e
    · rw [List.mem_singleton.1 e]; exact h5 x hxU
  · rcases List.mem_append.1 hy with e | e
    · exact h5 y (List.mem_append_left _ e)
    · rcases hn with hn | ⟨o, ho1, ho2, ho3⟩
      · rw [hn] at e; cases e
      · exact .link ho1 (by rw [ho2]; exact h5 x hxU) (by rw [ho3]; exact e)
  · rcases List.mem_append.1 hv with e | e
    · exact key y (h7 o ho' e y hy)
    · rw [ho o ho' (List.mem_singleton.1 e)] at hy
      exact .inr (List.mem_append_right _ hy)
  · rw [List.length_append, List.length_singleton] at h8
    rw [List.length_append, List.length_append, List.length_singleton]
    omega
theorem Wk.end_ {os : List Ob} {fr V : List Int} (h : Wk os fr V []) : RcList os fr V := fun x => by
  obtain ⟨h1, h2, h3, h4, h5, h6, h7, h8⟩ := h
  refine ⟨h4 x, fun hx => hx.closed (fun y hy => ?_) (fun o ho hv y hy => ?_)⟩
  · rcases h6 y hy with e | e
    · exact e
    · cases e
  · rcases h7 o ho hv y hy with e | e
    · exact e
    · cases e
theorem Wk.few {os : List Ob} {fr V U : List Int} (h : Wk os fr V U) : V.length ≤ 991 ∧ U.length ≤ 3968 := by
  have h1 := range_le h.1 h.2.1
  have h2 := h.2.2.2.2.2.2.2
  omega
open Classical in
/-- How many marks are set. -/
noncomputable def seen (w : World) (g : Nat) : Nat := if h : ∃ V, Arr w g V ∧ V.Nodup ∧ ∀ x ∈ V, 0 ≤ x ∧ x < 991 then (Classical.choose h).length else 0
theorem Arr.mem {w : World} {g : Nat} {V U : List Int} (h : Arr w g V) (h' : Arr w g U) (hv : ∀ x ∈ V, 0 ≤ x ∧ x < 991) : ∀ x ∈ V, x ∈ U := fun x hx => by
  have hb := hv x hx
  have e1 := h.read (i := x.toNat) (by omega)
  have e2 := h'.read (i := x.toNat) (by omega)
  rw [e1, show ((x.toNat : Nat) : Int) = x from by omega] at e2
  injection e2 with e2
  injection e2 with e2
  rw [decide_eq_true hx] at e2
  exact of_decide_eq_true e2.symm
theorem seen_eq {w : World} {g : Nat} {V : List Int} (h : Arr w g V) (hn : V.Nodup) (hv : ∀ x ∈ V, 0 ≤ x ∧ x < 991) : seen w g = V.length := by
  have hex : ∃ V, Arr w g V ∧ V.Nodup ∧ ∀ x ∈ V, 0 ≤ x ∧ x < 991 := ⟨V, h, hn, hv⟩
  unfold seen
  rw [dif_pos hex]
  obtain ⟨k1, k2, k3⟩ := Classical.choose_spec hex
  exact Nat.le_antisymm (nodup_le k2 (k1.mem h k3)) (nodup_le hn (h.mem k1 hv))
end Go.Proofs.Ytblknnifccmpkaa
namespace Go.Proofs.Ytblknnifccmpkaa
open Go.RowKit Wo Pu

def slen : Value → Nat
  | .slice _ n _ => n
  | _ => 0
theorem Own.cap_ {w : World} {B n c : Nat} {A : Option Addr} {zs : List Int} (h : Own w B (.slice A n c) zs) : n ≤ c := by
  obtain ⟨h1, h2⟩ := h
  rcases h2 with ⟨hv, h0⟩ | ⟨g, cap, cur, hv, hB, hh, hn, _⟩
  · injection hv with _ h3 h4; omega
  · injection hv with _ h3 h4; omega

theorem Own.cat {w : World} {B n : Nat} {v : Value} {us zs : List Int} (h : w.ownsRow B 3 1 v n (ints us ++ ints zs)) (hn : n = us.length + zs.length) : Own w B v (us ++ zs) := by
  subst hn
  unfold Own
  have e : ints (us ++ zs) = ints us ++ ints zs := by simp [ints]
  rw [e, List.length_append]
  exact h
set_option maxRecDepth 100000 in
theorem info_marks : (Try.prog.info? 116).map (·.size) = some 991 := by kernel_rfl
theorem arr_ones {cur : Array Value} {f : Nat → Bool} (h1 : cur.size = 991) (h2 : ∀ i : Nat, i < 991 → cur[i]? = some (.bool (f i))) : cur.all (·.oneCell') = true := by
  rw [Array.all_eq_true]
  intro i hi
  have := h2 i (by omega)
  rw [Array.getElem?_eq_getElem hi] at this
  injection this with this
  rw [this]
  rfl
/-! ### Sorted objects, however many. -/
theorem at_none_ {os : List Ob} {id : Int} {r : Nat} (hs : stB (-1) os = true) (hr : At_ os id r) (h : ¬ ∃ h : r < os.length, iOb os[r] = id) : ∀ j (hj : j < os.length), ¬ iOb os[j] = id := by
  intro j hj e
  by_cases hjr : j < r
  · have := hr.2.1 j hj hjr; omega
  · have hr2 : r < os.length := by omega
    have h1 := hr.2.2 hr2
    by_cases hjr2 : j = r
    · subst hjr2; exact h ⟨hr2, e⟩
    · have := (stB_sorted hs r hr2).2 j hj (by omega)
      have : ¬ iOb os[r] = id := fun e2 => h ⟨hr2, e2⟩
      omega
theorem stB_inj {os : List Ob} {o p : Ob} (hs : stB (-1) os = true) (ho : o ∈ os) (hp : p ∈ os) (h : iOb o = iOb p) : o = p := by
  obtain ⟨i, hi, rfl⟩ := List.mem_iff_getElem.1 ho
  obtain ⟨j, hj, rfl⟩ := List.mem_iff_getElem.1 hp
  have hsort := stB_sorted hs
  by_cases h1 : i < j
  · have := (hsort i hi).2 j hj h1; omega
  · by_cases h2 : i = j
    · subst h2; rfl
    · have := (hsort j hj).2 i hi (by omega); omega
theorem stB_links {os : List Ob} (hs : stB (-1) os = true) : ∀ o ∈ os, ∀ y ∈ o.zs, 0 ≤ y ∧ y < 991 := fun o ho y hy => by
  obtain ⟨i, hi, rfl⟩ := List.mem_iff_getElem.1 ho
  have hv : vldB os[i].kd os[i].zs os[i].s.size = true := stB_valid hs i hi
  have := ascB_range (vldB_parts hv).1 y hy
  omega
set_option maxRecDepth 100000 in
set_option maxHeartbeats 4000000 in
theorem markReached_any (A A' : Option Addr) (c c' : Nat) (os : List Ob) (fr : List Int) (w : World) (h : Objs w w.heap.size A os) (HS : Hid (stB (-1) os = true)) (hn16 : os.length ≤ 32) (hfr : Row w w.heap.size A' (ints fr)) (HF : Hid (fr.Nodup ∧ ∀ x ∈ fr, 0 ≤ x ∧ x < 991)) (h4 : fr.length ≤ 4) :
    Calls Try.prog 109 #[.slice A os.length c, .slice A' fr.length c'] w (fun e w' => ∃ V cur, RcList os fr V ∧ e = .returned (.agg cur) ∧ cur.size = 991 ∧ (∀ i : Nat, i < 991 → cur[i]? = some (.bool (decide ((i : Int) ∈ V)))) ∧ Below w.heap.size w w') := by
  obtain ⟨i0, hi, hz0, hz1, hz2⟩ := info_of info_int
  go_enter Try.func109, Try.ntmps109
  obtain ⟨w1, hw1⟩ : ∃ w1, (w.alloc (.cells Try.zeroCells116 116)).alloc (.cells Try.zeroCells116 116) = w1 := ⟨_, rfl⟩
  have y0 := (Below.refl w.heap.size w).alloc (Nat.le_refl _) (.cells Try.zeroCells116 116)
  have z1 : w1.heap.size = w.heap.size + 2 := by rw [← hw1]; simp
  have b1 : Below w.heap.size w w1 := by rw [← hw1]; exact y0.alloc y0.size _
  have a1 : Arr w1 (w.heap.size + 1) [] := by
    rw [← hw1]
    have := Arr.new_ (w.alloc (.cells Try.zeroCells116 116))
    rwa [World.size_alloc] at this
  have r1 : Arr w1 w.heap.size [] := by
    rw [← hw1]
    exact (Arr.new_ w).below ((Below.refl _ _).alloc (Nat.le_refl _) _) (by simp)
  go_wp2_with fail
  clear hw1 y0
  refine (copyNumbers_any w.heap.size A' c' fr w1 (hfr.below b1 (Nat.le_refl _)) (by omega) (by omega)).mono ?_
  rintro e w2 ⟨A2, c2, rfl, o2, hb2⟩
  have a2 := a1.below hb2 (by omega)
  have r2 := r1.below hb2 (by omega)
  have b2 := b1.trans (hb2.mono b1.size)
  rw [z1] at o2
  clear a1 r1 b1 hb2
  go_wp2_with fail
  go_loopw [6] (fun v wr => ∃ V U, Own wr (w.heap.size + 2) v U ∧ Arr wr (w.heap.size + 1) V ∧ Arr wr w.heap.size [] ∧ Below w.heap.size w wr ∧ Hid (Wk os fr V U)) (fun v wr => 5 * (991 - seen wr (w.heap.size + 1)) + slen v)
  case atStart => exact ⟨[], fr, o2, a2, r2, b2, Wk.start HF.out.2 h4⟩
  case round =>
    obtain ⟨V, U, ho, ha, hra, hb, HW⟩ := hrel
    clear o2 a2 r2 b2
    have hz := hb.size
    have few := HW.out.few
    obtain ⟨AU, cU, rfl, hrow⟩ := ho.form
    by_cases hU : U = []
    · subst hU
      have HE := hid (Wk.end_ HW.out)
      obtain ⟨cur, hcur, hsz, hmem⟩ := ha
      obtain ⟨cur0, hcur0, hsz0, _⟩ := hra
      have HM := hid hmem
      have HALL := hid (arr_ones hsz hmem)
      have hszE := hid hsz
      have hszE0 := hid hsz0
      clear hmem HW ho hsz hsz0
      go_wp2_with (first
        | (refine wpList_load_row rfl 116 _ rfl (w.heap.size + 1) rfl 116 cur (0, 0) _ hcur Try.underlying116 rfl (by rw [hszE.out]; exact info_marks) ?_)
        | (refine wpList_store_rowTo rfl 116 _ _ rfl rfl w.heap.size cur rfl rfl 116 cur0 hcur0 (by rw [hszE.out]; exact info_marks) (by rw [hszE.out, hszE0.out]) HALL.out ?_))
      have hres := setRow_heap wr w.heap.size cur0 cur 116 (0, 0) hcur0
      have hbl := below_setRow hb (Nat.le_refl _) cur
      generalize wr.setRow w.heap.size cur = wz at *
      refine bodyPost_ret (v := .agg cur) (results_cell_row (p := 4) (by kernel_rfl) _ wz w.heap.size 116 cur (0, 0) _ rfl hres Try.underlying116 rfl (by rw [hszE.out]; exact info_marks)) rfl ?_
      exact ⟨V, cur, HE.out, rfl, hszE.out, HM.out, hbl⟩
    · obtain ⟨U', x, rfl⟩ : ∃ U' x, U = U' ++ [x] := ⟨U.dropLast, U.getLast hU, (List.dropLast_concat_getLast hU).symm⟩
      have hl : (U' ++ [x]).length = U'.length + 1 := by simp
      have hcap := ho.cap_
      obtain ⟨ad, rfl, hba, hc⟩ := hrow.int_ (k := U'.length) (by omega)
      rw [List.getElem_append_right (Nat.le_refl _)] at hc
      simp only [Nat.sub_self, List.getElem_singleton] at hc
      have hxr := HW.out.2.2.1 x (List.mem_append_right _ (by simp))
      obtain ⟨i, rfl⟩ : ∃ i : Nat, x = (i : Int) := ⟨x.toNat, by omega⟩
      have hi991 : i < 991 := by omega
      have hrd := ha.read hi991
      have hfz := ha.frozen i
      rw [hl] at ho hcap few ⊢
      have e1 : 0 < (U'.length : Int) + 1 := by omega
      have e2 : (U'.length : Int) < (U'.length : Int) + 1 := by omega
      have e3 : (U'.length : Int) ≤ (cU : Int) := by omega
      have e4 : (i : Int) < 991 := by omega
      have e5 : 0 ≤ (i : Int) := by omega
      have e6 : 0 ≤ (U'.length : Int) := by omega
      cases hx : decide ((i : Int) ∈ V)
      · rw [hx] at hrd
        have hx' := of_decide_eq_false hx
        have hs0 := seen_eq ha HW.out.1 HW.out.2.1
        have hvl := range_le HW.out.1 HW.out.2.1
        have ha3 := ha.set hi991
        have hra3 := hra.far (p := ⟨w.heap.size + 1, i, none⟩) (by show w.heap.size ≠ w.heap.size + 1; omega) (.bool true)
        have hb3 := hb.trans ((but_set wr (w.heap.size + 1) i (.bool true)).below hz (by omega))
        have ho3 := ho.shrink.but (but_set wr (w.heap.size + 1) i (.bool true)) (by omega)
        have z3 : w.heap.size + 2 ≤ (wr.setCell ⟨w.heap.size + 1, i, none⟩ (.bool true)).heap.size := by
          have := ha3.lt; omega
        go_wp2_with fail
        generalize wr.setCell ⟨w.heap.size + 1, i, none⟩ (.bool true) = w3 at *
        obtain ⟨r, hr⟩ := at_ex os (i : Int)
        have HR := hid hr
        have hf : Fit os := fun o ho => by
          obtain ⟨j, hj, rfl⟩ := List.mem_iff_getElem.1 ho
          have := vldB_parts (stB_valid HS.out j hj : vldB os[j].kd os[j].zs os[j].s.size = true)
          unfold maxLen; omega
        clear hr hc hba hrow hrd hfz
        refine (findObject_any A c os i r w3 ((h.below hb3 (Nat.le_refl _)).more hb3.size) hf (by unfold maxLen; omega) HR).mono ?_
        rintro e w4 ⟨b, rfl, hbb, hb4⟩
        have HBB := hid hbb
        have z4 := hb4.size
        have ha4 := ha3.below hb4 ha3.lt
        have hra4 := hra3.below hb4 hra3.lt
        have b4 := hb3.trans (hb4.mono hb3.size)
        have ho4 := ho3.below hb4 (Nat.le_refl _)
        clear hbb ha3 hra3 hb3 ho3 hb4 ho ha hra hb
        cases b
        · have HN : Hid (Wk os fr (V ++ [(i : Int)]) U') := by
            have := HW.out.follow (zs := []) hx' (by simp) (fun y hy => by cases hy) (fun o ho he => by
              obtain ⟨j, hj, rfl⟩ := List.mem_iff_getElem.1 ho
              have hno : ¬ ∃ h : r < os.length, iOb os[r] = (i : Int) := fun e => by have := HBB.out.2 e; cases this
              exact absurd he (at_none_ HS.out HR.out hno j hj)) (.inl rfl)
            rwa [List.append_nil] at this
          have hs1 := seen_eq ha4 HN.out.1 HN.out.2.1
          rw [List.length_append, List.length_singleton] at hs1
          have hvl1 := range_le HN.out.1 HN.out.2.1
          rw [List.length_append, List.length_singleton] at hvl1
          go_wp2_with fail
          go_roundw
          case rel => exact ⟨V ++ [(i : Int)], U', ho4, ha4, hra4, b4, HN⟩
          case measure => simp only [slen]; rw [hs0, hs1]; omega
        · obtain ⟨hrl, hid4⟩ := HBB.out.1 rfl
          obtain ⟨o, ad4, A4, c4, hoo, rfl, had4, g0, g1, g2, g3⟩ := (h.below b4 (Nat.le_refl _)).obj hrl
          rw [hoo] at hid4
          have HO : Hid (o ∈ os ∧ iOb o = (i : Int)) := ⟨by rw [← hoo]; exact List.getElem_mem hrl, hid4⟩
          have hvo : vldB o.kd o.zs o.s.size = true := by rw [← hoo]; exact stB_valid HS.out r hrl
          have hz4 : o.zs.length ≤ 4 := (vldB_parts hvo).2.1
          have HZR : Hid (∀ y ∈ o.zs, 0 ≤ y ∧ y < 991) := fun y hy => stB_links HS.out o HO.out.1 y hy
          clear hoo hid4 hvo
          have HN : Hid (Wk os fr (V ++ [(i : Int)]) (U' ++ o.zs)) :=
            HW.out.follow hx' hz4 HZR.out (fun p hp he => by rw [stB_inj HS.out hp HO.out.1 (he.trans HO.out.2.symm)]) (.inr ⟨o, HO.out.1, HO.out.2, rfl⟩)
          have hs1 := seen_eq ha4 HN.out.1 HN.out.2.1
          have r0 : 0 ≤ (r : Int) := by omega
          have r1 : (r : Int) < (os.length : Int) := by omega
          have hUl : U'.length ≤ 3968 := by have := HW.out.few; rw [hl] at this; omega
          have hzw : w.heap.size + 2 ≤ w4.heap.size := by omega
          go_wp2_with (at_builtin; go_must (refine wpList_append_row _ rfl _ _ 36 rfl (w.heap.size + 2) 3 i0 (.int .i64 0) 1 8 Try.underlying36 hi hz0 hz1 hz2 rfl (by decide) _ U'.length (ints U') rfl ho4 w.heap.size A4 o.zs.length c4 (ints o.zs) rfl g3 (by rw [ints_length]; omega) (ints_cells _) (by unfold maxLen; omega) (by omega) (by omega) ?_); intro v5 w5 hown hg)
          replace hg : w4.grownBy w5 (Value.slice (some ad) U'.length cU).ownBlock := hg
          have ho5 := Own.cat hown rfl
          have ha5 := ha4.grown hg (fun e => by have := ho4.lt _ e.symm; omega)
          have hra5 := hra4.grown hg (fun e => by have := ho4.lt _ e.symm; omega)
          have b5 := b4.grown hg b4.size (fun q hq => by have := ho4.lt q hq; omega)
          have hs5 := seen_eq ha5 HN.out.1 HN.out.2.1
          rw [List.length_append, List.length_singleton] at hs5
          obtain ⟨A5, c5, rfl, _⟩ := ho5.form
          have hvl1 := range_le HN.out.1 HN.out.2.1
          rw [List.length_append, List.length_singleton] at hvl1
          clear hown hg
          go_roundw
          case rel => exact ⟨V ++ [(i : Int)], U' ++ o.zs, ho5, ha5, hra5, b5, HN⟩
          case measure => simp only [slen]; rw [hs0, hs5, List.length_append]; omega
      · rw [hx] at hrd
        have HN : Hid (Wk os fr V U') := HW.out.skip (of_decide_eq_true hx)
        go_wp2_with fail
        go_roundw
        case rel => exact ⟨V, U', ho.shrink, ha, hra, hb, HN⟩
        case measure => simp [slen]
end Go.Proofs.Ytblknnifccmpkaa
namespace Go.Proofs.Ytblknnifccmpkaa
open Go.RowKit Wo Pu

/-- Two lists do not lie in one block. -/
def AptR (v u : Value) : Prop := ∀ g, v.ownBlock = some g → u.ownBlock ≠ some g
theorem AptR.symm {v u : Value} (h : AptR v u) : AptR u v := fun g h1 h2 => h g h2 h1
theorem Own.keep_ {w w' : World} {B : Nat} {v u : Value} {zs : List Int} (h : Own w B v zs) (hg : w.grownBy w' u.ownBlock) (ha : AptR v u) : Own w' B v zs :=
  World.ownsRow.kept h hg (by
    rcases hv : v.ownBlock with _ | k
    · exact .inl rfl
    · exact .inr (fun e => ha k hv e.symm))
theorem AptR.new_ {w : World} {B g n c : Nat} {v u : Value} {zs : List Int} (h : AptR u v) (hu : Own w B u zs) (hat : v.ownBlock = some g ∨ w.heap.size ≤ g) : AptR u (.slice (some ⟨g, 0, none⟩) n c) := fun q h1 h2 => by
  have h2' : some g = some q := h2
  injection h2' with h2'
  subst h2'
  rcases hat with e | e
  · exact h g h1 e
  · have := (World.ownsRow.lt hu g h1).2; omega

/-- What is reached, in two lists of the call's own. -/
def BothAs (os : List Ob) (fr : List Int) (w : World) (e : Ending) (w' : World) : Prop :=
  ∃ L v1 v2, RcList os fr L ∧ e = .returned (.tuple #[v1, v2]) ∧ Own w' w.heap.size v1 (reachL os L) ∧ Own w' w.heap.size v2 (missL os L) ∧ Below w.heap.size w w'


set_option maxRecDepth 100000 in
set_option maxHeartbeats 4000000 in
theorem reachedIds_any (A A' : Option Addr) (c c' : Nat) (os : List Ob) (fr : List Int) (w : World) (h : Objs w w.heap.size A os) (HS : Hid (stB (-1) os = true)) (hn16 : os.length ≤ 32) (hfr : Row w w.heap.size A' (ints fr)) (HF : Hid (fr.Nodup ∧ ∀ x ∈ fr, 0 ≤ x ∧ x < 991)) (h4 : fr.length ≤ 4) :
    Calls Try.prog 81 #[.slice A os.length c, .slice A' fr.length c'] w (BothAs os fr w) := by
  obtain ⟨i0, hi, hz0, hz1, hz2⟩ := info_of info_int
  have hf : Fit os := fun o ho => by
    obtain ⟨j, hj, rfl⟩ := List.mem_iff_getElem.1 ho
    have := vldB_parts (stB_valid HS.out j hj : vldB os[j].kd os[j].zs os[j].s.size = true)
    unfold maxLen; omega
  go_enter Try.func81, Try.ntmps81
  go_wp2_with fail
  refine (markReached_any A A' c c' os fr w h HS hn16 hfr HF h4).mono ?_
  rintro e w1 ⟨V, cur, hrc, rfl, hsz, hmem, b1⟩
  have HRC := hid hrc
  have HM := hid hmem
  have HALL := hid (arr_ones hsz hmem)
  clear hrc hmem
  have hzw := b1.size
  have hres0 := setRow_heap (w1.alloc (.cells Try.zeroCells116 116)) w1.heap.size _ cur 116 (0, 0) (heap_alloc_new w1 _)
  have hbS := below_setRow ((Below.refl w1.heap.size w1).alloc (Nat.le_refl _) (.cells Try.zeroCells116 116)) (Nat.le_refl _) cur
  have zS : ((w1.alloc (.cells Try.zeroCells116 116)).setRow w1.heap.size cur).heap.size = w1.heap.size + 1 := by simp
  obtain ⟨w2, hw2⟩ : ∃ w2, (w1.alloc (.cells Try.zeroCells116 116)).setRow w1.heap.size cur = w2 := ⟨_, rfl⟩
  rw [hw2] at hres0 hbS zS
  have b2 := b1.trans (hbS.mono b1.size)
  have ar2 : Arr w2 w1.heap.size V := ⟨cur, hres0, hsz, HM.out⟩
  have al1 := (Below.refl w2.heap.size w2).alloc (Nat.le_refl _) (.cells #[] 3)
  have al2 := al1.alloc al1.size (.cells #[] 3)
  have o1 : Own ((w2.alloc (.cells #[] 3)).alloc (.cells #[] 3)) (w1.heap.size + 1) (.slice (some ⟨w1.heap.size + 1, 0, none⟩) 0 0) [] := by
    have := (Own.nil_new (w := w2) (B := w1.heap.size + 1) (by omega)).below ((Below.refl _ _).alloc (Nat.le_refl _) (.cells #[] 3)) (Nat.le_refl _)
    rw [zS] at this; exact this
  have o2 : Own ((w2.alloc (.cells #[] 3)).alloc (.cells #[] 3)) (w1.heap.size + 1) (.slice (some ⟨w1.heap.size + 1 + 1, 0, none⟩) 0 0) [] := by
    have := Own.nil_new (w := w2.alloc (.cells #[] 3)) (B := w1.heap.size + 1) (by simp; omega)
    rw [World.size_alloc, zS] at this; exact this
  obtain ⟨w3, hw3⟩ : ∃ w3, (w2.alloc (.cells #[] 3)).alloc (.cells #[] 3) = w3 := ⟨_, rfl⟩
  rw [hw3] at al2 o1 o2
  have b3 := b2.trans (al2.mono b2.size)
  have ar3 := ar2.below al2 ar2.lt
  have z3 : w1.heap.size + 1 ≤ w3.heap.size := by have := al2.size; omega
  have HW2 := hid hw2
  have HW3 := hid hw3
  have HSZ := hid hsz
  clear hres0 hbS b2 ar2 al1 al2 hw2 hw3 hsz HM b1
  go_wp2_with (refine wpList_store_rowTo rfl 116 _ _ rfl rfl w1.heap.size cur rfl rfl 116 Try.zeroCells116 (heap_alloc_new w1 _) (by rw [HSZ.out]; exact info_marks) (by rw [zero_marks, Array.size_replicate, HSZ.out]) HALL.out ?_; rw [HW2.out])
  rw [HW3.out]
  clear HW2 HW3 zS
  have ap0 : AptR (.slice (some ⟨w1.heap.size + 1, 0, none⟩) 0 0) (.slice (some ⟨w1.heap.size + 1 + 1, 0, none⟩) 0 0) := fun g h1 h2 => by
    have h1' : some (w1.heap.size + 1) = some g := h1
    have h2' : some (w1.heap.size + 1 + 1) = some g := h2
    injection h1' with h1'
    injection h2' with h2'
    omega
  go_loopw [7, 8, 17] (fun v u i wr => ∃ k : Nat, i = .int .i64 k ∧ k ≤ 991 ∧ Own wr (w1.heap.size + 1) v ((sortedTo V k).filter (isIn os)) ∧ Own wr (w1.heap.size + 1) u ((sortedTo V k).filter (fun x => !isIn os x)) ∧ AptR v u ∧ Arr wr w1.heap.size V ∧ Below w.heap.size w wr ∧ w1.heap.size + 1 ≤ wr.heap.size) (fun _ _ i _ => 991 - (intOf i).toNat)
  case atStart => exact ⟨0, rfl, by omega, o1, o2, ap0, ar3, b3, z3⟩
  case round =>
    obtain ⟨k, rfl, hk, ho, hu, hap, har, hb, hz1w⟩ := hrel
    clear o1 o2 ar3 b3 z3 ap0
    have hz := hb.size
    have hls := sortedTo_length V k
    have hlf : ((sortedTo V k).filter (isIn os)).length ≤ k := Nat.le_trans (List.length_filter_le _ _) hls
    have hlg : ((sortedTo V k).filter (fun x => !isIn os x)).length ≤ k := Nat.le_trans (List.length_filter_le _ _) hls
    obtain ⟨AF, cF, rfl, _⟩ := ho.form
    obtain ⟨AG, cG, rfl, _⟩ := hu.form
    by_cases hlt : k < 991
    · have hrd := har.read hlt
      have k0 : 0 ≤ (k : Int) := by omega
      have k1 : (k : Int) < 991 := by omega
      cases hv : decide ((k : Int) ∈ V)
      · rw [hv] at hrd
        have HE : Hid (sortedTo V (k + 1) = sortedTo V k) := sortedTo_no (of_decide_eq_false hv)
        clear hv
        go_wp2_with fail
        go_roundw
        case rel => exact ⟨k + 1, by go_num, by omega, by rw [HE.out]; exact ho, by rw [HE.out]; exact hu, hap, har, hb, hz1w⟩
        case measure => simp [intOf]; omega
      · rw [hv] at hrd
        have HV := hid hv
        obtain ⟨r, hr⟩ := at_ex os (k : Int)
        have HR := hid hr
        clear hv hr
        go_wp2_with fail
        refine (findObject_any A c os k r wr ((h.below hb (Nat.le_refl _)).more hb.size) hf (by unfold maxLen; omega) HR).mono ?_
        rintro e w4 ⟨b, rfl, hbb, hb4⟩
        have hin : isIn os (k : Int) = b := by rw [Bool.eq_iff_iff, isIn_at_ HS.out HR.out, hbb]
        have HIN := hid hin
        have b4 := hb.trans (hb4.mono hz)
        have ho4 := ho.below hb4 (Nat.le_refl _)
        have hu4 := hu.below hb4 (Nat.le_refl _)
        have ar4 := har.below hb4 har.lt
        have z4 := hb4.size
        have hap2 := hap.symm
        clear hin hbb hrd ho hu har hb hb4
        cases b
        · skip
          have HE : Hid ((sortedTo V (k + 1)).filter (fun x => !isIn os x) = (sortedTo V k).filter (fun x => !isIn os x) ++ [(k : Int)]) := by
            show (sortedTo V (k + 1)).filter (fun x => !isIn os x) = (sortedTo V k).filter (fun x => !isIn os x) ++ [(k : Int)]
            rw [sortedTo_yes (of_decide_eq_true HV.out), List.filter_append]
            congr 1
            rw [List.filter_cons, List.filter_nil, if_pos (by first | exact HIN.out | exact congrArg (fun b => !b) HIN.out)]
          have HE2 : Hid ((sortedTo V (k + 1)).filter (isIn os) = (sortedTo V k).filter (isIn os)) := by
            show (sortedTo V (k + 1)).filter (isIn os) = (sortedTo V k).filter (isIn os)
            rw [sortedTo_yes (of_decide_eq_true HV.out), List.filter_append]
            rw [List.filter_cons, List.filter_nil, if_neg (by rw [Bool.not_eq_true]; first | exact HIN.out | exact congrArg (fun b => !b) HIN.out), List.append_nil]
          go_wp2_with (at_builtin; go_must (refine wpList_append_lies _ rfl _ _ 36 rfl (w1.heap.size + 1) 3 i0 (.int .i64 0) 1 8 Try.underlying36 hi hz0 hz1 hz2 rfl (by decide) _ _ _ rfl (World.ownsRow.alloc hu4 _) ⟨w4.heap.size, 0, none⟩ 1 1 [.int .i64 (k : Int)] rfl rfl (cell_one_new _ _ _) (one_int _) (by omega) (by unfold maxLen; omega) (by omega) (by simp; omega) (w4.heap.size + 1) (by simp) ?_); intro gg cap w7 hown hgrow hat hlt7)
          have ho1 := Own.app hown
          have al := (Below.refl w4.heap.size w4).alloc (Nat.le_refl _) (.cells #[.int .i64 (k : Int)] 3)
          have hb1 : Below w.heap.size w w7 := (b4.alloc b4.size _).grown hgrow (by simp; have := b4.size; omega) (fun q hq => by have := hu4.lt q hq; omega)
          have oB7 := (ho4.below al (Nat.le_refl _)).keep_ hgrow hap
          have ar7 : Arr w7 w1.heap.size V := (ar4.below al ar4.lt).grown hgrow (fun e => by have := hu4.lt _ e.symm; omega)
          have z7 : w1.heap.size + 1 ≤ w7.heap.size := by have := hgrow.size; simp at this; omega
          have ap7 := hap.new_ ho4 (g := gg) (n := ((sortedTo V k).filter (fun x => !isIn os x)).length + 1) (c := cap) (hat.elim (fun e => .inl e) (fun e => .inr (by omega)))
          clear hown hgrow hat
          go_wp2_with fail
          go_roundw
          case rel => exact ⟨k + 1, by go_num, by omega, by rw [HE2.out]; exact oB7, by rw [HE.out]; exact ho1, ap7, ar7, hb1, z7⟩
          case measure => simp [intOf]; omega
        · skip
          have HE : Hid ((sortedTo V (k + 1)).filter (isIn os) = (sortedTo V k).filter (isIn os) ++ [(k : Int)]) := by
            show (sortedTo V (k + 1)).filter (isIn os) = (sortedTo V k).filter (isIn os) ++ [(k : Int)]
            rw [sortedTo_yes (of_decide_eq_true HV.out), List.filter_append]
            congr 1
            rw [List.filter_cons, List.filter_nil, if_pos (by first | exact HIN.out | exact congrArg (fun b => !b) HIN.out)]
          have HE2 : Hid ((sortedTo V (k + 1)).filter (fun x => !isIn os x) = (sortedTo V k).filter (fun x => !isIn os x)) := by
            show (sortedTo V (k + 1)).filter (fun x => !isIn os x) = (sortedTo V k).filter (fun x => !isIn os x)
            rw [sortedTo_yes (of_decide_eq_true HV.out), List.filter_append]
            rw [List.filter_cons, List.filter_nil, if_neg (by rw [Bool.not_eq_true]; first | exact HIN.out | exact congrArg (fun b => !b) HIN.out), List.append_nil]
          go_wp2_with (at_builtin; go_must (refine wpList_append_lies _ rfl _ _ 36 rfl (w1.heap.size + 1) 3 i0 (.int .i64 0) 1 8 Try.underlying36 hi hz0 hz1 hz2 rfl (by decide) _ _ _ rfl (World.ownsRow.alloc ho4 _) ⟨w4.heap.size, 0, none⟩ 1 1 [.int .i64 (k : Int)] rfl rfl (cell_one_new _ _ _) (one_int _) (by omega) (by unfold maxLen; omega) (by omega) (by simp; omega) (w4.heap.size + 1) (by simp) ?_); intro gg cap w7 hown hgrow hat hlt7)
          have ho1 := Own.app hown
          have al := (Below.refl w4.heap.size w4).alloc (Nat.le_refl _) (.cells #[.int .i64 (k : Int)] 3)
          have hb1 : Below w.heap.size w w7 := (b4.alloc b4.size _).grown hgrow (by simp; have := b4.size; omega) (fun q hq => by have := ho4.lt q hq; omega)
          have oB7 := (hu4.below al (Nat.le_refl _)).keep_ hgrow hap2
          have ar7 : Arr w7 w1.heap.size V := (ar4.below al ar4.lt).grown hgrow (fun e => by have := ho4.lt _ e.symm; omega)
          have z7 : w1.heap.size + 1 ≤ w7.heap.size := by have := hgrow.size; simp at this; omega
          have ap7 := hap2.new_ hu4 (g := gg) (n := ((sortedTo V k).filter (isIn os)).length + 1) (c := cap) (hat.elim (fun e => .inl e) (fun e => .inr (by omega)))
          clear hown hgrow hat
          go_wp2_with fail
          go_roundw
          case rel => exact ⟨k + 1, by go_num, by omega, by rw [HE.out]; exact ho1, by rw [HE2.out]; exact oB7, ap7.symm, ar7, hb1, z7⟩
          case measure => simp [intOf]; omega
    · have hk' : k = 991 := by omega
      subst hk'
      go_wp2
      go_ret2
      exact ⟨V, _, _, HRC.out, rfl, ho.base (by omega), hu.base (by omega), hb⟩

set_option maxRecDepth 100000 in
set_option maxHeartbeats 4000000 in
theorem implStoreMissing_any (A A' : Option Addr) (c c' : Nat) (os : List Ob) (fr : List Int) (w : World) (h : Objs w w.heap.size A os) (hf : Fit os) (hn : os.length ≤ maxLen) (hfr : Row w w.heap.size A' (ints fr)) (hm : fr.length ≤ maxLen) :
    Calls Try.prog 41 #[.slice A os.length c, .slice A' fr.length c'] w (ReachedAs (missL os) os fr w) := by
  go_enter Try.func41, Try.ntmps41
  go_wp2_with fail
  refine (implStoreValid_any A c os w h hf hn).mono ?_
  rintro e w1 ⟨rfl, b1⟩
  have hr1 := hfr.below b1 (Nat.le_refl _)
  cases hs : storeB os
  · go_wp2
    go_ret
    exact ⟨[], .inr ⟨by rw [hs]; rfl, rfl⟩, _, rfl, by rw [missL_nil]; exact .nil_new b1.size, b1.alloc b1.size _⟩
  · have HS := hid hs
    cases hl : linksB fr
    · go_wp2_with fail
      refine (idsValid_any _ A' c' fr w1 hr1 hm).mono ?_
      rintro e w2 ⟨rfl, rfl⟩
      rw [hl]
      go_wp2
      go_ret
      exact ⟨[], .inr ⟨by rw [hl, Bool.and_false], rfl⟩, _, rfl, by rw [missL_nil]; exact .nil_new b1.size, b1.alloc b1.size _⟩
    · obtain ⟨hF, h4⟩ := linksB_parts hl
      have hn16 := (storeB_parts hs).2
      have HL := hid hl
      have HF := hid hF
      go_wp2_with fail
      refine (idsValid_any _ A' c' fr w1 hr1 hm).mono ?_
      rintro e w2 ⟨rfl, rfl⟩
      rw [hl]
      clear hl hs hF
      go_wp2_with fail
      refine (reachedIds_any A A' c c' os fr w1 ((h.below b1 (Nat.le_refl _)).more b1.size) (hid (storeB_parts HS.out).1) (by omega) ((hfr.below b1 (Nat.le_refl _)).more b1.size) HF h4).mono ?_
      rintro e w2 ⟨L, v1, v2, hL, rfl, o1, o2, hb2⟩
      have HL2 := hid hL
      clear hL
      go_wp2
      go_ret
      exact ⟨L, .inl ⟨by rw [HS.out, HL.out]; rfl, HL2.out⟩, _, rfl, o2.base b1.size, b1.trans (hb2.mono b1.size)⟩
end Go.Proofs.Ytblknnifccmpkaa
