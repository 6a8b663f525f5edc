/-
  Walks: the model's StoreReach and StoreMissing.
-/
import Derived.Test.YtfdilnibhcnkgaaReachS
import Derived.Test.YtfdilnibhcnkgaaStoreV
namespace Go.Proofs.Ytfdilnibhcnkgaa
open Go.RowKit Wo Pu

theorem ascB_nodup {zs : List Int} : ∀ {lo : Int}, ascB lo zs = true → zs.Nodup := by
  induction zs with
  | nil => intro _ _; exact List.nodup_nil
  | cons a bs ih =>
    intro lo h
    simp only [ascB, Bool.and_eq_true, decide_eq_true_eq] at h
    rw [List.nodup_cons]
    exact ⟨fun ha => by have := ascB_range h.2.2 a ha; omega, ih h.2.2⟩
theorem linksB_parts {zs : List Int} (h : linksB zs = true) : (zs.Nodup ∧ ∀ x ∈ zs, 0 ≤ x ∧ x < 991) ∧ zs.length ≤ 4 := by
  simp only [linksB, Bool.and_eq_true, decide_eq_true_eq] at h
  exact ⟨⟨ascB_nodup h.1, fun x hx => by have := ascB_range h.1 x hx; omega⟩, h.2⟩
theorem store_links {os : List Ob} (hs : storeB os = true) : ∀ o ∈ os, ∀ y ∈ o.zs, 0 ≤ y ∧ y < 991 := fun o ho y hy => by
  obtain ⟨i, hi, rfl⟩ := List.mem_iff_getElem.1 ho
  have hv : vldB os[i].kd os[i].zs os[i].s.size = true := storeB_valid hs i hi
  have := ascB_range (vldB_parts hv).1 y hy
  omega
/-- What the answer speaks of. -/
def Ans (os : List Ob) (fr L : List Int) : Prop := ((storeB os && linksB fr) = true ∧ RcList os fr L) ∨ ((storeB os && linksB fr) = false ∧ L = [])
theorem sortedTo_nil (k : Nat) : sortedTo [] k = [] := by
  apply List.eq_nil_iff_forall_not_mem.2
  intro x hx
  have := (sortedTo_mem.1 hx).1
  cases this
theorem reachL_nil (os : List Ob) : reachL os [] = [] := by unfold reachL; rw [sortedTo_nil]; rfl
theorem missL_nil (os : List Ob) : missL os [] = [] := by unfold missL; rw [sortedTo_nil]; rfl
theorem Ans.one {os : List Ob} {fr L M : List Int} (h : Ans os fr L) (h' : Ans os fr M) : sortedTo L 991 = sortedTo M 991 := by
  rcases h with ⟨h1, h2⟩ | ⟨h1, h2⟩
  · rcases h' with ⟨g1, g2⟩ | ⟨g1, g2⟩
    · exact h2.one g2 991
    · rw [h1] at g1; cases g1
  · rcases h' with ⟨g1, g2⟩ | ⟨g1, g2⟩
    · rw [h1] at g1; cases g1
    · rw [h2, g2]
theorem Ans.reach {os : List Ob} {fr L M : List Int} (h : Ans os fr L) (h' : Ans os fr M) : reachL os L = reachL os M := by unfold reachL; rw [h.one h']
theorem Ans.miss {os : List Ob} {fr L M : List Int} (h : Ans os fr L) (h' : Ans os fr M) : missL os L = missL os M := by unfold missL; rw [h.one h']

theorem l1From_any (A A' : Option Addr) (c c' : Nat) (os : List Ob) (fr : List Int) (w : World) (h : Objs w w.heap.size A os) (hf : Fit os) (hn : os.length ≤ maxLen) (hfr : Row w w.heap.size A' (ints fr)) (hm : fr.length ≤ maxLen) :
    Calls Try.prog 46 #[.slice A os.length c, .slice A' fr.length c'] w (Ret (.bool (storeB os && linksB fr)) w) := by
  go_enter Try.func46, Try.ntmps46
  go_wp2_with fail
  refine (specStoreValid_any A c os w h hf hn).mono ?_
  rintro e w1 ⟨rfl, hb1⟩
  have hr1 := hfr.below hb1 (Nat.le_refl _)
  cases hs : storeB os
  · go_wp2
    go_ret
    exact .bool_ (by rw [hs]; rfl) hb1
  · cases ha : ascB (-1) fr
    · go_wp2_with fail
      refine (l1Ids_any _ A' c' fr w1 hr1 hm).mono ?_
      rintro e w2 ⟨rfl, d, rfl⟩
      rw [ha]
      go_wp2
      go_ret
      exact .bool_ (by rw [hs, links_a ha]; rfl) (Wo.Below.drewN hb1 _)
    · by_cases h4 : fr.length ≤ 4
      · go_wp2_with fail
        refine (l1Ids_any _ A' c' fr w1 hr1 hm).mono ?_
        rintro e w2 ⟨rfl, d, rfl⟩
        rw [ha]
        have h4' : (fr.length : Int) ≤ 4 := by omega
        go_wp2
        go_ret
        exact .bool_ (by rw [hs, links_c ha h4]; rfl) (Wo.Below.drewN hb1 _)
      · go_wp2_with fail
        refine (l1Ids_any _ A' c' fr w1 hr1 hm).mono ?_
        rintro e w2 ⟨rfl, d, rfl⟩
        rw [ha]
        have h4' : ¬ (fr.length : Int) ≤ 4 := by omega
        go_wp2
        go_ret
        exact .bool_ (by rw [hs, links_b h4, decide_eq_false (by omega)]; rfl) (Wo.Below.drewN hb1 _)

/-- A list of the call's own, of what is reached. -/
def ReachedAs (f : List Int → List Int) (os : List Ob) (fr : List Int) (w : World) (e : Ending) (w' : World) : Prop := ∃ L, Ans os fr L ∧ NewOwn (f L) w e w'
/-- The list v is not the list that lies from B to C. -/
def Off (v : Value) (B C : Nat) : Prop := ∀ g, v.ownBlock = some g → g < B ∨ C ≤ g
theorem filter_yes {S : List Int} {p : Int → Bool} {k : Nat} (hk : k < S.length) (h : p S[k] = true) : (S.take (k + 1)).filter p = (S.take k).filter p ++ [S[k]] := by
  rw [List.take_succ_eq_append_getElem hk, List.filter_append]; simp [h]
theorem filter_no {S : List Int} {p : Int → Bool} {k : Nat} (hk : k < S.length) (h : p S[k] = false) : (S.take (k + 1)).filter p = (S.take k).filter p := by
  rw [List.take_succ_eq_append_getElem hk, List.filter_append]; simp [h]

set_option maxRecDepth 100000 in
set_option maxHeartbeats 4000000 in
theorem specStoreReach_any (A A' : Option Addr) (c c' : Nat) (os : List Ob) (fr : List Int) (w : World) (h : Objs w w.heap.size A os) (hf : Fit os) (hn : os.length ≤ maxLen) (hfr : Row w w.heap.size A' (ints fr)) (hm : fr.length ≤ maxLen) :
    Calls Try.prog 14 #[.slice A os.length c, .slice A' fr.length c'] w (ReachedAs (reachL os) os fr w) := by
  obtain ⟨i0, hi, hz0, hz1, hz2⟩ := info_of info_int
  go_enter Try.func14, Try.ntmps14
  have a0 := (Below.refl w.heap.size w).alloc (Nat.le_refl _) (.cells #[] 3)
  have o0 : Own (w.alloc (.cells #[] 3)) w.heap.size (.slice (some ⟨w.heap.size, 0, none⟩) 0 0) [] := .nil_new (Nat.le_refl _)
  go_wp2_with fail
  refine (l1From_any A A' c c' os fr _ ((h.below a0 (Nat.le_refl _)).more a0.size) hf hn ((hfr.below a0 (Nat.le_refl _)).more a0.size) hm).mono ?_
  rintro e w1 ⟨rfl, hb1⟩
  have z1 := hb1.size
  simp only [World.size_alloc] at z1
  have b1 := a0.trans (hb1.mono (by simp))
  have o1 := o0.below hb1 (Nat.le_refl _)
  clear a0 o0 hb1
  cases hok : (storeB os && linksB fr)
  · go_wp2
    go_ret
    exact ⟨[], .inr ⟨hok, rfl⟩, _, rfl, by rw [reachL_nil]; exact o1, b1⟩
  · have HOK := hid hok
    obtain ⟨hs, hl⟩ := Bool.and_eq_true_iff.1 hok
    have HS := hid hs
    obtain ⟨hF, h4⟩ := linksB_parts hl
    have hn16 := (storeB_parts hs).2
    have HV : Hid (∀ i (hi : i < os.length), vOb os[i] = true) := fun i hi => storeB_valid HS.out i hi
    clear hs hl
    go_wp2_with fail
    refine (l1Reach_any A A' c c' os fr w1 ((h.below b1 (Nat.le_refl _)).more b1.size) hn16 HS ((hfr.below b1 (Nat.le_refl _)).more b1.size) hF h4 (store_links HS.out)).mono ?_
    rintro e w2 ⟨L, hL, v2, rfl, o2, hb2⟩
    have b2 := b1.trans (hb2.mono b1.size)
    have o0 := o1.below hb2 (Nat.le_refl _)
    have HL := hid hL
    have hlS := sortedTo_length L 991
    clear hL o1 hb2 b1
    obtain ⟨S, hS⟩ : ∃ S, sortedTo L 991 = S := ⟨_, rfl⟩
    rw [hS] at o2 hlS
    have HSS := hid hS
    clear hS
    obtain ⟨A2, c2, rfl, _⟩ := o2.form
    go_wp2_with fail
    go_loopw [5, 7] (fun v i wr => ∃ k : Nat, i = .int .i64 k ∧ k ≤ S.length ∧ Own wr w.heap.size v ((S.take k).filter (isIn os)) ∧ Own wr w1.heap.size (.slice A2 S.length c2) S ∧ Below w.heap.size w wr ∧ w2.heap.size ≤ wr.heap.size ∧ Off v w1.heap.size w2.heap.size) (fun _ i _ => S.length - (intOf i).toNat)
    case atStart => exact ⟨0, rfl, Nat.zero_le _, o0, o2, b2, Nat.le_refl _, fun g hg => by have hg' : some w.heap.size = some g := hg; injection hg' with hg'; omega⟩
    case round =>
      obtain ⟨k, rfl, hk, ho, hoS, hb, hz2', hoff⟩ := hrel
      clear o0 b2
      have hz := hb.size
      have hlf : ((S.take k).filter (isIn os)).length ≤ k := Nat.le_trans (List.length_filter_le _ _) (by rw [List.length_take]; omega)
      obtain ⟨AF, cF, rfl, _⟩ := ho.form
      by_cases hlt : k < S.length
      · obtain ⟨ad, rfl, hba, hc⟩ := hoS.row.int_ hlt
        obtain ⟨r, hr⟩ := first_ex HS.out S[k]
        have HR := hid hr
        clear hr
        have hw := (h.below hb (Nat.le_refl _)).more hz
        obtain ⟨x, hx⟩ : ∃ x, S[k] = x := ⟨_, rfl⟩
        rw [hx] at hc HR
        have HX := hid hx
        clear hx
        have k0 : 0 ≤ (k : Int) := by omega
        have k1 : (k : Int) < (S.length : Int) := by omega
        by_cases hrl : r < os.length
        · have HIN : Hid (isIn os x = true) := isIn_iff.2 ⟨_, List.getElem_mem hrl, HR.out.2.2 hrl⟩
          go_wp2_with fail
          refine (l1Get_any A c os x r (r : Int) wr hw (by unfold maxLen; omega) (by show (r : Int) = _; rw [if_pos hrl]) HV HR).mono ?_
          rintro e w6 ⟨rfl, hb6⟩
          have b6 := hb.trans (hb6.mono hz)
          have o6 := ho.below hb6 (Nat.le_refl _)
          have oS6 := hoS.below hb6 (Nat.le_refl _)
          have z6 := hb6.size
          have g0 : 0 ≤ (r : Int) := by omega
          have g1 : ¬ (r : Int) < 0 := by omega
          clear hc hba hb6 hw ho hb hoS
          have HE : Hid ((S.take (k + 1)).filter (isIn os) = (S.take k).filter (isIn os) ++ [x]) := by
            rw [← HX.out]; exact filter_yes hlt (by rw [HX.out]; first | exact HIN.out | exact congrArg (fun b => !b) HIN.out)
          obtain ⟨ad', had, _, hc⟩ := oS6.row.int_ hlt
          obtain rfl : ad = ad' := by cases had; rfl
          rw [HX.out] at hc
          go_wp2_with (at_builtin; go_must (refine wpList_append_lies _ rfl _ _ 24 rfl w.heap.size 3 i0 (.int .i64 0) 1 8 Try.underlying24 hi hz0 hz1 hz2 rfl (by decide) _ _ _ rfl (World.ownsRow.alloc o6 _) ⟨w6.heap.size, 0, none⟩ 1 1 [.int .i64 x] rfl rfl (cell_one_new _ _ _) (one_int x) (by omega) (by unfold maxLen; omega) (by omega) (by simp; omega) (w6.heap.size + 1) (by simp) ?_); intro gg cap w7 hown hgrow hat hlt7)
          have ho1 := Own.app hown
          have al := (Below.refl w6.heap.size w6).alloc (Nat.le_refl _) (.cells #[.int .i64 x] 3)
          have hb1 : Below w.heap.size w w7 := (b6.alloc b6.size _).grown hgrow (by simp; have := b6.size; omega) (o6.lt)
          have oS7 : Own w7 w1.heap.size (.slice (some ad) S.length c2) S := World.ownsRow.kept (oS6.below al (Nat.le_refl _)) hgrow (by
            rcases hq : (Value.slice (some ad) S.length c2).ownBlock with _ | q
            · exact .inl rfl
            · refine .inr (fun e => ?_)
              have e' : (Value.slice AF ((S.take k).filter (isIn os)).length cF).ownBlock = some q := e.symm
              have q1 := hoff q e'
              have q2 := World.ownsRow.lt o2 q hq
              omega)
          have z7 : w2.heap.size ≤ w7.heap.size := by have := hgrow.size; simp at this; omega
          have off7 : Off (.slice (some ⟨gg, 0, none⟩) (((S.take k).filter (isIn os)).length + 1) cap) w1.heap.size w2.heap.size := fun q hq => by
            have hq' : some gg = some q := hq
            injection hq' with hq'
            subst hq'
            rcases hat with e | e
            · exact hoff gg e
            · omega
          clear hown hgrow hat
          go_wp2_with fail
          go_roundw
          case rel => exact ⟨k + 1, by go_num, by omega, by rw [HE.out]; exact ho1, oS7, hb1, z7, off7⟩
          case measure => simp [intOf]; omega
        · have HIN : Hid (isIn os x = false) := by
            show isIn os x = false
            rw [Bool.eq_false_iff]
            intro e
            obtain ⟨o, ho, he⟩ := isIn_iff.1 e
            obtain ⟨i, hi, rfl⟩ := List.mem_iff_getElem.1 ho
            exact HR.out.2.1 i hi (by omega) he
          go_wp2_with fail
          refine (l1Get_any A c os x r (-1) wr hw (by unfold maxLen; omega) (by show (-1 : Int) = _; rw [if_neg hrl]) HV HR).mono ?_
          rintro e w6 ⟨rfl, hb6⟩
          have b6 := hb.trans (hb6.mono hz)
          have o6 := ho.below hb6 (Nat.le_refl _)
          have oS6 := hoS.below hb6 (Nat.le_refl _)
          have z6 := hb6.size
          clear hc hba hb6 hw ho hb hoS
          have HE : Hid ((S.take (k + 1)).filter (isIn os) = (S.take k).filter (isIn os)) := filter_no hlt (by rw [HX.out]; first | exact HIN.out | exact congrArg (fun b => !b) HIN.out)
          go_wp2_with fail
          go_roundw
          case rel => exact ⟨k + 1, by go_num, by omega, by rw [HE.out]; exact o6, oS6, b6, by omega, hoff⟩
          case measure => simp [intOf]; omega
      · have hk' : k = S.length := by omega
        subst hk'
        have he : (S.take S.length).filter (isIn os) = S.filter (isIn os) := by rw [List.take_length]
        go_wp2
        go_ret
        exact ⟨L, .inl ⟨HOK.out, HL.out⟩, _, rfl, by unfold reachL; rw [HSS.out, ← he]; exact ho, hb⟩

set_option maxRecDepth 100000 in
set_option maxHeartbeats 4000000 in
theorem l1Missing_any (A A' : Option Addr) (c c' : Nat) (os : List Ob) (fr : List Int) (w : World) (h : Objs w w.heap.size A os) (HS : Hid (storeB os = true)) (hn16 : os.length ≤ 16) (hfr : Row w w.heap.size A' (ints fr)) (HF : Hid (fr.Nodup ∧ ∀ x ∈ fr, 0 ≤ x ∧ x < 991)) (h4 : fr.length ≤ 4) :
    Calls Try.prog 51 #[.slice A os.length c, .slice A' fr.length c'] w (fun e w' => ∃ L, RcList os fr L ∧ NewOwn (missL os L) w e w') := by
  obtain ⟨i0, hi, hz0, hz1, hz2⟩ := info_of info_int
  have HV : Hid (∀ i (hi : i < os.length), vOb os[i] = true) := fun i hi => storeB_valid HS.out i hi
  go_enter Try.func51, Try.ntmps51
  obtain ⟨w1, hw1⟩ : ∃ w1, w.alloc (.cells #[] 3) = w1 := ⟨_, rfl⟩
  have b1 : Below w.heap.size w w1 := by rw [← hw1]; exact (Below.refl w.heap.size w).alloc (Nat.le_refl _) (.cells #[] 3)
  have o1 : Own w1 w.heap.size (.slice (some ⟨w.heap.size, 0, none⟩) 0 0) [] := by rw [← hw1]; exact .nil_new (Nat.le_refl _)
  have z1 : w.heap.size + 1 ≤ w1.heap.size := by rw [← hw1]; simp
  go_wp2_with fail
  clear hw1
  refine (l1Reach_any A A' c c' os fr w1 ((h.below b1 (Nat.le_refl _)).more b1.size) hn16 HS ((hfr.below b1 (Nat.le_refl _)).more b1.size) HF.out h4 (store_links HS.out)).mono ?_
  rintro e w2 ⟨L, hL, v2, rfl, o2, hb2⟩
  have b2 := b1.trans (hb2.mono b1.size)
  have o0 := o1.below hb2 (Nat.le_refl _)
  have HL := hid hL
  have hlS := sortedTo_length L 991
  clear hL o1 hb2 b1
  obtain ⟨S, hS⟩ : ∃ S, sortedTo L 991 = S := ⟨_, rfl⟩
  rw [hS] at o2 hlS
  have HSS := hid hS
  clear hS
  obtain ⟨A2, c2, rfl, _⟩ := o2.form
  go_wp2_with fail
  go_loopw [5, 7] (fun v i wr => ∃ k : Nat, i = .int .i64 k ∧ k ≤ S.length ∧ Own wr w.heap.size v ((S.take k).filter (fun x => !isIn os x)) ∧ Own wr w1.heap.size (.slice A2 S.length c2) S ∧ Below w.heap.size w wr ∧ w2.heap.size ≤ wr.heap.size ∧ Off v w1.heap.size w2.heap.size) (fun _ i _ => S.length - (intOf i).toNat)
  case atStart => exact ⟨0, rfl, Nat.zero_le _, o0, o2, b2, Nat.le_refl _, fun g hg => by have hg' : some w.heap.size = some g := hg; injection hg' with hg'; omega⟩
  case round =>
    obtain ⟨k, rfl, hk, ho, hoS, hb, hz2', hoff⟩ := hrel
    clear o0 b2
    have hz := hb.size
    have hlf : ((S.take k).filter (fun x => !isIn os x)).length ≤ k := Nat.le_trans (List.length_filter_le _ _) (by rw [List.length_take]; omega)
    obtain ⟨AF, cF, rfl, _⟩ := ho.form
    by_cases hlt : k < S.length
    · obtain ⟨ad, rfl, hba, hc⟩ := hoS.row.int_ hlt
      obtain ⟨r, hr⟩ := first_ex HS.out S[k]
      have HR := hid hr
      clear hr
      have hw := (h.below hb (Nat.le_refl _)).more hz
      obtain ⟨x, hx⟩ : ∃ x, S[k] = x := ⟨_, rfl⟩
      rw [hx] at hc HR
      have HX := hid hx
      clear hx
      have k0 : 0 ≤ (k : Int) := by omega
      have k1 : (k : Int) < (S.length : Int) := by omega
      by_cases hrl : r < os.length
      · have HIN : Hid (isIn os x = true) := isIn_iff.2 ⟨_, List.getElem_mem hrl, HR.out.2.2 hrl⟩
        go_wp2_with fail
        refine (l1Get_any A c os x r (r : Int) wr hw (by unfold maxLen; omega) (by show (r : Int) = _; rw [if_pos hrl]) HV HR).mono ?_
        rintro e w6 ⟨rfl, hb6⟩
        have b6 := hb.trans (hb6.mono hz)
        have o6 := ho.below hb6 (Nat.le_refl _)
        have oS6 := hoS.below hb6 (Nat.le_refl _)
        have z6 := hb6.size
        have g0 : 0 ≤ (r : Int) := by omega
        have g1 : ¬ (r : Int) < 0 := by omega
        clear hc hba hb6 hw ho hb hoS
        have HE : Hid ((S.take (k + 1)).filter (fun x => !isIn os x) = (S.take k).filter (fun x => !isIn os x)) := filter_no hlt (by rw [HX.out]; first | exact HIN.out | exact congrArg (fun b => !b) HIN.out)
        go_wp2_with fail
        go_roundw
        case rel => exact ⟨k + 1, by go_num, by omega, by rw [HE.out]; exact o6, oS6, b6, by omega, hoff⟩
        case measure => simp [intOf]; omega
      · have HIN : Hid (isIn os x = false) := by
          show isIn os x = false
          rw [Bool.eq_false_iff]
          intro e
          obtain ⟨o, ho, he⟩ := isIn_iff.1 e
          obtain ⟨i, hi, rfl⟩ := List.mem_iff_getElem.1 ho
          exact HR.out.2.1 i hi (by omega) he
        go_wp2_with fail
        refine (l1Get_any A c os x r (-1) wr hw (by unfold maxLen; omega) (by show (-1 : Int) = _; rw [if_neg hrl]) HV HR).mono ?_
        rintro e w6 ⟨rfl, hb6⟩
        have b6 := hb.trans (hb6.mono hz)
        have o6 := ho.below hb6 (Nat.le_refl _)
        have oS6 := hoS.below hb6 (Nat.le_refl _)
        have z6 := hb6.size
        clear hc hba hb6 hw ho hb hoS
        have HE : Hid ((S.take (k + 1)).filter (fun x => !isIn os x) = (S.take k).filter (fun x => !isIn os x) ++ [x]) := by
          rw [← HX.out]; exact filter_yes hlt (by rw [HX.out]; first | exact HIN.out | exact congrArg (fun b => !b) HIN.out)
        obtain ⟨ad', had, _, hc⟩ := oS6.row.int_ hlt
        obtain rfl : ad = ad' := by cases had; rfl
        rw [HX.out] at hc
        go_wp2_with (at_builtin; go_must (refine wpList_append_lies _ rfl _ _ 24 rfl w.heap.size 3 i0 (.int .i64 0) 1 8 Try.underlying24 hi hz0 hz1 hz2 rfl (by decide) _ _ _ rfl (World.ownsRow.alloc o6 _) ⟨w6.heap.size, 0, none⟩ 1 1 [.int .i64 x] rfl rfl (cell_one_new _ _ _) (one_int x) (by omega) (by unfold maxLen; omega) (by omega) (by simp; omega) (w6.heap.size + 1) (by simp) ?_); intro gg cap w7 hown hgrow hat hlt7)
        have ho1 := Own.app hown
        have al := (Below.refl w6.heap.size w6).alloc (Nat.le_refl _) (.cells #[.int .i64 x] 3)
        have hb1 : Below w.heap.size w w7 := (b6.alloc b6.size _).grown hgrow (by simp; have := b6.size; omega) (o6.lt)
        have oS7 : Own w7 w1.heap.size (.slice (some ad) S.length c2) S := World.ownsRow.kept (oS6.below al (Nat.le_refl _)) hgrow (by
          rcases hq : (Value.slice (some ad) S.length c2).ownBlock with _ | q
          · exact .inl rfl
          · refine .inr (fun e => ?_)
            have e' : (Value.slice AF ((S.take k).filter (fun x => !isIn os x)).length cF).ownBlock = some q := e.symm
            have q1 := hoff q e'
            have q2 := World.ownsRow.lt o2 q hq
            omega)
        have z7 : w2.heap.size ≤ w7.heap.size := by have := hgrow.size; simp at this; omega
        have off7 : Off (.slice (some ⟨gg, 0, none⟩) (((S.take k).filter (fun x => !isIn os x)).length + 1) cap) w1.heap.size w2.heap.size := fun q hq => by
          have hq' : some gg = some q := hq
          injection hq' with hq'
          subst hq'
          rcases hat with e | e
          · exact hoff gg e
          · omega
        clear hown hgrow hat
        go_wp2_with fail
        go_roundw
        case rel => exact ⟨k + 1, by go_num, by omega, by rw [HE.out]; exact ho1, oS7, hb1, z7, off7⟩
        case measure => simp [intOf]; omega
    · have hk' : k = S.length := by omega
      subst hk'
      have he : (S.take S.length).filter (fun x => !isIn os x) = S.filter (fun x => !isIn os x) := by rw [List.take_length]
      go_wp2
      go_ret
      exact ⟨L, HL.out, _, rfl, by unfold missL; rw [HSS.out, ← he]; exact ho, hb⟩

set_option maxRecDepth 100000 in
theorem specStoreMissing_any (A A' : Option Addr) (c c' : Nat) (os : List Ob) (fr : List Int) (w : World) (h : Objs w w.heap.size A os) (hf : Fit os) (hn : os.length ≤ maxLen) (hfr : Row w w.heap.size A' (ints fr)) (hm : fr.length ≤ maxLen) :
    Calls Try.prog 21 #[.slice A os.length c, .slice A' fr.length c'] w (ReachedAs (missL os) os fr w) := by
  go_enter Try.func21, Try.ntmps21
  go_wp2_with fail
  refine (l1From_any A A' c c' os fr w h hf hn hfr hm).mono ?_
  rintro e w1 ⟨rfl, b1⟩
  cases hok : (storeB os && linksB fr)
  · go_wp2
    go_ret
    exact ⟨[], .inr ⟨hok, rfl⟩, _, rfl, by rw [missL_nil]; exact .nil_new b1.size, b1.alloc b1.size _⟩
  · have HOK := hid hok
    obtain ⟨hs, hl⟩ := Bool.and_eq_true_iff.1 hok
    have HS := hid hs
    obtain ⟨hF, h4⟩ := linksB_parts hl
    have hn16 := (storeB_parts hs).2
    clear hs hl
    go_wp2_with fail
    refine (l1Missing_any A A' c c' os fr w1 ((h.below b1 (Nat.le_refl _)).more b1.size) HS hn16 ((hfr.below b1 (Nat.le_refl _)).more b1.size) hF h4).mono ?_
    rintro e w2 ⟨L, hL, v2, rfl, o2, hb2⟩
    go_wp2
    go_ret
    exact ⟨L, .inl ⟨HOK.out, hL⟩, _, rfl, o2.base b1.size, b1.trans (hb2.mono b1.size)⟩
end Go.Proofs.Ytfdilnibhcnkgaa
