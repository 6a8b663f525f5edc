/-
  Walk: the model's list of what is reached.
-/
import Derived.Test.YtblknnifccmpkaaG4C
import Derived.Test.YtblknnifccmpkaaG5C
namespace Go.Proofs.Ytblknnifccmpkaa
open Go.RowKit Wo Pu

theorem storeB_inj {os : List Ob} {o p : Ob} (hs : storeB os = true) (ho : o ∈ os) (hp : p ∈ os) (h : iOb o = iOb p) : o = p := by
  obtain ⟨i, hi, rfl⟩ := List.mem_iff_getElem.1 ho
  obtain ⟨j, hj, rfl⟩ := List.mem_iff_getElem.1 hp
  have hsort := stB_sorted (storeB_parts hs).1
  by_cases h1 : i < j
  · have := (hsort i hi).2 j hj h1; omega
  · by_cases h2 : i = j
    · subst h2; rfl
    · have := (hsort j hj).2 i hi (by omega); omega
/-- Where the first object with this id is, or the list's end. -/
theorem first_ex (os : List Ob) (x : Int) : ∃ r, (r ≤ os.length ∧ (∀ j (hj : j < os.length), j < r → ¬ iOb os[j] = x) ∧ ∀ (h : r < os.length), iOb os[r] = x) := by
  induction os with
  | nil => exact ⟨0, Nat.le_refl _, fun j hj => absurd hj (Nat.not_lt_zero _), fun h => absurd h (Nat.not_lt_zero _)⟩
  | cons o os ih =>
    by_cases h : iOb o = x
    · exact ⟨0, Nat.zero_le _, fun j _ hj => absurd hj (Nat.not_lt_zero _), fun _ => h⟩
    · obtain ⟨r, h1, h2, h3⟩ := ih
      refine ⟨r + 1, Nat.succ_le_succ h1, fun j hj hjr => ?_, fun hr => h3 (Nat.lt_of_succ_lt_succ hr)⟩
      cases j with
      | zero => exact h
      | succ j => exact h2 j (Nat.lt_of_succ_lt_succ hj) (Nat.lt_of_succ_lt_succ hjr)
/-- es are the objects of os that count: of each id the first one. -/
structure Eff (os es : List Ob) : Prop where
  first : ∀ r (h : r < os.length), (∀ j (hj : j < os.length), j < r → ¬ iOb os[j] = iOb os[r]) → os[r] ∈ es
  sub : ∀ o ∈ es, o ∈ os
  inj : ∀ o ∈ es, ∀ p ∈ es, iOb o = iOb p → o = p
  val : ∀ o ∈ os, vOb o = true
theorem Eff.store {os : List Ob} (hs : storeB os = true) : Eff os os :=
  ⟨fun _ h _ => List.getElem_mem h, fun _ h => h, fun _ ho _ hp e => storeB_inj hs ho hp e, fun o ho => by
    obtain ⟨i, hi, rfl⟩ := List.mem_iff_getElem.1 ho
    exact storeB_valid hs i hi⟩
theorem Eff.links {os es : List Ob} (h : Eff os es) : ∀ o ∈ es, ∀ y ∈ o.zs, 0 ≤ y ∧ y < 991 := fun o ho y hy => by
  have hv : vldB o.kd o.zs o.s.size = true := h.val o (h.sub o ho)
  have := ascB_range (vldB_parts hv).1 y hy
  omega

/-- The list as it grows: its first i ids have been followed. -/
def Mid (os : List Ob) (fr L : List Int) (i : Nat) : Prop :=
  L.Nodup ∧ (∀ x ∈ fr, x ∈ L) ∧ (∀ x ∈ L, Rc os fr x) ∧ (∀ x ∈ L, 0 ≤ x ∧ x < 991) ∧ ∀ o ∈ os, iOb o ∈ L.take i → ∀ y ∈ o.zs, y ∈ L
theorem Mid.add {os : List Ob} {fr L : List Int} {i : Nat} {y : Int} (h : Mid os fr L i) (hi : i ≤ L.length) (hy : y ∉ L) (hr : Rc os fr y) (hb : 0 ≤ y ∧ y < 991) : Mid os fr (L ++ [y]) i := by
  obtain ⟨h1, h2, h3, h4, h5⟩ := h
  refine ⟨nodup_app h1 hy, fun x hx => List.mem_append_left _ (h2 x hx), fun x hx => ?_, fun x hx => ?_, fun o ho hx z hz => ?_⟩
  · rcases List.mem_append.1 hx with e | e
    · exact h3 x e
    · rw [List.mem_singleton.1 e]; exact hr
  · rcases List.mem_append.1 hx with e | e
    · exact h4 x e
    · rw [List.mem_singleton.1 e]; exact hb
  · rw [List.take_append_of_le_length hi] at hx
    exact List.mem_append_left _ (h5 o ho hx z hz)
theorem Mid.none_ {os : List Ob} {fr L : List Int} {i : Nat} (h : Mid os fr L i) (hi : i < L.length) (hno : ∀ o ∈ os, ¬ iOb o = L[i]) : Mid os fr L (i + 1) := by
  obtain ⟨h1, h2, h3, h4, h5⟩ := h
  refine ⟨h1, h2, h3, h4, fun o ho hx => ?_⟩
  rw [List.take_succ_eq_append_getElem hi] at hx
  rcases List.mem_append.1 hx with e | e
  · exact h5 o ho e
  · exact absurd (List.mem_singleton.1 e) (hno o ho)
theorem Mid.one_ {os : List Ob} {fr L : List Int} {i : Nat} {p : Ob} (hs : ∀ o ∈ os, ∀ p ∈ os, iOb o = iOb p → o = p) (h : Mid os fr L i) (hi : i < L.length) (hp : p ∈ os) (he : iOb p = L[i]) (hz : ∀ y ∈ p.zs, y ∈ L) : Mid os fr L (i + 1) := by
  obtain ⟨h1, h2, h3, h4, h5⟩ := h
  refine ⟨h1, h2, h3, h4, fun o ho hx => ?_⟩
  rw [List.take_succ_eq_append_getElem hi] at hx
  rcases List.mem_append.1 hx with e | e
  · exact h5 o ho e
  · have := hs _ ho _ hp ((List.mem_singleton.1 e).trans he.symm)
    rw [this]; exact hz
theorem Mid.end_ {os : List Ob} {fr L : List Int} (h : Mid os fr L L.length) : RcList os fr L := fun x => by
  obtain ⟨h1, h2, h3, h4, h5⟩ := h
  rw [List.take_length] at h5
  exact ⟨h3 x, fun hx => hx.closed h2 h5⟩
theorem Mid.few {os : List Ob} {fr L : List Int} {i : Nat} (h : Mid os fr L i) : L.length ≤ 991 := range_le h.1 h.2.2.2.1
theorem Mid.start {os : List Ob} {fr : List Int} (h1 : fr.Nodup) (h2 : ∀ x ∈ fr, 0 ≤ x ∧ x < 991) : Mid os fr fr 0 := ⟨h1, fun x hx => hx, fun x hx => .base hx, h2, fun o _ hx => by simp at hx⟩

/-- The ids that are reached, in order, in memory of the call's own. -/
def Reached (os : List Ob) (fr : List Int) (w : World) (e : Ending) (w' : World) : Prop := ∃ L, RcList os fr L ∧ NewOwn (sortedTo L 991) w e w'

set_option maxRecDepth 100000 in
set_option maxHeartbeats 4000000 in
theorem l1ReachE_any (A A' : Option Addr) (c c' : Nat) (os es : List Ob) (fr : List Int) (w : World) (h : Objs w w.heap.size A os) (hn : os.length ≤ 32) (HE : Hid (Eff os es)) (hfr : Row w w.heap.size A' (ints fr)) (HF : Hid (fr.Nodup ∧ ∀ x ∈ fr, 0 ≤ x ∧ x < 991)) (hf4 : fr.length ≤ 4) :
    Calls Try.prog 113 #[.slice A os.length c, .slice A' fr.length c'] w (Reached es fr w) := by
  obtain ⟨i0, hi, hz0, hz1, hz2⟩ := info_of info_int
  have HV : Hid (∀ i (hi : i < os.length), vOb os[i] = true) := fun i hi => HE.out.val _ (List.getElem_mem hi)
  have HZ : Hid (∀ o ∈ es, ∀ y ∈ o.zs, 0 ≤ y ∧ y < 991) := HE.out.links
  go_enter Try.func113, Try.ntmps113
  have n2 := nil_own (w := w) (B := w.heap.size) (Nat.le_refl _) 3 1
  have r2 := hfr.alloc (Nat.le_refl _) (.cells #[] 3)
  go_wp2_with (at_builtin; go_must (refine wpList_append_row _ rfl _ _ 36 rfl w.heap.size 3 i0 (.int .i64 0) 1 8 Try.underlying36 hi hz0 hz1 hz2 rfl (by decide) _ 0 [] rfl n2 w.heap.size A' fr.length c' (ints fr) rfl r2 (by rw [ints_length]; omega) (ints_cells _) (by unfold maxLen; omega) (by omega) (by simp) ?_); intro v' w5 hown hg)
  have b5 : Below w.heap.size w w5 := ((Below.refl _ _).alloc (Nat.le_refl _) (.cells #[] 3)).grown hg (by simp) (fun k hk => by have hk' : some w.heap.size = some k := hk; injection hk' with hk'; omega)
  have o5 : Own w5 w.heap.size v' fr := by
    rw [Nat.zero_add] at hown
    exact hown
  obtain ⟨A2, c2, rfl, _⟩ := o5.form
  clear hown hg n2 r2
  go_wp2_with fail
  go_loopw [5, 6] (fun v i wr => ∃ (k : Nat) (L : List Int), i = .int .i64 k ∧ k ≤ L.length ∧ Own wr w.heap.size v L ∧ Below w.heap.size w wr ∧ Hid (Mid es fr L k)) (fun _ i _ => 991 - (intOf i).toNat)
  case atStart => exact ⟨0, fr, rfl, Nat.zero_le _, o5, b5, Mid.start HF.out.1 HF.out.2⟩
  case round =>
    obtain ⟨k, L, rfl, hk, ho, hb, HM⟩ := hrel
    clear o5 b5
    have hz := hb.size
    have few := HM.out.few
    obtain ⟨AL, cL, rfl, hrow⟩ := ho.form
    by_cases hlt : k < L.length
    · obtain ⟨ad, rfl, hba, hc⟩ := hrow.int_ hlt
      obtain ⟨r, hr⟩ := first_ex os L[k]
      have HR := hid hr
      clear hr
      have hw := (h.below hb (Nat.le_refl _)).more hz
      obtain ⟨x, hx⟩ : ∃ x, L[k] = x := ⟨_, rfl⟩
      rw [hx] at hc HR
      have HX := hid hx
      clear hx
      have k0 : 0 ≤ (k : Int) := by omega
      have k1 : (k : Int) < (L.length : Int) := by omega
      by_cases hrl : r < os.length
      · obtain ⟨p, hp⟩ : ∃ p, os[r] = p := ⟨_, rfl⟩
        have hz4 : p.zs.length ≤ 4 := by
          by_cases h4 : p.zs.length ≤ 4
          · exact h4
          · have h5 : vOb p = false := vld_b h4
            rw [← hp, HV.out r hrl] at h5
            cases h5
        have HP : Hid (p ∈ es ∧ iOb p = x) := by rw [← hp]; exact ⟨HE.out.first r hrl (by rw [HR.out.2.2 hrl]; exact HR.out.2.1), HR.out.2.2 hrl⟩
        go_wp2_with fail
        refine (l1Get_any A c os x r (r : Int) wr hw (by unfold maxLen; omega) (by show (r : Int) = _; rw [if_pos hrl]) HV HR).mono ?_
        rintro e w6 ⟨rfl, hb6⟩
        have b6 := hb.trans (hb6.mono hz)
        have o6 := ho.below hb6 (Nat.le_refl _)
        clear hc hrow hba hb6 hw ho hb
        go_wp2_with fail
        go_loopw [5, 8] (fun v i wr => ∃ (j : Nat) (M : List Int), i = .int .i64 j ∧ j ≤ p.zs.length ∧ Own wr w.heap.size v M ∧ Below w.heap.size w wr ∧ Hid (Mid es fr M k ∧ M[k]? = some x ∧ ∀ y ∈ p.zs.take j, y ∈ M)) (fun _ i _ => p.zs.length - (intOf i).toNat)
        case atStart => exact ⟨0, L, rfl, Nat.zero_le _, o6, b6, HM.out, by rw [List.getElem?_eq_getElem hlt, HX.out], fun y hy => by simp at hy⟩
        case round =>
          obtain ⟨j, M, rfl, hj, ho, hb, HI⟩ := hrel
          clear o6 b6
          have hz := hb.size
          have fewM := HI.out.1.few
          obtain ⟨AM, cM, rfl, hrow⟩ := ho.form
          obtain ⟨o, ad4, A4, c4, hoo, rfl, ha4, g0, g1, g2, g3⟩ := (h.below hb (Nat.le_refl _)).obj hrl
          obtain rfl : p = o := by rw [← hp, ← hoo]
          clear hoo
          have r0 : 0 ≤ (r : Int) := by omega
          have r1 : (r : Int) < (os.length : Int) := by omega
          by_cases hjl : j < p.zs.length
          · obtain ⟨ad5, rfl, hb5, hc5⟩ := g3.int_ hjl
            obtain ⟨y, hy⟩ : ∃ y, p.zs[j] = y := ⟨_, rfl⟩
            rw [hy] at hc5
            have HY : Hid (p.zs.take (j + 1) = p.zs.take j ++ [y]) := by rw [← hy]; exact List.take_succ_eq_append_getElem hjl
            have HYR : Hid (0 ≤ y ∧ y < 991) := HZ.out p HP.out.1 y (by rw [← hy]; exact List.getElem_mem hjl)
            have HYC : Hid (Rc es fr y) := .link HP.out.1 (HI.out.1.2.2.1 _ (by obtain ⟨q1, q2⟩ := List.getElem?_eq_some_iff.1 HI.out.2.1; rw [HP.out.2, ← q2]; exact List.getElem_mem q1)) (by rw [← hy]; exact List.getElem_mem hjl)
            clear hy
            have j0 : 0 ≤ (j : Int) := by omega
            have j1 : (j : Int) < (p.zs.length : Int) := by omega
            cases hx : decide (y ∈ M)
            · have HN : Hid (y ∉ M) := of_decide_eq_false hx
              go_wp2_with (first
                | (go_at_call 123; refine (l1Has_any _ AM cM M y _ hrow (by unfold maxLen; omega)).mono ?_; rintro e w' ⟨rfl, rfl⟩)
                | (at_builtin; go_must (refine wpList_append_own _ rfl _ _ 36 rfl w.heap.size 3 i0 (.int .i64 0) 1 8 Try.underlying36 hi hz0 hz1 hz2 rfl (by decide) _ _ _ rfl (World.ownsRow.alloc ho _) ⟨wr.heap.size, 0, none⟩ 1 1 [.int .i64 y] rfl rfl (cell_one_new _ _ _) (one_int y) (by unfold maxLen; omega) (by omega) (by simp; omega) ?_); intro v' w1 hown hg _))
              have ho1 := Own.app hown
              have hb1 : Below w.heap.size w w1 := (hb.alloc hz _).grown hg (by simp; omega) (ho.lt)
              have HI2 : Hid (Mid es fr (M ++ [y]) k ∧ (M ++ [y])[k]? = some x ∧ ∀ z ∈ p.zs.take (j + 1), z ∈ M ++ [y]) := by
                obtain ⟨m1, m2, m3⟩ := HI.out
                obtain ⟨q1, q2⟩ := List.getElem?_eq_some_iff.1 m2
                refine ⟨m1.add (by omega) HN.out HYC.out HYR.out, by rw [List.getElem?_append_left q1]; exact m2, fun z hz => ?_⟩
                rw [HY.out] at hz
                rcases List.mem_append.1 hz with e | e
                · exact List.mem_append_left _ (m3 z e)
                · exact List.mem_append_right _ e
              clear hown hg
              go_wp2_with fail
              go_roundw
              case rel => exact ⟨j + 1, M ++ [y], by go_num, by omega, ho1, hb1, HI2.out⟩
              case measure => simp [intOf]; omega
            · have HI2 : Hid (Mid es fr M k ∧ M[k]? = some x ∧ ∀ z ∈ p.zs.take (j + 1), z ∈ M) := by
                obtain ⟨m1, m2, m3⟩ := HI.out
                refine ⟨m1, m2, fun z hz => ?_⟩
                rw [HY.out] at hz
                rcases List.mem_append.1 hz with e | e
                · exact m3 z e
                · rw [List.mem_singleton.1 e]; exact of_decide_eq_true hx
              go_wp2_with (go_at_call 123; refine (l1Has_any _ AM cM M y _ hrow (by unfold maxLen; omega)).mono ?_; rintro e w' ⟨rfl, rfl⟩)
              go_roundw
              case rel => exact ⟨j + 1, M, by go_num, by omega, ho, hb, HI2.out⟩
              case measure => simp [intOf]; omega
          · have hj' : j = p.zs.length := by omega
            subst hj'
            have HN : Hid (Mid es fr M (k + 1) ∧ k + 1 ≤ M.length) := by
              obtain ⟨m1, m2, m3⟩ := HI.out
              obtain ⟨hkM, hxM⟩ := List.getElem?_eq_some_iff.1 m2
              rw [List.take_length] at m3
              exact ⟨m1.one_ HE.out.inj hkM HP.out.1 (by rw [HP.out.2, hxM]) m3, hkM⟩
            go_wp2_with fail
            go_roundw
            case rel => exact ⟨k + 1, M, by go_num, HN.out.2, ho, hb, HN.out.1⟩
            case measure => simp [intOf]; omega
      · go_wp2_with fail
        refine (l1Get_any A c os x r (-1) wr hw (by unfold maxLen; omega) (by show (-1 : Int) = _; rw [if_neg hrl]) HV HR).mono ?_
        rintro e w6 ⟨rfl, hb6⟩
        have b6 := hb.trans (hb6.mono hz)
        have o6 := ho.below hb6 (Nat.le_refl _)
        have HN : Hid (Mid es fr L (k + 1)) := HM.out.none_ hlt (fun o ho e => by
          obtain ⟨i, hi, rfl⟩ := List.mem_iff_getElem.1 (HE.out.sub _ ho)
          exact HR.out.2.1 i hi (by omega) (e.trans HX.out))
        clear hc hrow hba hb6 hw ho hb
        go_wp2_with fail
        go_loopw [5, 8] (fun v i wr => v = .slice (some ad) L.length cL ∧ i = .int .i64 0 ∧ wr = w6) (fun _ _ _ => 0)
        case atStart => exact ⟨rfl, rfl, rfl⟩
        case round =>
          obtain ⟨rfl, rfl, rfl⟩ := hrel
          go_wp2_with fail
          go_roundw
          case rel => exact ⟨k + 1, L, by go_num, by omega, o6, b6, HN⟩
          case measure => simp [intOf]; omega
    · have hk' : k = L.length := by omega
      subst hk'
      have hrl : Hid (RcList es fr L) := HM.out.end_
      go_wp2_with fail
      refine (l1Sorted_any _ AL cL L wr hrow (Nat.le_refl _) (by unfold maxLen; omega)).mono ?_
      rintro e w6 ⟨v6, rfl, o6, hb6⟩
      have b6 := hb.trans (hb6.mono hz)
      have o6' := o6.base hz
      go_wp2
      go_ret
      exact ⟨L, hrl.out, _, rfl, o6', b6⟩
theorem l1Reach_any (A A' : Option Addr) (c c' : Nat) (os : List Ob) (fr : List Int) (w : World) (h : Objs w w.heap.size A os) (hn : os.length ≤ 16) (HS : Hid (storeB os = true)) (hfr : Row w w.heap.size A' (ints fr)) (HF : Hid (fr.Nodup ∧ ∀ x ∈ fr, 0 ≤ x ∧ x < 991)) (hf4 : fr.length ≤ 4)
    (_ : Hid (∀ o ∈ os, ∀ y ∈ o.zs, 0 ≤ y ∧ y < 991)) :
    Calls Try.prog 113 #[.slice A os.length c, .slice A' fr.length c'] w (Reached os fr w) :=
  l1ReachE_any A A' c c' os os fr w h (by omega) (Eff.store HS.out) hfr HF hf4
end Go.Proofs.Ytblknnifccmpkaa
