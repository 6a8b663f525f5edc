/-
  Walk: the program's marks of what is reached.
-/
import Derived.Test.YtfdilnibhcnkgaaWork
import Derived.Test.YtfdilnibhcnkgaaGets
import Derived.Laws.Rows
import Derived.Laws.Tables
import Derived.Laws.CopyOwn
import Derived.Great.BuildSlice
namespace Go.Proofs.Ytfdilnibhcnkgaa
open Go.RowKit Wo Pu

def slen : Value → Nat
  | .slice _ n _ => n
  | _ => 0
theorem Own.cap_ {w : World} {B n c : Nat} {A : Option Addr} {zs : List Int} (h : Own w B (.slice A n c) zs) : n ≤ c := by
  obtain ⟨h1, h2⟩ := h
  rcases h2 with ⟨hv, h0⟩ | ⟨g, cap, cur, hv, hB, hh, hn, _⟩
  · injection hv with _ h3 h4; omega
  · injection hv with _ h3 h4; omega

theorem Own.cat {w : World} {B n : Nat} {v : Value} {us zs : List Int} (h : w.ownsRow B 3 1 v n (ints us ++ ints zs)) (hn : n = us.length + zs.length) : Own w B v (us ++ zs) := by
  subst hn
  unfold Own
  have e : ints (us ++ zs) = ints us ++ ints zs := by simp [ints]
  rw [e, List.length_append]
  exact h
set_option maxRecDepth 100000 in
theorem info_marks : (Try.prog.info? 76).map (·.size) = some 991 := by kernel_rfl
theorem arr_ones {cur : Array Value} {f : Nat → Bool} (h1 : cur.size = 991) (h2 : ∀ i : Nat, i < 991 → cur[i]? = some (.bool (f i))) : cur.all (·.oneCell') = true := by
  rw [Array.all_eq_true]
  intro i hi
  have := h2 i (by omega)
  rw [Array.getElem?_eq_getElem hi] at this
  injection this with this
  rw [this]
  rfl
set_option maxRecDepth 100000 in
set_option maxHeartbeats 4000000 in
theorem markReached_any (A A' : Option Addr) (c c' : Nat) (os : List Ob) (fr : List Int) (w : World) (h : Objs w w.heap.size A os) (HS : Hid (storeB os = true)) (hn16 : os.length ≤ 16) (hfr : Row w w.heap.size A' (ints fr)) (HF : Hid (fr.Nodup ∧ ∀ x ∈ fr, 0 ≤ x ∧ x < 991)) (h4 : fr.length ≤ 4) :
    Calls Try.prog 66 #[.slice A os.length c, .slice A' fr.length c'] w (fun e w' => ∃ V cur, RcList os fr V ∧ e = .returned (.agg cur) ∧ cur.size = 991 ∧ (∀ i : Nat, i < 991 → cur[i]? = some (.bool (decide ((i : Int) ∈ V)))) ∧ Below w.heap.size w w') := by
  obtain ⟨i0, hi, hz0, hz1, hz2⟩ := info_of info_int
  go_enter Try.func66, Try.ntmps66
  obtain ⟨w1, hw1⟩ : ∃ w1, (w.alloc (.cells Try.zeroCells76 76)).alloc (.cells Try.zeroCells76 76) = w1 := ⟨_, rfl⟩
  have y0 := (Below.refl w.heap.size w).alloc (Nat.le_refl _) (.cells Try.zeroCells76 76)
  have z1 : w1.heap.size = w.heap.size + 2 := by rw [← hw1]; simp
  have b1 : Below w.heap.size w w1 := by rw [← hw1]; exact y0.alloc y0.size _
  have a1 : Arr w1 (w.heap.size + 1) [] := by
    rw [← hw1]
    have := Arr.new_ (w.alloc (.cells Try.zeroCells76 76))
    rwa [World.size_alloc] at this
  have r1 : Arr w1 w.heap.size [] := by
    rw [← hw1]
    exact (Arr.new_ w).below ((Below.refl _ _).alloc (Nat.le_refl _) _) (by simp)
  go_wp2_with fail
  clear hw1 y0
  refine (copyNumbers_any w.heap.size A' c' fr w1 (hfr.below b1 (Nat.le_refl _)) (by omega) (by omega)).mono ?_
  rintro e w2 ⟨A2, c2, rfl, o2, hb2⟩
  have a2 := a1.below hb2 (by omega)
  have r2 := r1.below hb2 (by omega)
  have b2 := b1.trans (hb2.mono b1.size)
  rw [z1] at o2
  clear a1 r1 b1 hb2
  go_wp2_with fail
  go_loopw [6] (fun v wr => ∃ V U, Own wr (w.heap.size + 2) v U ∧ Arr wr (w.heap.size + 1) V ∧ Arr wr w.heap.size [] ∧ Below w.heap.size w wr ∧ Hid (Wk os fr V U)) (fun v wr => 5 * (991 - seen wr (w.heap.size + 1)) + slen v)
  case atStart => exact ⟨[], fr, o2, a2, r2, b2, Wk.start HF.out.2 h4⟩
  case round =>
    obtain ⟨V, U, ho, ha, hra, hb, HW⟩ := hrel
    clear o2 a2 r2 b2
    have hz := hb.size
    have few := HW.out.few
    obtain ⟨AU, cU, rfl, hrow⟩ := ho.form
    by_cases hU : U = []
    · subst hU
      have HE := hid (Wk.end_ HW.out)
      obtain ⟨cur, hcur, hsz, hmem⟩ := ha
      obtain ⟨cur0, hcur0, hsz0, _⟩ := hra
      have HM := hid hmem
      have HALL := hid (arr_ones hsz hmem)
      have hszE := hid hsz
      have hszE0 := hid hsz0
      clear hmem HW ho hsz hsz0
      go_wp2_with (first
        | (refine wpList_load_row rfl 76 _ rfl (w.heap.size + 1) rfl 76 cur (0, 0) _ hcur Try.underlying76 rfl (by rw [hszE.out]; exact info_marks) ?_)
        | (refine wpList_store_rowTo rfl 76 _ _ rfl rfl w.heap.size cur rfl rfl 76 cur0 hcur0 (by rw [hszE.out]; exact info_marks) (by rw [hszE.out, hszE0.out]) HALL.out ?_))
      have hres := setRow_heap wr w.heap.size cur0 cur 76 (0, 0) hcur0
      have hbl := below_setRow hb (Nat.le_refl _) cur
      generalize wr.setRow w.heap.size cur = wz at *
      refine bodyPost_ret (v := .agg cur) (results_cell_row (p := 4) (by kernel_rfl) _ wz w.heap.size 76 cur (0, 0) _ rfl hres Try.underlying76 rfl (by rw [hszE.out]; exact info_marks)) rfl ?_
      exact ⟨V, cur, HE.out, rfl, hszE.out, HM.out, hbl⟩
    · obtain ⟨U', x, rfl⟩ : ∃ U' x, U = U' ++ [x] := ⟨U.dropLast, U.getLast hU, (List.dropLast_concat_getLast hU).symm⟩
      have hl : (U' ++ [x]).length = U'.length + 1 := by simp
      have hcap := ho.cap_
      obtain ⟨ad, rfl, hba, hc⟩ := hrow.int_ (k := U'.length) (by omega)
      rw [List.getElem_append_right (Nat.le_refl _)] at hc
      simp only [Nat.sub_self, List.getElem_singleton] at hc
      have hxr := HW.out.2.2.1 x (List.mem_append_right _ (by simp))
      obtain ⟨i, rfl⟩ : ∃ i : Nat, x = (i : Int) := ⟨x.toNat, by omega⟩
      have hi991 : i < 991 := by omega
      have hrd := ha.read hi991
      have hfz := ha.frozen i
      rw [hl] at ho hcap few ⊢
      have e1 : 0 < (U'.length : Int) + 1 := by omega
      have e2 : (U'.length : Int) < (U'.length : Int) + 1 := by omega
      have e3 : (U'.length : Int) ≤ (cU : Int) := by omega
      have e4 : (i : Int) < 991 := by omega
      have e5 : 0 ≤ (i : Int) := by omega
      have e6 : 0 ≤ (U'.length : Int) := by omega
      cases hx : decide ((i : Int) ∈ V)
      · rw [hx] at hrd
        have hx' := of_decide_eq_false hx
        have hs0 := seen_eq ha HW.out.1 HW.out.2.1
        have hvl := range_le HW.out.1 HW.out.2.1
        have ha3 := ha.set hi991
        have hra3 := hra.far (p := ⟨w.heap.size + 1, i, none⟩) (by show w.heap.size ≠ w.heap.size + 1; omega) (.bool true)
        have hb3 := hb.trans ((but_set wr (w.heap.size + 1) i (.bool true)).below hz (by omega))
        have ho3 := ho.shrink.but (but_set wr (w.heap.size + 1) i (.bool true)) (by omega)
        have z3 : w.heap.size + 2 ≤ (wr.setCell ⟨w.heap.size + 1, i, none⟩ (.bool true)).heap.size := by
          have := ha3.lt; omega
        go_wp2_with fail
        generalize wr.setCell ⟨w.heap.size + 1, i, none⟩ (.bool true) = w3 at *
        obtain ⟨r, hr⟩ := at_ex os (i : Int)
        have HR := hid hr
        have hf : Fit os := fun o ho => by
          obtain ⟨j, hj, rfl⟩ := List.mem_iff_getElem.1 ho
          have := vldB_parts (storeB_valid HS.out j hj : vldB os[j].kd os[j].zs os[j].s.size = true)
          unfold maxLen; omega
        clear hr hc hba hrow hrd hfz
        refine (findObject_any A c os i r w3 ((h.below hb3 (Nat.le_refl _)).more hb3.size) hf (by unfold maxLen; omega) HR).mono ?_
        rintro e w4 ⟨b, rfl, hbb, hb4⟩
        have HBB := hid hbb
        have z4 := hb4.size
        have ha4 := ha3.below hb4 ha3.lt
        have hra4 := hra3.below hb4 hra3.lt
        have b4 := hb3.trans (hb4.mono hb3.size)
        have ho4 := ho3.below hb4 (Nat.le_refl _)
        clear hbb ha3 hra3 hb3 ho3 hb4 ho ha hra hb
        cases b
        · have HN : Hid (Wk os fr (V ++ [(i : Int)]) U') := by
            have := HW.out.follow (zs := []) hx' (by simp) (fun y hy => by cases hy) (fun o ho he => by
              obtain ⟨j, hj, rfl⟩ := List.mem_iff_getElem.1 ho
              have hno : ¬ ∃ h : r < os.length, iOb os[r] = (i : Int) := fun e => by have := HBB.out.2 e; cases this
              exact absurd he (at_none HS.out HR.out hno j hj)) (.inl rfl)
            rwa [List.append_nil] at this
          have hs1 := seen_eq ha4 HN.out.1 HN.out.2.1
          rw [List.length_append, List.length_singleton] at hs1
          have hvl1 := range_le HN.out.1 HN.out.2.1
          rw [List.length_append, List.length_singleton] at hvl1
          go_wp2_with fail
          go_roundw
          case rel => exact ⟨V ++ [(i : Int)], U', ho4, ha4, hra4, b4, HN⟩
          case measure => simp only [slen]; rw [hs0, hs1]; omega
        · obtain ⟨hrl, hid4⟩ := HBB.out.1 rfl
          obtain ⟨o, ad4, A4, c4, hoo, rfl, had4, g0, g1, g2, g3⟩ := (h.below b4 (Nat.le_refl _)).obj hrl
          rw [hoo] at hid4
          have HO : Hid (o ∈ os ∧ iOb o = (i : Int)) := ⟨by rw [← hoo]; exact List.getElem_mem hrl, hid4⟩
          have hvo : vldB o.kd o.zs o.s.size = true := by rw [← hoo]; exact storeB_valid HS.out r hrl
          have hz4 : o.zs.length ≤ 4 := (vldB_parts hvo).2.1
          have HZR : Hid (∀ y ∈ o.zs, 0 ≤ y ∧ y < 991) := fun y hy => store_links HS.out o HO.out.1 y hy
          clear hoo hid4 hvo
          have HN : Hid (Wk os fr (V ++ [(i : Int)]) (U' ++ o.zs)) :=
            HW.out.follow hx' hz4 HZR.out (fun p hp he => by rw [storeB_inj HS.out hp HO.out.1 (he.trans HO.out.2.symm)]) (.inr ⟨o, HO.out.1, HO.out.2, rfl⟩)
          have hs1 := seen_eq ha4 HN.out.1 HN.out.2.1
          have r0 : 0 ≤ (r : Int) := by omega
          have r1 : (r : Int) < (os.length : Int) := by omega
          have hUl : U'.length ≤ 3968 := by have := HW.out.few; rw [hl] at this; omega
          have hzw : w.heap.size + 2 ≤ w4.heap.size := by omega
          go_wp2_with (at_builtin; go_must (refine wpList_append_row _ rfl _ _ 24 rfl (w.heap.size + 2) 3 i0 (.int .i64 0) 1 8 Try.underlying24 hi hz0 hz1 hz2 rfl (by decide) _ U'.length (ints U') rfl ho4 w.heap.size A4 o.zs.length c4 (ints o.zs) rfl g3 (by rw [ints_length]; omega) (ints_cells _) (by unfold maxLen; omega) (by omega) (by omega) ?_); intro v5 w5 hown hg)
          replace hg : w4.grownBy w5 (Value.slice (some ad) U'.length cU).ownBlock := hg
          have ho5 := Own.cat hown rfl
          have ha5 := ha4.grown hg (fun e => by have := ho4.lt _ e.symm; omega)
          have hra5 := hra4.grown hg (fun e => by have := ho4.lt _ e.symm; omega)
          have b5 := b4.grown hg b4.size (fun q hq => by have := ho4.lt q hq; omega)
          have hs5 := seen_eq ha5 HN.out.1 HN.out.2.1
          rw [List.length_append, List.length_singleton] at hs5
          obtain ⟨A5, c5, rfl, _⟩ := ho5.form
          have hvl1 := range_le HN.out.1 HN.out.2.1
          rw [List.length_append, List.length_singleton] at hvl1
          clear hown hg
          go_roundw
          case rel => exact ⟨V ++ [(i : Int)], U' ++ o.zs, ho5, ha5, hra5, b5, HN⟩
          case measure => simp only [slen]; rw [hs0, hs5, List.length_append]; omega
      · rw [hx] at hrd
        have HN : Hid (Wk os fr V U') := HW.out.skip (of_decide_eq_true hx)
        go_wp2_with fail
        go_roundw
        case rel => exact ⟨V, U', ho.shrink, ha, hra, hb, HN⟩
        case measure => simp [slen]
end Go.Proofs.Ytfdilnibhcnkgaa
