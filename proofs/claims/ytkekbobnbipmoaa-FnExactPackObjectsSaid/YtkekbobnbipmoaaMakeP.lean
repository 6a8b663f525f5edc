/-
  Walk: the program's PackMake.
-/
import Derived.Test.YtkekbobnbipmoaaOwnEnt
namespace Go.Proofs.Ytkekbobnbipmoaa
open Go.RowKit Wo Pu

theorem Chain.grown {w w' : World} {B B' sz n : Nat} {t : TypeId} {v u : Value} {ys : List Value} {es : List Ent} {ns : List Nd} (h : Chain w B v es ns) (h' : w.ownsRow B' t sz u n ys) (ht : 58 ≠ t) (ht2 : t ≠ 61) (hg : w.grownBy w' u.ownBlock) : Chain w' B v es ns := by
  have hl := fun i h2 => h.lt (i := i) h2
  obtain ⟨h1, h2, h3, h4, h5⟩ := h
  refine ⟨h1, h2, row_keep h3 h' ht hg, fun i hi hi2 => ?_, h5⟩
  obtain ⟨a, b⟩ := h4 i hi hi2
  refine ⟨a, (hg.block _ (hl i hi2) (fun e => row_ne h' b ht2 e.symm)).trans b⟩
theorem implValidP_val (v : Bool) (B : Nat) (A : Option Addr) (c : Nat) (o : Ob) (w : World) (hv : vOb o = v) (hr : Row w B A (ints o.zs)) (hB : B ≤ w.heap.size) (hm : o.zs.length ≤ maxLen) (hs : o.s.size ≤ maxLen) :
    Calls Try.prog 36 #[ob o.kd A o.zs.length c o.s] w (Ret (.bool v) w) := by
  subst hv
  exact implValid_any B A c o.kd o.zs o.s w hr hB hm hs
theorem makeB_a {list : List Ob} (h : ¬ list.length ≤ 16) : makeB list = false := by unfold makeB; rw [decide_eq_false h]; rfl
theorem makeB_b {list : List Ob} {k : Nat} (hk : k < list.length) (h : vOb list[k] = false) : makeB list = false := by
  rw [Bool.eq_false_iff]
  intro e
  have := (makeB_iff.1 e).2 _ (List.getElem_mem hk)
  rw [h] at this
  cases this

set_option maxRecDepth 100000 in
set_option maxHeartbeats 8000000 in
theorem implPackMake_any (A : Option Addr) (c : Nat) (list : List Ob) (w : World) (h : Objs w w.heap.size A list) (hn : list.length ≤ 1048576) (hf : Fit list) :
    Calls Try.prog 11 #[.slice A list.length c] w (Maked list w) := by
  obtain ⟨p0, hp, hp0, hp1, hp2⟩ := info_of info_ptr
  obtain ⟨q0, hq, hq0, hq1, hq2⟩ := info_of info_ent
  by_cases hl16 : list.length ≤ 16
  · go_enter Try.func11, Try.ntmps11
    have n1 := nil_own (w := w) (B := w.heap.size) (Nat.le_refl _) 58 1
    have a1 := (Below.refl w.heap.size w).alloc (Nat.le_refl _) (.cells #[] 58)
    have a2 := a1.alloc a1.size (.cells #[] 33)
    have n1' := own_below n1 ((Below.refl _ _).alloc (Nat.le_refl _) (.cells #[] 33)) (Nat.le_refl _)
    have n2 := nil_own (w := w.alloc (.cells #[] 58)) (B := w.heap.size) (by simp) 33 4
    rw [World.size_alloc] at n2
    obtain ⟨w1, hw1⟩ : ∃ w1, (w.alloc (.cells #[] 58)).alloc (.cells #[] 33) = w1 := ⟨_, rfl⟩
    rw [hw1] at n1' n2 a2
    have HW1 := hid hw1
    clear hw1 n1 a1
    go_wp2_with fail
    rw [HW1.out]
    clear HW1
    go_loopw [4, 5, 17] (fun v4 v5 i wr => ∃ (k : Nat) (ns : List Nd), i = .int .i64 k ∧ k ≤ list.length ∧ Chain wr w.heap.size v4 (ents list k) ns ∧ OwnEnts wr w.heap.size wr.heap.size v5 (ents list k) ∧
      Hid ((∀ j (hj : j < list.length), j < k → vOb list[j] = true) ∧ ∀ i (h : i < ns.length), ns[i].t = txtOf list (i : Int) ∧ ns[i].t.size ≤ 8) ∧ Below w.heap.size w wr) (fun _ _ i _ => list.length - (intOf i).toNat)
    case atStart => exact ⟨0, [], rfl, Nat.zero_le _, Chain.nil_ n1', ⟨[], [], n2, EIn.nil_ _ _ _⟩, ⟨fun j hj hj0 => absurd hj0 (by omega), fun i hi => absurd hi (by simp)⟩, a2⟩
    case round =>
      obtain ⟨k, ns, rfl, hk, hch, hoe, HV, hb⟩ := hrel
      clear n1' n2 a2
      have hz := hb.size
      have hlen := ents_length (list := list) (k := k) hk
      have hnsl := hch.1
      obtain ⟨AE, cE, rfl, _, hcE⟩ := hoe.form
      obtain ⟨AN, cN, rfl, _, hcN⟩ := hch.row
      obtain ⟨es, hes⟩ : ∃ es, ents list k = es := ⟨_, rfl⟩
      rw [hes] at hch hoe hlen hnsl hcE ⊢
      have HES := hid hes
      clear hes
      have el1 : es.length ≤ 16 := by omega
      have nl1 : ns.length ≤ 16 := by omega
      have HNL := hid hnsl
      have HEL := hid hlen
      clear hnsl hlen
      by_cases hlt : k < list.length
      · obtain ⟨o, ad, A', c', ho, rfl, ha, g0, g1, g2, g3⟩ := (h.below hb (Nat.le_refl _)).obj hlt
        have hfo := hf o (by rw [← ho]; exact List.getElem_mem hlt)
        have HO := hid ho
        clear ho
        have i0 : 0 ≤ (k : Int) := by omega
        have i1 : (k : Int) < (list.length : Int) := by omega
        have al := (Below.refl wr.heap.size wr).alloc (Nat.le_refl _) (.cells #[.int .i64 o.kd, .slice A' o.zs.length c', .string o.s] 42)
        have u1 := Blk.new_ wr 42 (.int .i64 o.kd) (.slice A' o.zs.length c') (.string o.s)
        have b1 := hb.trans (al.mono hz)
        have r1 := g3.below al hz
        have ch1 := hch.below al (Nat.le_refl _)
        have oe1 := hoe.below al
        cases hvo : vOb o
        · have HF : Hid (makeB list = false) := makeB_b hlt (by rw [HO.out]; exact hvo)
          obtain ⟨y0, y1, y2, -⟩ := id u1.reads
          go_wp2_with fail
          refine (implValidP_val false w.heap.size A' c' o _ hvo r1 b1.size hfo.1 hfo.2).mono ?_
          rintro e w5 ⟨rfl, hb5⟩
          go_wp2_with fail
          go_ret2
          exact Maked.no_ HF.out (b1.trans (hb5.mono b1.size))
        · have hvo' := hvo
          have HVO := hid hvo
          obtain ⟨y0, y1, y2, -⟩ := id u1.reads
          clear hch hoe al g3 hvo
          go_wp2_with fail
          refine (implValidP_val true w.heap.size A' c' o _ hvo' r1 b1.size hfo.1 hfo.2).mono ?_
          rintro e w5 ⟨rfl, hb5⟩
          have u5 := u1.below hb5 u1.lt
          have b5 := b1.trans (hb5.mono b1.size)
          have r5 := r1.below hb5 b1.size
          have ch5 := ch1.below hb5 (Nat.le_refl _)
          have oe5 := oe1.below hb5
          clear y0 y1 y2 u1 b1 r1 ch1 oe1 hb5 g0 g1 g2
          obtain ⟨y0, y1, y2, -⟩ := id u5.reads
          have HTX : Hid (∀ i (h : i < ns.length), ns[i].t = txtOf list (i : Int) ∧ ns[i].t.size ≤ 8) := HV.out.2
          have hpk := packObject_any w.heap.size (.slice AN ns.length cN) es ns list A' c' o w5 ch5 el1 HTX (r5.more b5.size) hvo'
          clear hvo'
          go_wp2_with fail
          refine hpk.mono ?_
          clear hpk
          rintro e w6 ⟨g, lv, ov, rfl, hgB, hng, hl6, ho6, hap6, b6⟩
          obtain ⟨AL, cL, rfl, _⟩ := hl6.form
          obtain ⟨AO, cO, rfl, _, _⟩ := ho6.form
          have b6' := b5.trans (b6.mono b5.size)
          have ch6 := ch5.below b6 (Nat.le_refl _)
          have oe6 := oe5.below b6
          obtain ⟨xs5, ps5, hr5, hin5⟩ := oe5
          have hrE := own_below hr5 b6 (Nat.le_refl _)
          have hinE := (hin5.low).below b6
          have z5 := b5.size
          have z6 := b6.size
          have hlM := fun q hq => (World.ownsRow.lt hl6 q hq).1
          have hoM := fun q hq => ho6.lt q hq
          have hl6' := hl6.base (B' := w.heap.size) z5
          have ho6' := ho6.base (B' := w.heap.size) z5
          have hbr := best_lt es list o.s es.length
          obtain ⟨b, hbb⟩ : ∃ b, (mkE es list o).b = b := ⟨_, rfl⟩
          obtain ⟨ops, hops⟩ : ∃ ops, (mkE es list o).ops = ops := ⟨_, rfl⟩
          have hbr' : -1 ≤ b ∧ b < (es.length : Int) := by rw [← hbb]; exact hbr
          have HMK : Hid (mkE es list o = ⟨o.kd, o.zs, b, ops⟩) := by show _ = _; rw [← hbb, ← hops]; rfl
          rw [hbb] at hng
          rw [hops] at ho6 ho6' hap6 hoM hng
          have HPT : Hid (ndC ns b ⟨g, .int .i64 o.kd, .slice AL o.zs.length cL, .slice AO ops.length cO, o.s⟩ = #[.int .i64 o.kd, .slice AL o.zs.length cL, .int .i64 b, .slice AO ops.length cO, pTo ns b, .string o.s]) := rfl
          obtain ⟨P, hP⟩ : ∃ P, pTo ns b = P := ⟨_, rfl⟩
          have hng2 : w6.heap[g]? = some (.cells #[.int .i64 o.kd, .slice AL o.zs.length cL, .int .i64 b, .slice AO ops.length cO, P, .string o.s] 61 (0, 0)) := by rw [← hP]; exact hng
          have HP := hid hP
          clear hbb hops hbr hP hr5 hin5 u5 r5 y0 y1 y2 hl6 ho6
          have aN := (Below.refl w6.heap.size w6).alloc (Nat.le_refl _) (.cells #[.pointer (some ⟨g, 0, none⟩)] 58)
          have hgl := heap_lt hng2
          have ch6a := ch6.below aN (Nat.le_refl _)
          have hng6 := (aN.block _ hgl).trans hng2
          have hrE6 := own_below hrE aN (Nat.le_refl _)
          have hinE6 := hinE.below aN
          have hl6a := hl6'.below aN (Nat.le_refl _)
          have ho6a := ho6'.below aN
          have b6a := b6'.trans (aN.mono b6'.size)
          go_wp2_with (first
            | (at_builtin; refine wpList_append_own _ rfl _ _ 25 rfl w.heap.size 33 q0 (.agg #[.int .i64 0, .slice none 0 0, .int .i64 0, .slice none 0 0]) 4 64 Try.underlying25 hq hq0 hq1 hq2 rfl (by decide) (.slice AE es.length cE) es.length xs5 rfl (World.ownsRow.alloc hrE8 _) ⟨w8.heap.size, 0, none⟩ 1 1 [.int .i64 o.kd, .slice AL o.zs.length cL, .int .i64 b, .slice AO ops.length cO] rfl rfl (four_at _ _ _ _ _ _ _ rfl) (ent_cells _ _ _ _ _ _ _ _) (by unfold maxLen; omega) (by omega) (by rw [World.size_alloc]; omega) ?_; intro v9 w9 hown9 hg9 _)
            | (at_builtin; refine wpList_append_own _ rfl _ _ 56 rfl w.heap.size 58 p0 (.pointer none) 1 8 Try.underlying56 hp hp0 hp1 hp2 rfl (by decide) (.slice AN ns.length cN) ns.length (ptrs ns) rfl ch6a.2.2.1 ⟨w6.heap.size, 0, none⟩ 1 1 [.pointer (some ⟨g, 0, none⟩)] rfl rfl (one_at _ _ _ _ rfl) (one_ptr _) (by unfold maxLen; omega) (by omega) (by rw [World.size_alloc]; omega) ?_; intro v8 w8 hown8 hg8 _; replace hg8 : (w6.alloc (.cells #[.pointer (some ⟨g, 0, none⟩)] 58)).grownBy w8 (Value.slice AN ns.length cN).ownBlock := hg8; have hng8 := (hg8.block g (by rw [World.size_alloc]; omega) (fun e => row_ne ch6a.2.2.1 hng6 (by decide) e.symm)).trans hng6; have hrE8 := row_keep hrE6 ch6a.2.2.1 (by decide) hg8; obtain ⟨e0, e1, e2, e3, e4, e5, -⟩ := cells6 hng8; have z8 : w.heap.size ≤ w8.heap.size := Nat.le_trans b6a.size hg8.size))
          have ch7 : Chain w8 w.heap.size v8 (es ++ [⟨o.kd, o.zs, b, ops⟩]) (ns ++ [⟨g, .int .i64 o.kd, .slice AL o.zs.length cL, .slice AO ops.length cO, o.s⟩]) :=
            Chain.add (w := w5) ch5 hbr'.1 hbr'.2 (fun i h2 => (hg8.block _ (by rw [World.size_alloc]; have := ch6.lt h2; omega) (ch6.vne h2)).trans ((aN.block _ (ch6.lt h2)).trans (b6.block _ (ch5.lt h2)))) hown8
              (by show w8.heap[g]? = _; rw [hng8, HPT.out, HP.out]) (by show _ ≤ g; omega) hgB
          have al8 := (Below.refl w8.heap.size w8).alloc (Nat.le_refl _) (.cells #[.int .i64 o.kd, .slice AL o.zs.length cL, .int .i64 b, .slice AO ops.length cO] 33)
          have ch9 := (ch7.below al8 (Nat.le_refl _)).grown (own_below hrE8 al8 (Nat.le_refl _)) (by decide) (by decide) hg9
          have hinE8 := hinE6.grown ch6a.2.2.1 (by decide) (by decide) hg8
          have hl8 : Own w8 w.heap.size (.slice AL o.zs.length cL) o.zs := row_keep hl6a ch6a.2.2.1 (by decide) hg8
          have ho8 : OwnOps w8 w.heap.size (.slice AO ops.length cO) ops := row_keep ho6a ch6a.2.2.1 (by decide) hg8
          have oe9 : OwnEnts w9 w.heap.size w9.heap.size v9 (es ++ [⟨o.kd, o.zs, b, ops⟩]) := EIn.app hinE8 hrE8 hl8 ho8 hap6 hlM hoM hown9 hg9
          have b8 : Below w.heap.size w w8 := b6a.grown hg8 b6a.size (fun q hq => (ch6a.own q hq).1)
          have b9 : Below w.heap.size w w9 := (b8.trans (al8.mono b8.size)).grown hg9 (by rw [World.size_alloc]; omega) (fun q hq => (World.ownsRow.lt hrE8 q hq).1)
          have HEN : Hid (ents list (k + 1) = es ++ [⟨o.kd, o.zs, b, ops⟩]) := by show _ = _; rw [ents_succ hlt, HES.out, HO.out, HMK.out]
          have HV2 : Hid ((∀ j (hj : j < list.length), j < k + 1 → vOb list[j] = true) ∧ ∀ i (h : i < (ns ++ [(⟨g, .int .i64 o.kd, .slice AL o.zs.length cL, .slice AO ops.length cO, o.s⟩ : Nd)]).length), (ns ++ [(⟨g, .int .i64 o.kd, .slice AL o.zs.length cL, .slice AO ops.length cO, o.s⟩ : Nd)])[i].t = txtOf list (i : Int) ∧ (ns ++ [(⟨g, .int .i64 o.kd, .slice AL o.zs.length cL, .slice AO ops.length cO, o.s⟩ : Nd)])[i].t.size ≤ 8) := by
            have hnk : ns.length = k := by rw [HNL.out, HEL.out]
            refine ⟨fun j hj hjk => ?_, fun i hi => ?_⟩
            · by_cases e : j = k
              · subst e; rw [HO.out]; exact HVO.out
              · exact HV.out.1 j hj (by omega)
            · rw [List.length_append, List.length_singleton] at hi
              by_cases hin : i < ns.length
              · rw [List.getElem_append_left hin]; exact HV.out.2 i hin
              · have hi' : i = ns.length := by omega
                subst hi'
                rw [List.getElem_append_right (Nat.le_refl _)]
                simp only [Nat.sub_self, List.getElem_singleton]
                rw [txt_some (by omega)]
                simp only [hnk, HO.out]
                exact ⟨trivial, valid_small HVO.out⟩
          clear hown8 hg8 hown9 hg9
          go_roundw
          case rel => exact ⟨k + 1, _, by go_num, by omega, by rw [HEN.out]; exact ch9, by rw [HEN.out]; exact oe9, HV2, b9⟩
          case measure => simp [intOf]; omega
      · have hk' : k = list.length := by omega
        subst hk'
        have HM : Hid (makeB list = true) := makeB_iff.2 ⟨hl16, fun o ho => by
          obtain ⟨j, hj, rfl⟩ := List.mem_iff_getElem.1 ho
          exact HV.out.1 j hj hj⟩
        have HP : Hid (packM list = es) := by show _ = _; rw [packM_yes HM.out, HES.out]
        go_wp2
        go_ret2
        exact ⟨.slice AE es.length cE, by rw [HM.out]; rfl, by rw [HP.out]; exact hoe, hb⟩
  · have HF := hid (makeB_a hl16)
    go_enter Try.func11, Try.ntmps11
    go_wp2
    go_ret2
    exact Maked.no_ HF.out (Below.refl _ _)
end Go.Proofs.Ytkekbobnbipmoaa
