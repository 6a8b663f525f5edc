/-
  Walk: the program's PackObjects.
-/
import Derived.Test.YtkekbobnbipmoaaUnpk
import Derived.Test.YtkekbobnbipmoaaPackL
namespace Go.Proofs.Ytkekbobnbipmoaa
open Go.RowKit Wo Pu

/-- Behind PackObjects. -/
def POut (es : List Ent) (w : World) (e : Ending) (w' : World) : Prop := ∃ v, e = .returned (.tuple #[v, .bool (packB es)]) ∧ OwnObs w' w.heap.size v (packO es) ∧ Below w.heap.size w w'
theorem POut.no_ {es : List Ent} {w w' : World} (h : packB es = false) (hb : Below w.heap.size w w') : POut es w (.returned (.tuple #[.slice (some ⟨w'.heap.size, 0, none⟩) 0 0, .bool false])) (w'.alloc (.cells #[] 42)) := by
  refine ⟨_, by rw [h], ?_, hb.alloc hb.size _⟩
  rw [packO_no h]
  exact OwnObs.nil_new hb.size
theorem OwnObs.node {w w' : World} {B g : Nat} {v : Value} {os : List Ob} {cs : Array Value} (h : OwnObs w B v os) (hE : w.heap[g]? = some (.cells cs 61 (0, 0))) (hb : But g w w') : OwnObs w' B v os := by
  obtain ⟨xs, h1, h2⟩ := h
  refine ⟨xs, World.ownsRow.kept h1 hb (.inr (row_ne h1 hE (by decide))), fun j hj => ?_⟩
  obtain ⟨A, c, q0, q1, q2, q3⟩ := h2 j hj
  exact ⟨A, c, q0, q1, q2, World.ownsRow.kept q3 hb (.inr (row_ne q3 hE (by decide)))⟩
/-- The texts of the nodes before k are those of the objects. -/
def Txd (ns : List Nd) (os : List Ob) : Prop := ∀ j (h : j < os.length) (h2 : j < ns.length), ns[j].t = os[j].s
theorem Txd.base {ns : List Nd} {os : List Ob} (h : Txd ns os) {b : Int} (hb : b < (os.length : Int)) (hl : os.length ≤ ns.length) : txtN ns b = txtOf os b := by
  by_cases h0 : 0 ≤ b
  · obtain ⟨j, rfl⟩ : ∃ j : Nat, b = (j : Int) := ⟨b.toNat, by omega⟩
    rw [txtN_some (by omega), txt_some (by omega)]
    exact h j (by omega) (by omega)
  · rw [txtN_none (by omega), txt_none (by omega)]
theorem Txd.snoc {ns : List Nd} {os : List Ob} {o : Ob} (h : Txd ns os) (hi : os.length < ns.length) : Txd (ns.set os.length ⟨ns[os.length].g, ns[os.length].k, ns[os.length].l, ns[os.length].o, o.s⟩) (os ++ [o]) := fun j hj hj2 => by
  rw [List.length_append, List.length_singleton] at hj
  have hj3 : j < ns.length := by rw [List.length_set] at hj2; exact hj2
  by_cases e : j = os.length
  · subst e
    simp only [List.getElem_set_self]
    rw [List.getElem_append_right (Nat.le_refl _)]
    simp
  · rw [List.getElem_set_ne (fun e2 => e e2.symm), List.getElem_append_left (by omega)]
    exact h j (by omega) hj3
theorem okTo_small {es : List Ent} : ∀ {k : Nat} {out : List Ob}, okTo es k = true → k ≤ es.length → objs es k = out → ∀ q ∈ out, q.s.size ≤ 8 := by
  intro k
  induction k with
  | zero =>
    intro out _ _ h q hq
    rw [← h] at hq
    cases hq
  | succ k ih =>
    intro out h hk ho q hq
    rw [okTo_succ (by omega), Bool.and_eq_true] at h
    rw [objs_succ (by omega)] at ho
    rw [← ho] at hq
    rcases List.mem_append.1 hq with hq | hq
    · exact ih h.1 (by omega) rfl q hq
    · rw [List.mem_singleton.1 hq]
      have h2 := h.2
      unfold okO at h2
      rw [Bool.and_eq_true] at h2
      exact valid_small h2.2
theorem obj_three (kd : Int) (A : Option Addr) (n c : Nat) (s : ByteArray) : ob kd A n c s = .agg #[.int .i64 kd, .slice A n c, .string s] := rfl

set_option maxRecDepth 100000 in
set_option maxHeartbeats 4000000 in
theorem implPackObjects_any (A : Option Addr) (c : Nat) (es : List Ent) (w : World) (h : Ents w w.heap.size A es) (hn : es.length ≤ 1048576) (hfe : FitE es) :
    Calls Try.prog 18 #[.slice A es.length c] w (POut es w) := by
  obtain ⟨i0, hi, hz0, hz1, hz2⟩ := info_of info_ob
  by_cases hl16 : es.length ≤ 16
  · go_enter Try.func18, Try.ntmps18
    go_wp2_with fail
    refine (linkEntries_any A c es w h hn hfe).mono ?_
    rintro e w1 (⟨hb, rfl, b1⟩ | ⟨hb, v, ns0, rfl, hch0, hnr0, _, b1⟩)
    · have HP := hid (packB_b hb)
      go_wp2
      go_ret2
      exact POut.no_ HP.out b1
    · obtain ⟨AN, cN, rfl, _, _⟩ := hch0.row
      have hnl0 := hch0.1
      obtain ⟨m, hm⟩ : ∃ m, ns0.length = m := ⟨_, rfl⟩
      rw [hm] at hch0 hnl0 ⊢
      have n2 := OwnObs.nil_new (w := w1) (B := w.heap.size) b1.size
      have al := (Below.refl w1.heap.size w1).alloc (Nat.le_refl _) (.cells #[] 42)
      have ch2 := hch0.below al (Nat.le_refl _)
      have nr2 := hnr0.below al b1.size
      have b2 := b1.trans (al.mono b1.size)
      have HBAS := hid hb
      subst hnl0
      clear hch0 hnr0 al b1 hb hm
      go_wp2_with fail
      go_loopw [6, 26] (fun v6 i wr => ∃ (k : Nat) (ns : List Nd), i = .int .i64 k ∧ k ≤ es.length ∧ Chain wr w.heap.size (.slice AN es.length cN) es ns ∧ NR wr w.heap.size es ns ∧ OwnObs wr w.heap.size v6 (objs es k) ∧
        Hid (okTo es k = true ∧ (∀ j, j < k → dep es j ≤ 2) ∧ Txd ns (objs es k)) ∧ Below w.heap.size w wr) (fun _ i _ => es.length - (intOf i).toNat)
      case atStart => exact ⟨0, ns0, rfl, Nat.zero_le _, ch2, nr2, n2, ⟨rfl, fun j hj => absurd hj (by omega), fun j hj => absurd hj (by simp [objs])⟩, b2⟩
      case round =>
        obtain ⟨k, ns, rfl, hk, hch, hnr, hoo, HV, hbw⟩ := hrel
        clear n2 ch2 nr2 b2
        have hz := hbw.size
        have hol := objs_length (es := es) hk
        obtain ⟨out, hout⟩ : ∃ out, objs es k = out := ⟨_, rfl⟩
        rw [hout] at HV hoo hol
        have HOUT := hid hout
        clear hout
        by_cases hlt : k < es.length
        · have hk2 : k < ns.length := by rw [hch.1]; exact hlt
          have hnl := hch.1
          have hbr := (basB_iff.1 HBAS.out) k hlt
          obtain ⟨ad, rfl, hadb, g0⟩ := hch.row_.ptr_ hk2
          obtain ⟨T, hT⟩ : ∃ T, txtN ns es[k].b = T := ⟨_, rfl⟩
          have hTO : txtOf out es[k].b = T := by rw [← hT]; exact (HV.out.2.2.base (by omega) (by omega)).symm
          have hTs : T.size ≤ 1048576 := by
            rw [← hTO]
            unfold txtOf
            split
            · rcases hq : out[es[k].b.toNat]? with _ | q
              · decide
              · have := okTo_small HV.out.1 hk HOUT.out q (List.mem_of_getElem? hq)
                show q.s.size ≤ _
                omega
            · decide
          obtain ⟨o, ho⟩ : ∃ o, mkO out es[k] = o := ⟨_, rfl⟩
          have hkd : es[k].kd = o.kd := by rw [← ho]; rfl
          have hzs : es[k].zs = o.zs := by rw [← ho]; rfl
          have HO : Hid (dRes T es[k].ops = o.s) := by show _ = _; rw [← ho]; show _ = dRes (txtOf out es[k].b) _; rw [hTO]
          have HS : Hid (objs es (k + 1) = out ++ [o]) := by show _ = _; rw [objs_succ hlt, HOUT.out, ho]
          have HOK : Hid (okTo es (k + 1) = (dOk T es[k].ops && vOb o)) := by show _ = _; rw [okTo_succ hlt, HV.out.1, Bool.true_and, HOUT.out]; unfold okO; rw [ho, hTO]
          have HT := hid hT
          have i1 : (k : Int) < (es.length : Int) := by omega
          clear hT hTO ho
          have hun := unpack_any w.heap.size w.heap.size (.slice (some ad) es.length cN) es ns k T o wr hch hnr (Nat.le_refl _) hz hlt hk2 hn hfe HT hTs hkd hzs HO
          go_wp2_with fail
          refine hun.mono ?_
          clear hun
          rintro e w3 (⟨hg, rfl, b3⟩ | ⟨hg, A3, c3, rfl, o3, hall, b3⟩)
          · have HF : Hid (packB es = false) := by
              show _ = _
              rw [Bool.and_eq_false_iff] at hg
              rcases hg with hg | hg
              · refine packB_c ?_
                rw [Bool.eq_false_iff]
                intro e
                have := depB_iff.1 e k hlt
                exact absurd this (of_decide_eq_false hg)
              · refine packB_d ?_
                rw [Bool.eq_false_iff]
                intro e
                have := okTo_le (j := k + 1) (by omega) (Nat.le_refl _) e
                rw [HOK.out, hg] at this
                cases this
            have b4 := hbw.trans b3
            clear hg
            have b5 := b4.alloc b4.size (.cells #[.int .i64 0, .slice none 0 0, .string ⟨#[]⟩] 42)
            unfold ob
            go_upto_region 11 with (fail)
            generalize w3.alloc (.cells #[.int .i64 0, .slice none 0 0, .string ⟨#[]⟩] 42) = w4 at *
            go_wp2
            go_ret2
            exact POut.no_ HF.out b5
          · rw [Bool.and_eq_true, decide_eq_true_eq] at hg
            obtain ⟨hd, hok⟩ := hg
            obtain ⟨ch3, nr3, tb3⟩ := hall hk2
            have hE := (hch.2.2.2.1 k hlt hk2).2
            have oo3 := hoo.node hE tb3
            have b4 := hbw.trans b3
            have HV2 : Hid (okTo es (k + 1) = true ∧ (∀ j, j < k + 1 → dep es j ≤ 2) ∧ Txd (ns.set k ⟨ns[k].g, ns[k].k, ns[k].l, ns[k].o, o.s⟩) (out ++ [o])) := by
              refine ⟨by rw [HOK.out]; exact hok, fun j hj => ?_, ?_⟩
              · by_cases e : j = k
                · rw [e]; exact hd
                · exact HV.out.2.1 j (by omega)
              · have := HV.out.2.2.snoc (o := o) (by omega)
                simp only [hol] at this
                exact this
            have z3 := tb3.size
            have o3b := o3.base hz
            have hE3 : (ns.set k ⟨ns[k].g, ns[k].k, ns[k].l, ns[k].o, o.s⟩).length = ns.length := List.length_set
            clear hall hch hnr hoo hE tb3 o3 hbw b3 HT HO HOK hok g0
            have al := (Below.refl w3.heap.size w3).alloc (Nat.le_refl _) (.cells #[.int .i64 o.kd, .slice A3 o.zs.length c3, .string o.s] 42)
            have u5 := Blk.new_ w3 42 (.int .i64 o.kd) (.slice A3 o.zs.length c3) (.string o.s)
            have ch5 := ch3.below al (Nat.le_refl _)
            have nr5 := nr3.below al b4.size
            have oo5 := oo3.below al
            have o5 := o3b.below al (Nat.le_refl _)
            have b5 := b4.trans (al.mono b4.size)
            obtain ⟨x0, x1, x2, -⟩ := id u5.reads
            clear ch3 nr3 oo3 o3b al b4
            obtain ⟨ys, hyrow, hyos⟩ := oo5
            obtain ⟨w5, hw5⟩ : ∃ w5, w3.alloc (.cells #[.int .i64 o.kd, .slice A3 o.zs.length c3, .string o.s] 42) = w5 := ⟨_, rfl⟩
            unfold ob
            go_upto_region 11 with (fail)
            rw [hw5] at hyrow hyos ch5 nr5 o5 b5 u5 x0 x1 x2
            clear hw5
            have z5 := b5.size
            have hll : out.length ≤ 16 := by omega
            go_wp2_with (at_builtin; go_must (refine wpList_append_own _ rfl _ _ 23 rfl w.heap.size 42 i0 (.agg #[.int .i64 0, .slice none 0 0, .string ⟨#[]⟩]) 3 48 Try.underlying23 hi hz0 hz1 hz2 rfl (by decide) _ out.length ys rfl (World.ownsRow.alloc hyrow _) ⟨w5.heap.size, 0, none⟩ 1 1 [.int .i64 o.kd, .slice A3 o.zs.length c3, .string o.s] rfl rfl (three_at _ _ _ _ _ _ (by simp)) (obj_cells o A3 c3) (by unfold maxLen; omega) (by omega) (by simp; omega) ?_); intro v' w9 hown hg _)
            have hv9 : OwnObs w9 w.heap.size v' (out ++ [o]) := OwnObs.app hyos hyrow.1 o5 hyrow hown hg
            have al9 := (Below.refl w5.heap.size w5).alloc (Nat.le_refl _) (.cells #[.int .i64 o.kd, .slice A3 o.zs.length c3, .string o.s] 42)
            have ch9 := (ch5.below al9 (Nat.le_refl _)).grown (own_below hyrow al9 (Nat.le_refl _)) (by decide) (by decide) hg
            have b9 : Below w.heap.size w w9 := (b5.trans (al9.mono z5)).grown hg (by simp; omega) (fun q hq => (World.ownsRow.lt hyrow q hq).1)
            have nr9 := nr5.below (((Below.refl w.heap.size w5).alloc z5 (.cells #[.int .i64 o.kd, .slice A3 o.zs.length c3, .string o.s] 42)).grown hg (by simp; omega) (fun q hq => (World.ownsRow.lt hyrow q hq).1)) (Nat.le_refl _)
            clear hown hg hyrow hyos al9 ch5 nr5 o5 b5 u5 x0 x1 x2
            go_wp2_with fail
            go_roundw
            case rel => exact ⟨k + 1, _, by go_num, by omega, ch9, nr9, by rw [HS.out]; exact hv9, by rw [HS.out]; exact HV2, b9⟩
            case measure => simp [intOf]; omega
        · have hk' : k = es.length := by omega
          subst hk'
          have HP : Hid (packB es = true) := packB_iff.2 ⟨hl16, basB_iff.1 HBAS.out, fun j hj => HV.out.2.1 j hj, HV.out.1⟩
          have HPO : Hid (packO es = out) := by show _ = _; rw [packO_yes HP.out, HOUT.out]
          go_wp2
          go_ret2
          exact ⟨_, by rw [HP.out]; rfl, by rw [HPO.out]; exact hoo, hbw⟩
  · have HF := hid (packB_a hl16)
    go_enter Try.func18, Try.ntmps18
    go_wp2
    go_ret2
    exact POut.no_ HF.out (Below.refl _ _)
end Go.Proofs.Ytkekbobnbipmoaa
