/-
  Walk of the law on the objects of a pack.
-/
import Derived.Test.YtpcfabgjdefkiaaDrawPk
import Derived.Test.YtpcfabgjdefkiaaPackR
import Derived.Test.YtpcfabgjdefkiaaLawPkDepth
namespace Go.Proofs.Ytpcfabgjdefkiaa
open Go.RowKit Wo Pu

theorem packO_valid {es : List Ent} : ∀ o ∈ packO es, vOb o = true := fun o ho => by
  cases hb : packB es
  · rw [packO_no hb] at ho; cases ho
  · exact pack_valid hb o ho

theorem FnPackObjects_no (A : Option Addr) (c : Nat) (bs : List Int) (w : World) (h : Code_ w A c bs) (hl : ¬ bs.length ≤ 1048576) :
    Calls Try.prog 13 #[.slice A bs.length c] w (Ret (.bool true) w) := by
  have hc := h.2.1
  have hm := h.2.2.1
  unfold maxLen at hm
  go_enter Try.func13, Try.ntmps13
  go_wp2
  go_ret
  exact .mk_ (Below.refl _ _)
set_option maxRecDepth 100000 in
set_option maxHeartbeats 4000000 in
theorem FnPackObjects_yes (A : Option Addr) (c : Nat) (bs : List Int) (w : World) (h : Code_ w A c bs) (hl : bs.length ≤ 1048576) :
    Calls Try.prog 13 #[.slice A bs.length c] w (Ret (.bool true) w) := by
  go_enter Try.func13, Try.ntmps13
  go_wp2_with fail
  refine (DrawPackObjects_any A c bs _ h).mono ?_
  rintro e w1 ⟨A1, c1, es, rfl, e1, hc1, h16, fit, b1⟩
  have hn : es.length ≤ 1048576 := by omega
  go_wp2_with fail
  refine (implPackObjects_any A1 c1 es w1 e1 hn fit).mono ?_
  rintro e w2 ⟨v2, rfl, o2, bb2⟩
  obtain ⟨A2, c2, rfl, h2, hc2⟩ := o2.form3
  have e2 := (e1.below bb2 (Nat.le_refl _)).more bb2.size
  have b2 := b1.trans (bb2.mono b1.size)
  clear e1 b1 bb2 o2
  have hpo := specPackObjects_any A1 c1 es w2 e2 hn fit
  go_wp2_with fail
  refine hpo.mono ?_
  clear hpo
  rintro e w3 ⟨v3, rfl, o3, bb3⟩
  obtain ⟨A3, c3, rfl, h3⟩ := o3.form
  have h23 := (h2.below bb3 (Nat.le_refl _)).more bb3.size
  have e3 := (e2.below bb3 (Nat.le_refl _)).more bb3.size
  have b3 := b2.trans (bb3.mono b2.size)
  have hval := packO_valid (es := es)
  have hln : (packO es).length ≤ 1048576 := by have := packO_length (es := es); omega
  obtain ⟨list, hlist⟩ : ∃ list, packO es = list := ⟨_, rfl⟩
  rw [hlist] at h23 h3 hc2 hval hln ⊢
  have HL := hid hlist
  have hzz : ∀ o ∈ list, o.zs.length ≤ 1048576 := fun o ho => by have := (vldB_parts (hval o ho)).2.1; omega
  have HSM := hid (fun (x : World) (hx : Below w3.heap.size w3 x) => sameObjectsP_same A2 A3 c2 c3 list x ((h23.below hx (Nat.le_refl _)).more hx.size) ((h3.below hx (Nat.le_refl _)).more hx.size) hln hzz)
  clear hlist h2 e2 b2 bb3 o3 h3
  go_wp2_with fail
  refine (HSM.out w3 (Below.refl _ _)).mono ?_
  rintro e w4 ⟨rfl, bb4⟩
  have b4 := b3.trans (bb4.mono b3.size)
  have h4 := (h23.below bb4 (Nat.le_refl _)).more bb4.size
  have e4 := (e3.below bb4 (Nat.le_refl _)).more bb4.size
  clear h23 e3 b3
  cases hb : packB es
  ·
    go_wp2_with fail
    refine (HSM.out w4 bb4).mono ?_
    rintro e w5 ⟨rfl, bb5⟩
    go_wp2
    go_ret
    exact .mk_ (b4.trans (bb5.mono b4.size))
  · have hlen : list.length = es.length := by rw [← HL.out, packO_yes hb, objs_length (Nat.le_refl _)]
    obtain ⟨_, hbas, hdep, _⟩ := packB_iff.1 hb
    have HB := hid (⟨hbas, basB_iff.2 hbas, hdep⟩ : Bas es ∧ basB es = true ∧ ∀ i, i < es.length → dep es i ≤ 2)
    have HF := hid fit
    have HVL := hid hval
    clear hbas hdep hb HSM bb4 fit hval hc2 hzz
    go_wp2_with fail
    go_loopw [8] (fun i wr => ∃ k : Nat, k ≤ es.length ∧ i = .int .i64 k ∧ Below w4.heap.size w4 wr) (fun i _ => es.length - (intOf i).toNat)
    case atStart => exact ⟨0, Nat.zero_le _, rfl, Below.refl _ _⟩
    case round =>
      obtain ⟨k, hk, rfl, hbw⟩ := hrel
      have hz := hbw.size
      by_cases hlt : k < es.length
      · have hkl : k < list.length := by omega
        obtain ⟨o, ad, A', c', ho, rfl, ha, k0, k1, k2, k3⟩ := (h4.below hbw (Nat.le_refl _)).obj hkl
        have hv := HVL.out o (by rw [← ho]; exact List.getElem_mem hkl)
        have hvp := vldB_parts hv
        have hz1 := hvp.2.1
        have hz2 := hvp.2.2.1
        obtain ⟨d, hd⟩ : ∃ d, dep es k = d := ⟨_, rfl⟩
        have hd2 := HB.out.2.2 k hlt
        rw [hd] at hd2
        have HP : Hid (pDep es (k : Int) = (d : Int)) := by show _ = _; rw [pDep_yes HB.out.2.1 hlt, hd]
        have i0 : 0 ≤ (k : Int) := by omega
        have i1 : (k : Int) < (es.length : Int) := by omega
        have d0 : ¬ (d : Int) < 0 := by omega
        have d2 : ¬ 2 < (d : Int) := by omega
        have hov := implObjectValid_val true w4.heap.size A' c' o wr hv k3 hz (by unfold maxLen; omega) (by unfold maxLen; omega)
        have e5 := (e4.below hbw (Nat.le_refl _)).more hz
        have hn2 : es.length ≤ 1048576 := hn
        clear hd hv hvp ho k3
        go_wp2_with fail
        refine hov.mono ?_
        clear hov
        rintro e w5 ⟨rfl, b5⟩
        have e6 := (e5.below b5 (Nat.le_refl _)).more b5.size
        have hb5 := hbw.trans (b5.mono hz)
        clear e5 b5 hbw k0 k1 k2
        go_wp2_with fail
        refine (packDepth_val (d : Int) A1 es.length c1 es (k : Int) w5 e6 hn2 HF.out HP.out rfl).mono ?_
        rintro e w6 ⟨rfl, b6⟩
        have e7 := (e6.below b6 (Nat.le_refl _)).more b6.size
        have hb6 := hb5.trans (b6.mono hb5.size)
        clear e6 b6 hb5
        go_wp2_with fail
        refine (packDepth_val (d : Int) A1 es.length c1 es (k : Int) w6 e7 hn2 HF.out HP.out rfl).mono ?_
        rintro e w7 ⟨rfl, b7⟩
        go_wp2_with fail
        go_roundw
        case rel => exact ⟨k + 1, by omega, by go_num, hb6.trans (b7.mono hb6.size)⟩
        case measure => simp [intOf]; omega
      · have hk' : k = es.length := by omega
        subst hk'
        go_wp2
        go_ret
        exact .mk_ (b4.trans (hbw.mono b4.size))
theorem FnPackObjects_any (A : Option Addr) (c : Nat) (bs : List Int) (w : World) (f1 : Row w w.heap.size A (bs.map (Value.int .u8))) (f2 : bs.length ≤ c) (f3 : c ≤ maxLen) (f4 : ∀ n ∈ bs, 0 ≤ n ∧ n < 256) :
    Calls Try.prog 13 #[.slice A bs.length c] w (Ret (.bool true) w) := by
  by_cases hl : bs.length ≤ 1048576
  · exact FnPackObjects_yes A c bs w ⟨f1, f2, f3, f4⟩ hl
  · exact FnPackObjects_no A c bs w ⟨f1, f2, f3, f4⟩ hl
end Go.Proofs.Ytpcfabgjdefkiaa
