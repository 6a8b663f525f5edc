/-
  Walk of the law that the first entries of a pack are a pack.
-/
import Derived.Test.YtpcfabgjdefkiaaDrawPk
import Derived.Test.YtpcfabgjdefkiaaPackR
namespace Go.Proofs.Ytpcfabgjdefkiaa
open Go.RowKit Wo Pu

theorem packO_valid {es : List Ent} : ∀ o ∈ packO es, vOb o = true := fun o ho => by
  cases hb : packB es
  · rw [packO_no hb] at ho; cases ho
  · exact pack_valid hb o ho

theorem Objs.take_ {w : World} {B : Nat} {A : Option Addr} {os : List Ob} (h : Objs w B A os) (k : Nat) : Objs w B A (os.take k) := by
  rcases h with rfl | ⟨ad, e, ha, hh⟩
  · exact .inl (by simp)
  · refine .inr ⟨ad, e, ha, fun i hi => ?_⟩
    have hi' : i < os.length := by rw [List.length_take] at hi; omega
    rw [List.getElem_take]
    exact hh i hi'

theorem packObjects_val (A : Option Addr) (n c : Nat) (es : List Ent) (list : List Ob) (w : World) (h : Ents w w.heap.size A es) (hn : es.length ≤ 1048576) (hfe : FitE es) (hb : packB es = true) (ho : packO es = list) (hl : es.length = n) :
    Calls Try.prog 23 #[.slice A n c] w (fun e w' => ∃ v, e = .returned (.tuple #[v, .bool true]) ∧ OwnObs w' w.heap.size v list ∧ Below w.heap.size w w') := by
  subst hl
  refine (implPackObjects_any A c es w h hn hfe).mono ?_
  rintro e w' ⟨v, rfl, h1, h2⟩
  rw [ho] at h1
  exact ⟨v, by rw [hb], h1, h2⟩

theorem FnPackCut_no (A : Option Addr) (c : Nat) (bs : List Int) (A' : Option Addr) (c' : Nat) (bs' : List Int) (w : World) (h : Code_ w A c bs) (h' : Code_ w A' c' bs') (hl : ¬ (bs.length ≤ 1048576 ∧ bs'.length ≤ 1048576)) :
    Calls Try.prog 14 #[.slice A bs.length c, .slice A' bs'.length c'] w (Ret (.bool true) w) := by
  have hc := h.2.1
  have hm := h.2.2.1
  have hc' := h'.2.1
  have hm' := h'.2.2.1
  unfold maxLen at hm hm'
  by_cases h1 : bs.length ≤ 1048576
  · have h2 : ¬ bs'.length ≤ 1048576 := fun e => hl ⟨h1, e⟩
    clear hl
    go_enter Try.func14, Try.ntmps14
    go_wp2
    go_ret
    exact .mk_ (Below.refl _ _)
  · clear hl
    go_enter Try.func14, Try.ntmps14
    go_wp2
    go_ret
    exact .mk_ (Below.refl _ _)
set_option maxRecDepth 100000 in
set_option maxHeartbeats 4000000 in
theorem FnPackCut_yes (A : Option Addr) (c : Nat) (bs : List Int) (A' : Option Addr) (c' : Nat) (bs' : List Int) (w : World) (h : Code_ w A c bs) (_ : Code_ w A' c' bs') (hl : bs.length ≤ 1048576) (hl' : bs'.length ≤ 1048576) :
    Calls Try.prog 14 #[.slice A bs.length c, .slice A' bs'.length c'] w (Ret (.bool true) w) := by
  go_enter Try.func14, Try.ntmps14
  go_wp2_with fail
  refine (DrawPackObjects_any A c bs _ h).mono ?_
  rintro e w1 ⟨A1, c1, es, rfl, e1, hc1, h16, fit, b1⟩
  have hn : es.length ≤ 1048576 := by omega
  go_wp2_with fail
  refine (implPackObjects_any A1 c1 es w1 e1 hn fit).mono ?_
  rintro e w2 ⟨v2, rfl, o2, bb2⟩
  obtain ⟨A2, c2, rfl, h2, hc2⟩ := o2.form3
  have e2 := (e1.below bb2 (Nat.le_refl _)).more bb2.size
  have b2 := b1.trans (bb2.mono b1.size)
  clear e1 b1 bb2 o2
  have hpo := specPackObjects_any A1 c1 es w2 e2 hn fit
  go_wp2_with fail
  refine hpo.mono ?_
  clear hpo
  rintro e w3 ⟨v3, rfl, o3, bb3⟩
  obtain ⟨A3, c3, rfl, h3⟩ := o3.form
  have h23 := (h2.below bb3 (Nat.le_refl _)).more bb3.size
  have e3 := (e2.below bb3 (Nat.le_refl _)).more bb3.size
  have b3 := b2.trans (bb3.mono b2.size)
  have hval := packO_valid (es := es)
  have hln : (packO es).length ≤ 1048576 := by have := packO_length (es := es); omega
  obtain ⟨list, hlist⟩ : ∃ list, packO es = list := ⟨_, rfl⟩
  rw [hlist] at h23 h3 hc2 hval hln ⊢
  have HL := hid hlist
  have hzz : ∀ o ∈ list, o.zs.length ≤ 1048576 := fun o ho => by have := (vldB_parts (hval o ho)).2.1; omega
  have HSM := hid (fun (x : World) (hx : Below w3.heap.size w3 x) => sameObjectsP_same A2 A3 c2 c3 list x ((h23.below hx (Nat.le_refl _)).more hx.size) ((h3.below hx (Nat.le_refl _)).more hx.size) hln hzz)
  clear hlist h2 e2 b2 bb3 o3 h3
  go_wp2_with fail
  refine (HSM.out w3 (Below.refl _ _)).mono ?_
  rintro e w4 ⟨rfl, bb4⟩
  have b4 := b3.trans (bb4.mono b3.size)
  have h4 := (h23.below bb4 (Nat.le_refl _)).more bb4.size
  have e4 := (e3.below bb4 (Nat.le_refl _)).more bb4.size
  clear h23 e3 b3
  cases hb : packB es
  ·
    go_wp2_with fail
    refine (HSM.out w4 bb4).mono ?_
    rintro e w5 ⟨rfl, bb5⟩
    go_wp2
    go_ret
    exact .mk_ (b4.trans (bb5.mono b4.size))
  · obtain ⟨k, hk⟩ : ∃ k : Nat, Hid (k = bs'.length % (es.length + 1)) := ⟨_, rfl⟩
    have hk3 : k ≤ es.length := by rw [hk.out]; have := Nat.mod_lt bs'.length (show 0 < es.length + 1 by omega); omega
    have EK : Hid (((bs'.length : Nat) : Int) % ((es.length : Int) + 1) = (k : Int)) := by show _ = _; rw [hk.out, Int.natCast_emod, Int.natCast_add]; rfl
    obtain ⟨t1, t2⟩ := pack_cut hb hk3
    rw [HL.out] at t2
    have hlen : list.length = es.length := by rw [← HL.out, packO_yes hb, objs_length (Nat.le_refl _)]
    have ht : (es.take k).length = k := by rw [List.length_take]; omega
    have ht2 : (list.take k).length = k := by rw [List.length_take]; omega
    have D1 := hid (fun (x : World) (hx : Ents x x.heap.size A1 (es.take k)) => packObjects_val A1 k c1 (es.take k) (list.take k) x hx (by omega) (fit.take_ k) t1 t2 ht)
    have C2 := fun (x : World) (A5 : Option Addr) (c5 : Nat) (hx : Objs x x.heap.size A5 (list.take k)) (hx' : Objs x x.heap.size A2 (list.take k)) => sameObjectsP_same A5 A2 c5 c2 (list.take k) x hx hx' (by omega) (fun o ho => hzz o (List.mem_of_mem_take ho))
    rw [ht2] at C2
    have D2 := hid C2
    have HT2 := hid ht2
    have ek := EK.out
    have k0 : 0 ≤ (k : Int) := by omega
    have k1 : (k : Int) ≤ (es.length : Int) := by omega
    have k2 : (es.length : Int) ≤ (c1 : Int) := by omega
    have k3 : (k : Int) ≤ (c1 : Int) := by omega
    have k4 : (list.length : Int) ≤ (c2 : Int) := by omega
    have k5 : (k : Int) ≤ (c2 : Int) := by omega
    clear EK hk t1 t2 ht ht2 C2 hb HSM bb4 hval hzz
    go_wp2_with fail
    refine (D1.out w4 (e4.take_ k)).mono ?_
    rintro e w5 ⟨v5, rfl, o5, b5⟩
    obtain ⟨A5, c5, rfl, h5⟩ := o5.form
    rw [HT2.out]
    have h6 := ((h4.take_ k).below b5 (Nat.le_refl _)).more b5.size
    go_wp2_with fail
    refine (D2.out w5 A5 c5 h5 h6).mono ?_
    rintro e w6 ⟨rfl, b6⟩
    go_wp2
    go_ret
    exact .mk_ (b4.trans ((b5.trans (b6.mono b5.size)).mono b4.size))
theorem FnPackCut_any (A : Option Addr) (c : Nat) (bs : List Int) (A' : Option Addr) (c' : Nat) (bs' : List Int) (w : World) (f1 : Row w w.heap.size A (bs.map (Value.int .u8))) (f2 : bs.length ≤ c) (f3 : c ≤ maxLen) (f4 : ∀ n ∈ bs, 0 ≤ n ∧ n < 256) (g1 : Row w w.heap.size A' (bs'.map (Value.int .u8))) (g2 : bs'.length ≤ c') (g3 : c' ≤ maxLen) (g4 : ∀ n ∈ bs', 0 ≤ n ∧ n < 256) :
    Calls Try.prog 14 #[.slice A bs.length c, .slice A' bs'.length c'] w (Ret (.bool true) w) := by
  by_cases hl : bs.length ≤ 1048576 ∧ bs'.length ≤ 1048576
  · exact FnPackCut_yes A c bs A' c' bs' w ⟨f1, f2, f3, f4⟩ ⟨g1, g2, g3, g4⟩ hl.1 hl.2
  · exact FnPackCut_no A c bs A' c' bs' w ⟨f1, f2, f3, f4⟩ ⟨g1, g2, g3, g4⟩ hl
end Go.Proofs.Ytpcfabgjdefkiaa
