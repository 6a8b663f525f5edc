/-
  Walk of the law that earlier entries do not depend on later ones.
-/
import Derived.Test.YtpcfabgjdefkiaaPkC
namespace Go.Proofs.Ytpcfabgjdefkiaa
open Go.RowKit Wo Pu

theorem Objs.take_ {w : World} {B : Nat} {A : Option Addr} {os : List Ob} (h : Objs w B A os) (k : Nat) : Objs w B A (os.take k) := by
  rcases h with rfl | ⟨ad, e, ha, hh⟩
  · exact .inl (by simp)
  · refine .inr ⟨ad, e, ha, fun i hi => ?_⟩
    have hi' : i < os.length := by rw [List.length_take] at hi; omega
    rw [List.getElem_take]
    exact hh i hi'

theorem FnPackPrefix_no (A : Option Addr) (c : Nat) (bs : List Int) (A' : Option Addr) (c' : Nat) (bs' : List Int) (w : World) (h : Code_ w A c bs) (h' : Code_ w A' c' bs') (hl : ¬ (bs.length ≤ 1048576 ∧ bs'.length ≤ 1048576)) :
    Calls Try.prog 8 #[.slice A bs.length c, .slice A' bs'.length c'] w (Ret (.bool true) w) := by
  have hc := h.2.1
  have hm := h.2.2.1
  have hc' := h'.2.1
  have hm' := h'.2.2.1
  unfold maxLen at hm hm'
  by_cases h1 : bs.length ≤ 1048576
  · have h2 : ¬ bs'.length ≤ 1048576 := fun e => hl ⟨h1, e⟩
    clear hl
    go_enter Try.func8, Try.ntmps8
    go_wp2
    go_ret
    exact .mk_ (Below.refl _ _)
  · clear hl
    go_enter Try.func8, Try.ntmps8
    go_wp2
    go_ret
    exact .mk_ (Below.refl _ _)
set_option maxHeartbeats 4000000 in
theorem FnPackPrefix_yes (A : Option Addr) (c : Nat) (bs : List Int) (A' : Option Addr) (c' : Nat) (bs' : List Int) (w : World) (h : Code_ w A c bs) (_ : Code_ w A' c' bs') (hl : bs.length ≤ 1048576) (hl' : bs'.length ≤ 1048576) :
    Calls Try.prog 8 #[.slice A bs.length c, .slice A' bs'.length c'] w (Ret (.bool true) w) := by
  go_enter Try.func8, Try.ntmps8
  go_wp2_with fail
  refine (DrawPackMake_any A c bs _ h).mono ?_
  rintro e w1 ⟨A1, c1, list, rfl, h1, hc1, hn17, hmild, b1⟩
  have hf := hmild.fit
  have hn : list.length ≤ 1048576 := by omega
  have HMILD := hid hmild
  clear hmild
  go_wp2_with fail
  refine (implPackMake_any A1 c1 list w1 h1 hn hf).mono ?_
  rintro e w2 ⟨v2, rfl, o2, bb2⟩
  obtain ⟨A2, c2, rfl, e2, hc2⟩ := o2.form
  have h2 := (h1.below bb2 (Nat.le_refl _)).more bb2.size
  have b2 := b1.trans (bb2.mono b1.size)
  clear h1 b1 bb2 o2
  go_wp2_with fail
  refine (specPackMake_any A1 c1 list w2 h2 hn hf).mono ?_
  rintro e w3 ⟨v3, rfl, o3, bb3⟩
  obtain ⟨A3, c3, rfl, e3, hc3⟩ := o3.form
  have h3 := (h2.below bb3 (Nat.le_refl _)).more bb3.size
  have e23 := (e2.below bb3 (Nat.le_refl _)).more bb3.size
  have b3 := b2.trans (bb3.mono b2.size)
  clear h2 b2 bb3 o3 e2
  have pl : (packM list).length ≤ 1048576 := by have := packM_length (list := list); omega
  have same := fun (x : World) (hx : Below w3.heap.size w3 x) => samePack_same A2 A3 c2 c3 (packM list) x ((e23.below hx (Nat.le_refl _)).more hx.size) ((e3.below hx (Nat.le_refl _)).more hx.size) pl (packM_few list)
  have HSM := hid same
  clear same hc3
  go_wp2_with fail
  refine (HSM.out w3 (Below.refl _ _)).mono ?_
  rintro e w4 ⟨rfl, bb4⟩
  have b4 := b3.trans (bb4.mono b3.size)
  have h4 := (h3.below bb4 (Nat.le_refl _)).more bb4.size
  have e4 := (e23.below bb4 (Nat.le_refl _)).more bb4.size
  clear h3 e23 e3 b3
  cases hmk : makeB list
  ·
    go_wp2_with fail
    refine (HSM.out w4 bb4).mono ?_
    rintro e w5 ⟨rfl, bb5⟩
    go_wp2
    go_ret
    exact .mk_ (b4.trans (bb5.mono b4.size))
  · obtain ⟨k, hk⟩ : ∃ k : Nat, Hid (k = bs'.length % (list.length + 1)) := ⟨_, rfl⟩
    have hk3 : k ≤ list.length := by rw [hk.out]; have := Nat.mod_lt bs'.length (show 0 < list.length + 1 by omega); omega
    have EK : Hid (((bs'.length : Nat) : Int) % ((list.length : Int) + 1) = (k : Int)) := by show _ = _; rw [hk.out, Int.natCast_emod, Int.natCast_add]; rfl
    obtain ⟨t1, t2⟩ := make_cut hmk hk3
    have HT1 := hid t1
    have ht : (list.take k).length = k := by rw [List.length_take]; omega
    have C1 := fun (x : World) (hx : Objs x x.heap.size A1 (list.take k)) => implPackMake_any A1 c1 (list.take k) x hx (by omega) (fun o ho => hf o (List.mem_of_mem_take ho))
    rw [ht] at C1
    have D1 := hid C1
    clear C1 t1
    have ek := EK.out
    clear EK hk ht
    have hn16 := (makeB_iff.1 hmk).1
    have k0 : 0 ≤ (k : Int) := by omega
    have k1 : (k : Int) ≤ (list.length : Int) := by omega
    have k2 : (list.length : Int) ≤ (c1 : Int) := by omega
    have k3 : (k : Int) ≤ (c1 : Int) := by omega
    have hlen := packM_len hmk
    have few := packM_few list
    obtain ⟨es, hes⟩ : ∃ es, packM list = es := ⟨_, rfl⟩
    rw [hes] at hlen e4 pl few hc2 t2 ⊢
    have T2 := hid t2
    have he : (es.take k).length = k := by rw [List.length_take]; omega
    have C2 := fun (x : World) (A5 : Option Addr) (c5 : Nat) (hx : Ents x x.heap.size A5 (es.take k)) (hx' : Ents x x.heap.size A2 (es.take k)) => samePack_same A5 A2 c5 c2 (es.take k) x hx hx' (by omega) (fun e he => few e (List.mem_of_mem_take he))
    rw [he] at C2
    have D2 := hid C2
    have k4 : (es.length : Int) ≤ (c2 : Int) := by omega
    have k5 : (k : Int) ≤ (c2 : Int) := by omega
    have HE := hid he
    clear hes hmk C2 t2 he HSM bb4 few
    go_wp2_with fail
    refine (D1.out w4 (h4.take_ k)).mono ?_
    rintro e w5 ⟨v5, rfl, o5, b5⟩
    rw [HT1.out]
    obtain ⟨A5, c5, rfl, e5, _⟩ := o5.form
    rw [T2.out] at e5 ⊢
    rw [HE.out]
    clear o5
    have e6 := ((e4.take_ k).below b5 (Nat.le_refl _)).more b5.size
    go_wp2_with fail
    refine (D2.out w5 A5 c5 e5 e6).mono ?_
    rintro e w6 ⟨rfl, b6⟩
    go_wp2
    go_ret
    exact .mk_ (b4.trans ((b5.trans (b6.mono b5.size)).mono b4.size))
theorem FnPackPrefix_any (A : Option Addr) (c : Nat) (bs : List Int) (A' : Option Addr) (c' : Nat) (bs' : List Int) (w : World) (f1 : Row w w.heap.size A (bs.map (Value.int .u8))) (f2 : bs.length ≤ c) (f3 : c ≤ maxLen) (f4 : ∀ n ∈ bs, 0 ≤ n ∧ n < 256) (g1 : Row w w.heap.size A' (bs'.map (Value.int .u8))) (g2 : bs'.length ≤ c') (g3 : c' ≤ maxLen) (g4 : ∀ n ∈ bs', 0 ≤ n ∧ n < 256) :
    Calls Try.prog 8 #[.slice A bs.length c, .slice A' bs'.length c'] w (Ret (.bool true) w) := by
  by_cases hl : bs.length ≤ 1048576 ∧ bs'.length ≤ 1048576
  · exact FnPackPrefix_yes A c bs A' c' bs' w ⟨f1, f2, f3, f4⟩ ⟨g1, g2, g3, g4⟩ hl.1 hl.2
  · exact FnPackPrefix_no A c bs A' c' bs' w ⟨f1, f2, f3, f4⟩ ⟨g1, g2, g3, g4⟩ hl
end Go.Proofs.Ytpcfabgjdefkiaa
