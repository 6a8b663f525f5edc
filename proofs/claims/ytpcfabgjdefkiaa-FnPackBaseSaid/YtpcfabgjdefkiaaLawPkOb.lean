/-
  Walk of the law that a pack has its objects.
-/
import Derived.Test.YtpcfabgjdefkiaaPkC
import Derived.Test.YtpcfabgjdefkiaaPackO
namespace Go.Proofs.Ytpcfabgjdefkiaa
open Go.RowKit Wo Pu

theorem packObjects_val (A : Option Addr) (n c : Nat) (es : List Ent) (list : List Ob) (w : World) (h : Ents w w.heap.size A es) (hn : es.length ≤ 1048576) (hfe : FitE es) (hb : packB es = true) (ho : packO es = list) (hl : es.length = n) :
    Calls Try.prog 23 #[.slice A n c] w (fun e w' => ∃ v, e = .returned (.tuple #[v, .bool true]) ∧ OwnObs w' w.heap.size v list ∧ Below w.heap.size w w') := by
  subst hl
  refine (implPackObjects_any A c es w h hn hfe).mono ?_
  rintro e w' ⟨v, rfl, h1, h2⟩
  rw [ho] at h1
  exact ⟨v, by rw [hb], h1, h2⟩

theorem FnPack_no (A : Option Addr) (c : Nat) (bs : List Int) (w : World) (h : Code_ w A c bs) (hl : ¬ bs.length ≤ 1048576) :
    Calls Try.prog 3 #[.slice A bs.length c] w (Ret (.bool true) w) := by
  have hc := h.2.1
  have hm := h.2.2.1
  unfold maxLen at hm
  go_enter Try.func3, Try.ntmps3
  go_wp2
  go_ret
  exact .mk_ (Below.refl _ _)
set_option maxHeartbeats 4000000 in
theorem FnPack_yes (A : Option Addr) (c : Nat) (bs : List Int) (w : World) (h : Code_ w A c bs) (hl : bs.length ≤ 1048576) :
    Calls Try.prog 3 #[.slice A bs.length c] w (Ret (.bool true) w) := by
  go_enter Try.func3, Try.ntmps3
  go_wp2_with fail
  refine (DrawPackMake_any A c bs _ h).mono ?_
  rintro e w1 ⟨A1, c1, list, rfl, h1, hc1, hn17, hmild, b1⟩
  have hf := hmild.fit
  have hn : list.length ≤ 1048576 := by omega
  have HMILD := hid hmild
  clear hmild
  go_wp2_with fail
  refine (implPackMake_any A1 c1 list w1 h1 hn hf).mono ?_
  rintro e w2 ⟨v2, rfl, o2, bb2⟩
  obtain ⟨A2, c2, rfl, e2, hc2⟩ := o2.form
  have h2 := (h1.below bb2 (Nat.le_refl _)).more bb2.size
  have b2 := b1.trans (bb2.mono b1.size)
  clear h1 b1 bb2 o2
  go_wp2_with fail
  refine (specPackMake_any A1 c1 list w2 h2 hn hf).mono ?_
  rintro e w3 ⟨v3, rfl, o3, bb3⟩
  obtain ⟨A3, c3, rfl, e3, hc3⟩ := o3.form
  have h3 := (h2.below bb3 (Nat.le_refl _)).more bb3.size
  have e23 := (e2.below bb3 (Nat.le_refl _)).more bb3.size
  have b3 := b2.trans (bb3.mono b2.size)
  clear h2 b2 bb3 o3 e2
  have pl : (packM list).length ≤ 1048576 := by have := packM_length (list := list); omega
  have same := fun (x : World) (hx : Below w3.heap.size w3 x) => samePack_same A2 A3 c2 c3 (packM list) x ((e23.below hx (Nat.le_refl _)).more hx.size) ((e3.below hx (Nat.le_refl _)).more hx.size) pl (packM_few list)
  have HSM := hid same
  clear same hc3
  go_wp2_with fail
  refine (HSM.out w3 (Below.refl _ _)).mono ?_
  rintro e w4 ⟨rfl, bb4⟩
  have b4 := b3.trans (bb4.mono b3.size)
  have h4 := (h3.below bb4 (Nat.le_refl _)).more bb4.size
  have e4 := (e23.below bb4 (Nat.le_refl _)).more bb4.size
  clear h3 e23 e3 b3
  cases hmk : makeB list
  ·
    go_wp2_with fail
    refine (HSM.out w4 bb4).mono ?_
    rintro e w5 ⟨rfl, bb5⟩
    go_wp2
    go_ret
    exact .mk_ (b4.trans (bb5.mono b4.size))
  · have HPM := hid (pack_made hmk)
    have HMK := hid hmk
    have hlen := packM_len hmk
    have few := packM_few list
    have fit := packM_fit list
    obtain ⟨es, hes⟩ : ∃ es, packM list = es := ⟨_, rfl⟩
    rw [hes] at hlen e4 pl few fit hc2 ⊢
    have HES := hid hes
    clear hes hmk
    go_wp2_with fail
    have HB : Hid (packB es = true) := by show _ = _; rw [← HES.out]; exact HPM.out.1
    have HO : Hid (packO es = list) := by show _ = _; rw [← HES.out]; exact HPM.out.2
    clear HPM HSM bb4 few hc2
    refine (packObjects_val A2 list.length c2 es list w4 e4 pl fit HB.out HO.out hlen).mono ?_
    rintro e w5 ⟨v5, rfl, o5, b5⟩
    obtain ⟨A5, c5, rfl, h5⟩ := o5.form
    have h45 := (h4.below b5 (Nat.le_refl _)).more b5.size
    have hzz : ∀ o ∈ list, o.zs.length ≤ 1048576 := fun o ho => by have := (HMILD.out o ho).1; omega
    go_wp2_with fail
    refine (sameObjectsP_same A5 A1 c5 c1 list w5 h5 h45 hn hzz).mono ?_
    rintro e w6 ⟨rfl, b6⟩
    go_wp2
    go_ret
    exact .mk_ (b4.trans ((b5.trans (b6.mono b5.size)).mono b4.size))
theorem FnPack_any (A : Option Addr) (c : Nat) (bs : List Int) (w : World) (f1 : Row w w.heap.size A (bs.map (Value.int .u8))) (f2 : bs.length ≤ c) (f3 : c ≤ maxLen) (f4 : ∀ n ∈ bs, 0 ≤ n ∧ n < 256) :
    Calls Try.prog 3 #[.slice A bs.length c] w (Ret (.bool true) w) := by
  by_cases hl : bs.length ≤ 1048576
  · exact FnPack_yes A c bs w ⟨f1, f2, f3, f4⟩ hl
  · exact FnPack_no A c bs w ⟨f1, f2, f3, f4⟩ hl
end Go.Proofs.Ytpcfabgjdefkiaa
