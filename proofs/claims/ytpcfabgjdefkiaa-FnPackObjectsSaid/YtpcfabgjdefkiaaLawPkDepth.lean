/-
  Walk of the law that no text depends on too many deltas.
-/
import Derived.Test.YtpcfabgjdefkiaaPkC
import Derived.Test.YtpcfabgjdefkiaaPackD
namespace Go.Proofs.Ytpcfabgjdefkiaa
open Go.RowKit Wo Pu

theorem packDepth_val (v : Int) (A : Option Addr) (n c : Nat) (es : List Ent) (i : Int) (w : World) (h : Ents w w.heap.size A es) (hn : es.length ≤ 1048576) (hfe : FitE es) (hv : pDep es i = v) (hl : es.length = n) :
    Calls Try.prog 25 #[.slice A n c, .int .i64 i] w (Ret (.int .i64 v) w) := by
  subst hv hl
  exact implPackDepth_any A c es i w h hn hfe
theorem packM_bas {list : List Ob} {es : List Ent} (h : makeB list = true) (he : packM list = es) : Bas es ∧ basB es = true ∧ ∀ i, i < es.length → dep es i ≤ 2 := by
  rw [packM_yes h] at he
  subst he
  have hb := ents_bas (list := list) (Nat.le_refl _)
  exact ⟨hb, basB_iff.2 hb, fun i hi => ents_dep (Nat.le_refl _) i (by rw [ents_length (Nat.le_refl _)] at hi; exact hi)⟩

theorem FnPackDepth_no (A : Option Addr) (c : Nat) (bs : List Int) (w : World) (h : Code_ w A c bs) (hl : ¬ bs.length ≤ 1048576) :
    Calls Try.prog 4 #[.slice A bs.length c] w (Ret (.bool true) w) := by
  have hc := h.2.1
  have hm := h.2.2.1
  unfold maxLen at hm
  go_enter Try.func4, Try.ntmps4
  go_wp2
  go_ret
  exact .mk_ (Below.refl _ _)
set_option maxHeartbeats 4000000 in
theorem FnPackDepth_yes (A : Option Addr) (c : Nat) (bs : List Int) (w : World) (h : Code_ w A c bs) (hl : bs.length ≤ 1048576) :
    Calls Try.prog 4 #[.slice A bs.length c] w (Ret (.bool true) w) := by
  go_enter Try.func4, Try.ntmps4
  go_wp2_with fail
  refine (DrawPackMake_any A c bs _ h).mono ?_
  rintro e w1 ⟨A1, c1, list, rfl, h1, hc1, hn17, hmild, b1⟩
  have hf := hmild.fit
  have hn : list.length ≤ 1048576 := by omega
  have HMILD := hid hmild
  clear hmild
  go_wp2_with fail
  refine (implPackMake_any A1 c1 list w1 h1 hn hf).mono ?_
  rintro e w2 ⟨v2, rfl, o2, bb2⟩
  obtain ⟨A2, c2, rfl, e2, hc2⟩ := o2.form
  have h2 := (h1.below bb2 (Nat.le_refl _)).more bb2.size
  have b2 := b1.trans (bb2.mono b1.size)
  clear h1 b1 bb2 o2
  go_wp2_with fail
  refine (specPackMake_any A1 c1 list w2 h2 hn hf).mono ?_
  rintro e w3 ⟨v3, rfl, o3, bb3⟩
  obtain ⟨A3, c3, rfl, e3, hc3⟩ := o3.form
  have h3 := (h2.below bb3 (Nat.le_refl _)).more bb3.size
  have e23 := (e2.below bb3 (Nat.le_refl _)).more bb3.size
  have b3 := b2.trans (bb3.mono b2.size)
  clear h2 b2 bb3 o3 e2
  have pl : (packM list).length ≤ 1048576 := by have := packM_length (list := list); omega
  have same := fun (x : World) (hx : Below w3.heap.size w3 x) => samePack_same A2 A3 c2 c3 (packM list) x ((e23.below hx (Nat.le_refl _)).more hx.size) ((e3.below hx (Nat.le_refl _)).more hx.size) pl (packM_few list)
  have HSM := hid same
  clear same hc3
  go_wp2_with fail
  refine (HSM.out w3 (Below.refl _ _)).mono ?_
  rintro e w4 ⟨rfl, bb4⟩
  have b4 := b3.trans (bb4.mono b3.size)
  have h4 := (h3.below bb4 (Nat.le_refl _)).more bb4.size
  have e4 := (e23.below bb4 (Nat.le_refl _)).more bb4.size
  clear h3 e23 e3 b3
  cases hmk : makeB list
  ·
    go_wp2_with fail
    refine (HSM.out w4 bb4).mono ?_
    rintro e w5 ⟨rfl, bb5⟩
    go_wp2
    go_ret
    exact .mk_ (b4.trans (bb5.mono b4.size))
  ·
    have HMK := hid hmk
    have hlen := packM_len hmk
    have few := packM_few list
    have fit := packM_fit list
    obtain ⟨es, hes⟩ : ∃ es, packM list = es := ⟨_, rfl⟩
    rw [hes] at hlen e4 pl few fit hc2 ⊢
    have HES := hid hes
    clear hes hmk
    go_wp2_with fail
    clear HSM bb4 few
    have hBAS := hid (packM_bas HMK.out HES.out)
    have HFIT := hid fit
    clear fit h4
    go_loopw [8] (fun i wr => ∃ k : Nat, k ≤ es.length ∧ i = .int .i64 k ∧ Below w4.heap.size w4 wr) (fun i _ => es.length - (intOf i).toNat)
    case atStart => exact ⟨0, Nat.zero_le _, rfl, Below.refl _ _⟩
    case round =>
      obtain ⟨k, hk, rfl, hb⟩ := hrel
      by_cases hlt : k < es.length
      · have e5 := (e4.below hb (Nat.le_refl _)).more hb.size
        obtain ⟨d, hd⟩ : ∃ d, dep es k = d := ⟨_, rfl⟩
        have hd2 := hBAS.out.2.2 k hlt
        rw [hd] at hd2
        have HP : Hid (pDep es (k : Int) = (d : Int)) := by show _ = _; rw [pDep_yes hBAS.out.2.1 hlt, hd]
        have HD := hid hd
        have hlm : es.length ≤ 1048576 := pl
        obtain ⟨e, ad, Ae, ce, Ao, co, he, rfl, ha, g0, g1, g2, g3, g4, g5⟩ := (e4.below hb (Nat.le_refl _)).ent hlt
        have hbr := hBAS.out.1 k hlt
        rw [he] at hbr
        have HE := hid he
        have i0 : 0 ≤ (k : Int) := by omega
        have i1 : (k : Int) < (es.length : Int) := by omega
        have hz := hb.size
        clear hd he g0 g1 g3 g4 g5
        have e0 := e4
        go_wp2_with fail
        refine (packDepth_val (d : Int) (some ad) list.length c2 es (k : Int) wr e5 hlm HFIT.out HP.out hlen).mono ?_
        rintro e w5 ⟨rfl, hb5⟩
        have q2 := (hb5.cell (p := ⟨(ad.add (k * 4)).block, (ad.add (k * 4)).off + 2, none⟩) (Nat.lt_of_lt_of_le ha hz)).trans g2
        have h5 := hb.trans (hb5.mono hz)
        have e6 := (e0.below h5 (Nat.le_refl _)).more h5.size
        clear g2 hb5 hb e5
        have d0 : ¬ (d : Int) < 0 := by omega
        have d2 : ¬ 2 < (d : Int) := by omega
        by_cases hb0 : 0 ≤ e.b
        · obtain ⟨b, hbb⟩ : ∃ b : Nat, e.b = (b : Int) := ⟨e.b.toNat, by omega⟩
          rw [hbb] at q2 hbr hb0
          have hbl : b < es.length := by omega
          have hst : dep es k = dep es b + 1 := by
            have h0 : 0 ≤ es[k].b := by rw [HE.out, hbb]; exact hb0
            rw [dep_step hBAS.out.1 hlt h0, HE.out, hbb]
            rfl
          obtain ⟨d', hd'⟩ : ∃ d', dep es b = d' := ⟨_, rfl⟩
          have hdd : d = d' + 1 := by rw [← HD.out, hst, hd']
          have HP2 : Hid (pDep es (b : Int) = (d' : Int)) := by show _ = _; rw [pDep_yes hBAS.out.2.1 hbl, hd']
          clear hst hd' hbb
          have b0 : ¬ (b : Int) < 0 := by omega
          subst hdd
          go_wp2_with fail
          refine (packDepth_val (d' : Int) (some ad) list.length c2 es (b : Int) w5 e6 hlm HFIT.out HP2.out hlen).mono ?_
          rintro e w6 ⟨rfl, hb6⟩
          go_wp2_with fail
          go_roundw
          case rel => exact ⟨k + 1, by omega, by go_num, h5.trans (hb6.mono h5.size)⟩
          case measure => simp [intOf]; omega
        · have hb1 : e.b < 0 := by omega
          have hd0 : d = 0 := by rw [← HD.out]; exact dep_base hlt (by rw [HE.out]; exact hb1)
          subst hd0
          go_wp2_with fail
          go_roundw
          case rel => exact ⟨k + 1, by omega, by go_num, h5⟩
          case measure => simp [intOf]; omega
      · have hk' : k = es.length := by omega
        subst hk'
        go_wp2
        go_ret
        exact .mk_ (b4.trans (hb.mono b4.size))
theorem FnPackDepth_any (A : Option Addr) (c : Nat) (bs : List Int) (w : World) (f1 : Row w w.heap.size A (bs.map (Value.int .u8))) (f2 : bs.length ≤ c) (f3 : c ≤ maxLen) (f4 : ∀ n ∈ bs, 0 ≤ n ∧ n < 256) :
    Calls Try.prog 4 #[.slice A bs.length c] w (Ret (.bool true) w) := by
  by_cases hl : bs.length ≤ 1048576
  · exact FnPackDepth_yes A c bs w ⟨f1, f2, f3, f4⟩ hl
  · exact FnPackDepth_no A c bs w ⟨f1, f2, f3, f4⟩ hl
end Go.Proofs.Ytpcfabgjdefkiaa
