/-
  Walk of the law that a pack keeps kinds and links.
-/
import Derived.Test.YtpcfabgjdefkiaaPkC
namespace Go.Proofs.Ytpcfabgjdefkiaa
open Go.RowKit Wo Pu

theorem FnPackKinds_no (A : Option Addr) (c : Nat) (bs : List Int) (w : World) (h : Code_ w A c bs) (hl : ¬ bs.length ≤ 1048576) :
    Calls Try.prog 12 #[.slice A bs.length c] w (Ret (.bool true) w) := by
  have hc := h.2.1
  have hm := h.2.2.1
  unfold maxLen at hm
  go_enter Try.func12, Try.ntmps12
  go_wp2
  go_ret
  exact .mk_ (Below.refl _ _)
set_option maxHeartbeats 4000000 in
theorem FnPackKinds_yes (A : Option Addr) (c : Nat) (bs : List Int) (w : World) (h : Code_ w A c bs) (hl : bs.length ≤ 1048576) :
    Calls Try.prog 12 #[.slice A bs.length c] w (Ret (.bool true) w) := by
  go_enter Try.func12, Try.ntmps12
  go_wp2_with fail
  refine (DrawPackMake_any A c bs _ h).mono ?_
  rintro e w1 ⟨A1, c1, list, rfl, h1, hc1, hn17, hmild, b1⟩
  have hf := hmild.fit
  have hn : list.length ≤ 1048576 := by omega
  have HMILD := hid hmild
  clear hmild
  go_wp2_with fail
  refine (implPackMake_any A1 c1 list w1 h1 hn hf).mono ?_
  rintro e w2 ⟨v2, rfl, o2, bb2⟩
  obtain ⟨A2, c2, rfl, e2, hc2⟩ := o2.form
  have h2 := (h1.below bb2 (Nat.le_refl _)).more bb2.size
  have b2 := b1.trans (bb2.mono b1.size)
  clear h1 b1 bb2 o2
  go_wp2_with fail
  refine (specPackMake_any A1 c1 list w2 h2 hn hf).mono ?_
  rintro e w3 ⟨v3, rfl, o3, bb3⟩
  obtain ⟨A3, c3, rfl, e3, hc3⟩ := o3.form
  have h3 := (h2.below bb3 (Nat.le_refl _)).more bb3.size
  have e23 := (e2.below bb3 (Nat.le_refl _)).more bb3.size
  have b3 := b2.trans (bb3.mono b2.size)
  clear h2 b2 bb3 o3 e2
  have pl : (packM list).length ≤ 1048576 := by have := packM_length (list := list); omega
  have same := fun (x : World) (hx : Below w3.heap.size w3 x) => samePack_same A2 A3 c2 c3 (packM list) x ((e23.below hx (Nat.le_refl _)).more hx.size) ((e3.below hx (Nat.le_refl _)).more hx.size) pl (packM_few list)
  have HSM := hid same
  clear same hc3
  go_wp2_with fail
  refine (HSM.out w3 (Below.refl _ _)).mono ?_
  rintro e w4 ⟨rfl, bb4⟩
  have b4 := b3.trans (bb4.mono b3.size)
  have h4 := (h3.below bb4 (Nat.le_refl _)).more bb4.size
  have e4 := (e23.below bb4 (Nat.le_refl _)).more bb4.size
  clear h3 e23 e3 b3
  cases hmk : makeB list
  ·
    go_wp2_with fail
    refine (HSM.out w4 bb4).mono ?_
    rintro e w5 ⟨rfl, bb5⟩
    go_wp2
    go_ret
    exact .mk_ (b4.trans (bb5.mono b4.size))
  ·
    have HMK := hid hmk
    have hlen := packM_len hmk
    have few := packM_few list
    have fit := packM_fit list
    obtain ⟨es, hes⟩ : ∃ es, packM list = es := ⟨_, rfl⟩
    rw [hes] at hlen e4 pl few fit hc2 ⊢
    have HES := hid hes
    clear hes hmk
    go_wp2_with fail
    clear HSM bb4 few fit hc2
    go_loopw [8] (fun i wr => ∃ k : Nat, k ≤ es.length ∧ i = .int .i64 k ∧ Below w4.heap.size w4 wr) (fun i _ => es.length - (intOf i).toNat)
    case atStart => exact ⟨0, Nat.zero_le _, rfl, Below.refl _ _⟩
    case round =>
      obtain ⟨k, hk, rfl, hb⟩ := hrel
      by_cases hlt : k < es.length
      · have hkl : k < list.length := by omega
        obtain ⟨e, ad, Ae, ce, Ao, co, he, rfl, ha, g0, g1, g2, g3, g4, g5⟩ := (e4.below hb (Nat.le_refl _)).ent hlt
        obtain ⟨o, ad2, A', c', ho, rfl, ha2, k0, k1, k2, k3⟩ := (h4.below hb (Nat.le_refl _)).obj hkl
        obtain ⟨_, _, hg⟩ := packM_at HES.out hlt
        rw [he, ho] at hg
        have hkd : e.kd = o.kd := by rw [hg]; rfl
        have hzs : e.zs = o.zs := by rw [hg]; rfl
        rw [hkd] at g0
        rw [hzs] at g1 g4
        have hfo := (hf o (by rw [← ho]; exact List.getElem_mem hkl)).1
        have i0 : 0 ≤ (k : Int) := by omega
        have i1 : (k : Int) < (es.length : Int) := by omega
        have i2 : (k : Int) < (list.length : Int) := by omega
        have hz := hb.size
        have G0 := Later.cell g0 ha
        have G1 := Later.cell (p := ⟨(ad.add (k * 4)).block, (ad.add (k * 4)).off + 1, none⟩) g1 ha
        have K0 := Later.cell k0 ha2
        have K1 := Later.cell (p := ⟨(ad2.add (k * 3)).block, (ad2.add (k * 3)).off + 1, none⟩) k1 ha2
        clear he ho g0 g1 g2 g3 k0 k1 k2 hg hkd hzs g5
        go_wp2_with fail
        refine wp_region_later w4.heap.size (by kernel_rfl) (by kernel_rfl) ?_
        repeat (go_big_quiet_step ((go_at_call 32; exact Later.call hz _ (sameIntsP_same w4.heap.size w4.heap.size Ae A' ce c' o.zs _ (g4.later _) (k3.later _) hfo))))
        refine wpQuiet_nil ?_
        intro _ hw'
        obtain ⟨xx, hxx⟩ := hw'
        have hbx := xx.b
        subst hxx
        go_wp2
        go_roundw
        case rel => exact ⟨k + 1, by omega, by go_num, hb.trans hbx⟩
        case measure => simp [intOf]; omega
      · have hk' : k = es.length := by omega
        subst hk'
        have e0 : ((es.length : Int) == (list.length : Int)) = true := by rw [beq_iff_eq]; omega
        go_wp2
        go_ret
        exact .mk_ (b4.trans (hb.mono b4.size))
theorem FnPackKinds_any (A : Option Addr) (c : Nat) (bs : List Int) (w : World) (f1 : Row w w.heap.size A (bs.map (Value.int .u8))) (f2 : bs.length ≤ c) (f3 : c ≤ maxLen) (f4 : ∀ n ∈ bs, 0 ≤ n ∧ n < 256) :
    Calls Try.prog 12 #[.slice A bs.length c] w (Ret (.bool true) w) := by
  by_cases hl : bs.length ≤ 1048576
  · exact FnPackKinds_yes A c bs w ⟨f1, f2, f3, f4⟩ hl
  · exact FnPackKinds_no A c bs w ⟨f1, f2, f3, f4⟩ hl
end Go.Proofs.Ytpcfabgjdefkiaa
