/-
  Walk of the law that a delta is used only if it is smaller.
-/
import Derived.Test.YtpcfabgjdefkiaaPkC
namespace Go.Proofs.Ytpcfabgjdefkiaa
open Go.RowKit Wo Pu

theorem mkE_small (out : List Ent) (list : List Ob) (o : Ob) : dsz (mkE out list o).ops ≤ dsz (dMake ⟨#[]⟩ o.s) ∧ (0 ≤ (mkE out list o).b → dsz (mkE out list o).ops < dsz (dMake ⟨#[]⟩ o.s)) := by
  obtain ⟨_, _, h3, h4, h5, _⟩ := bestF_is out list o.s out.length
  have e : dsz (mkE out list o).ops = (bestF out list o.s out.length).2 := h3.symm
  rw [e]
  exact ⟨h5, fun h => (h4 h).2⟩
theorem implSize_val (n : Nat) (A : Option Addr) (c : Nat) (os : List Op2) (w : World) (h : Row w w.heap.size A (opsV os)) (hn : os.length ≤ 1048576) (ht : tsz os os.length ≤ 1048576) (hd : dsz os = n) :
    Calls Try.prog 26 #[.slice A os.length c] w (Ret (.int .i64 n) w) := by
  subst hd
  exact implDeltaSize_any A c os w h hn ht

theorem FnPackSmall_no (A : Option Addr) (c : Nat) (bs : List Int) (w : World) (h : Code_ w A c bs) (hl : ¬ bs.length ≤ 1048576) :
    Calls Try.prog 5 #[.slice A bs.length c] w (Ret (.bool true) w) := by
  have hc := h.2.1
  have hm := h.2.2.1
  unfold maxLen at hm
  go_enter Try.func5, Try.ntmps5
  go_wp2
  go_ret
  exact .mk_ (Below.refl _ _)
set_option maxHeartbeats 4000000 in
theorem FnPackSmall_yes (A : Option Addr) (c : Nat) (bs : List Int) (w : World) (h : Code_ w A c bs) (hl : bs.length ≤ 1048576) :
    Calls Try.prog 5 #[.slice A bs.length c] w (Ret (.bool true) w) := by
  go_enter Try.func5, Try.ntmps5
  go_wp2_with fail
  refine (DrawPackMake_any A c bs _ h).mono ?_
  rintro e w1 ⟨A1, c1, list, rfl, h1, hc1, hn17, hmild, b1⟩
  have hf := hmild.fit
  have hn : list.length ≤ 1048576 := by omega
  have HMILD := hid hmild
  clear hmild
  go_wp2_with fail
  refine (implPackMake_any A1 c1 list w1 h1 hn hf).mono ?_
  rintro e w2 ⟨v2, rfl, o2, bb2⟩
  obtain ⟨A2, c2, rfl, e2, hc2⟩ := o2.form
  have h2 := (h1.below bb2 (Nat.le_refl _)).more bb2.size
  have b2 := b1.trans (bb2.mono b1.size)
  clear h1 b1 bb2 o2
  go_wp2_with fail
  refine (specPackMake_any A1 c1 list w2 h2 hn hf).mono ?_
  rintro e w3 ⟨v3, rfl, o3, bb3⟩
  obtain ⟨A3, c3, rfl, e3, hc3⟩ := o3.form
  have h3 := (h2.below bb3 (Nat.le_refl _)).more bb3.size
  have e23 := (e2.below bb3 (Nat.le_refl _)).more bb3.size
  have b3 := b2.trans (bb3.mono b2.size)
  clear h2 b2 bb3 o3 e2
  have pl : (packM list).length ≤ 1048576 := by have := packM_length (list := list); omega
  have same := fun (x : World) (hx : Below w3.heap.size w3 x) => samePack_same A2 A3 c2 c3 (packM list) x ((e23.below hx (Nat.le_refl _)).more hx.size) ((e3.below hx (Nat.le_refl _)).more hx.size) pl (packM_few list)
  have HSM := hid same
  clear same hc3
  go_wp2_with fail
  refine (HSM.out w3 (Below.refl _ _)).mono ?_
  rintro e w4 ⟨rfl, bb4⟩
  have b4 := b3.trans (bb4.mono b3.size)
  have h4 := (h3.below bb4 (Nat.le_refl _)).more bb4.size
  have e4 := (e23.below bb4 (Nat.le_refl _)).more bb4.size
  clear h3 e23 e3 b3
  cases hmk : makeB list
  ·
    go_wp2_with fail
    refine (HSM.out w4 bb4).mono ?_
    rintro e w5 ⟨rfl, bb5⟩
    go_wp2
    go_ret
    exact .mk_ (b4.trans (bb5.mono b4.size))
  ·
    have HMK := hid hmk
    have hlen := packM_len hmk
    have few := packM_few list
    have fit := packM_fit list
    obtain ⟨es, hes⟩ : ∃ es, packM list = es := ⟨_, rfl⟩
    rw [hes] at hlen e4 pl few fit hc2 ⊢
    have HES := hid hes
    clear hes hmk
    go_wp2_with fail
    clear HSM bb4 few hc2
    go_loopw [8] (fun i wr => ∃ k : Nat, k ≤ es.length ∧ i = .int .i64 k ∧ Below w4.heap.size w4 wr) (fun i _ => es.length - (intOf i).toNat)
    case atStart => exact ⟨0, Nat.zero_le _, rfl, Below.refl _ _⟩
    case round =>
      obtain ⟨k, hk, rfl, hb⟩ := hrel
      by_cases hlt : k < es.length
      · have hkl : k < list.length := by omega
        obtain ⟨e, ad, Ae, ce, Ao, co, he, rfl, ha, g0, g1, g2, g3, g4, g5⟩ := (e4.below hb (Nat.le_refl _)).ent hlt
        obtain ⟨o, ad2, A', c', ho, rfl, ha2, k0, k1, k2, k3⟩ := (h4.below hb (Nat.le_refl _)).obj hkl
        obtain ⟨_, _, hg⟩ := packM_at HES.out hlt
        rw [he, ho] at hg
        have hsm := mkE_small (ents list k) list o
        rw [← hg] at hsm
        have hfo := (HMILD.out o (by rw [← ho]; exact List.getElem_mem hkl)).2
        have hfe := fit e (by rw [← he]; exact List.getElem_mem hlt)
        have i0 : 0 ≤ (k : Int) := by omega
        have i1 : (k : Int) < (es.length : Int) := by omega
        have i2 : (k : Int) < (list.length : Int) := by omega
        have hz := hb.size
        obtain ⟨n, hnn⟩ : ∃ n, dsz e.ops = n := ⟨_, rfl⟩
        obtain ⟨m, hmm⟩ : ∃ m, dsz (dMake ⟨#[]⟩ o.s) = m := ⟨_, rfl⟩
        have hm9 := dsz_small ⟨#[]⟩ o.s
        rw [hnn, hmm] at hsm
        rw [hmm] at hm9
        have HNN := hid hnn
        have HMM := hid hmm
        clear he ho hg hnn hmm k0 k1 g0 g1 g4
        go_wp2_with fail
        refine (implSize_val n Ao co e.ops wr (g5.more hz) hfe.2.1 hfe.2.2.2.1 HNN.out).mono ?_
        rintro e w5 ⟨rfl, hb5⟩
        have hb5' := hb.trans (hb5.mono hz)
        have K2 := (hb5'.cell (p := ⟨(ad2.add (k * 3)).block, (ad2.add (k * 3)).off + 2, none⟩) ha2).symm
        have q2 := (hb5.cell (p := ⟨(ad2.add (k * 3)).block, (ad2.add (k * 3)).off + 2, none⟩) (Nat.lt_of_lt_of_le ha2 hz)).trans k2
        have z5 := hb5'.size
        clear K2 k2 k3 g3 g5
        go_wp2_with fail
        refine (implDeltaMake_any ⟨#[]⟩ o.s w5 (by decide) (by omega)).mono ?_
        rintro e w6 ⟨v6, rfl, o6, b6⟩
        obtain ⟨A6, c6, rfl, r6, _⟩ := o6.form
        go_wp2_with fail
        refine (deltaSize_val m A6 c6 ⟨#[]⟩ o.s w6 r6 HMM.out).mono ?_
        rintro e w7 ⟨rfl, b7⟩
        have hb6 := hb5'.trans (b6.mono z5)
        have hb7 := hb6.trans (b7.mono hb6.size)
        have h57 := hb5.trans ((b6.mono hb5.size).trans (b7.mono (Nat.le_trans hb5.size b6.size)))
        have q3 := (h57.cell (p := ⟨(ad.add (k * 4)).block, (ad.add (k * 4)).off + 2, none⟩) (Nat.lt_of_lt_of_le ha hz)).trans g2
        clear o6 r6 b6 b7 hb6 h57 g2 q2 hb5 hb5' hb
        have c1 : ¬ (m : Int) < (n : Int) := by omega
        by_cases hb0 : 0 ≤ e.b
        · have c2 : ((n : Int) == (m : Int)) = false := by rw [beq_eq_false_iff_ne]; have := hsm.2 hb0; omega
          go_wp2_with fail
          go_roundw
          case rel => exact ⟨k + 1, by omega, by go_num, hb7⟩
          case measure => simp [intOf]; omega
        · go_wp2_with fail
          go_roundw
          case rel => exact ⟨k + 1, by omega, by go_num, hb7⟩
          case measure => simp [intOf]; omega
      · have hk' : k = es.length := by omega
        subst hk'
        go_wp2
        go_ret
        exact .mk_ (b4.trans (hb.mono b4.size))
theorem FnPackSmall_any (A : Option Addr) (c : Nat) (bs : List Int) (w : World) (f1 : Row w w.heap.size A (bs.map (Value.int .u8))) (f2 : bs.length ≤ c) (f3 : c ≤ maxLen) (f4 : ∀ n ∈ bs, 0 ≤ n ∧ n < 256) :
    Calls Try.prog 5 #[.slice A bs.length c] w (Ret (.bool true) w) := by
  by_cases hl : bs.length ≤ 1048576
  · exact FnPackSmall_yes A c bs w ⟨f1, f2, f3, f4⟩ hl
  · exact FnPackSmall_no A c bs w ⟨f1, f2, f3, f4⟩ hl
end Go.Proofs.Ytpcfabgjdefkiaa
