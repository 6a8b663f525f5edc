/-
  Walk of the law that the smallest delta is used.
-/
import Derived.Test.YtpcfabgjdefkiaaLawPkDepth
import Derived.Test.YtpcfabgjdefkiaaLawPkSmall
import Derived.Deep.RegionHeld3
namespace Go.Proofs.Ytpcfabgjdefkiaa
open Go.RowKit Wo Pu

theorem packM_best {list : List Ob} {es : List Ent} (h : makeB list = true) (he : packM list = es) {i k : Nat} (hi : i < list.length) (hie : i < es.length) (hk : k < i) (hd : dep es k < 2) :
    dsz es[i].ops ≤ dsz (dMake (list[k]'(by omega)).s list[i].s) := by
  obtain ⟨_, _, hg⟩ := packM_at he hie
  have hb := (packM_bas h he).1
  have ht : es.take i = ents list i := by
    rw [← he, packM_yes h]
    exact ents_take (by omega) (Nat.le_refl _)
  obtain ⟨_, _, h3, _, _, h6⟩ := bestF_is (ents list i) list list[i].s (ents list i).length
  have hdk : dep (ents list i) k < 2 := by rw [← ht, dep_take hb (by omega) hk]; exact hd
  have h7 := h6 k (by rw [ents_length (by omega)]; exact hk) hdk
  rw [txt_some (by omega)] at h7
  rw [hg]
  show dsz (dMake _ _) ≤ _
  rw [← h3]
  exact h7

theorem FnPackBest_no (A : Option Addr) (c : Nat) (bs : List Int) (w : World) (h : Code_ w A c bs) (hl : ¬ bs.length ≤ 1048576) :
    Calls Try.prog 6 #[.slice A bs.length c] w (Ret (.bool true) w) := by
  have hc := h.2.1
  have hm := h.2.2.1
  unfold maxLen at hm
  go_enter Try.func6, Try.ntmps6
  go_wp2
  go_ret
  exact .mk_ (Below.refl _ _)
set_option maxHeartbeats 8000000 in
theorem FnPackBest_yes (A : Option Addr) (c : Nat) (bs : List Int) (w : World) (h : Code_ w A c bs) (hl : bs.length ≤ 1048576) :
    Calls Try.prog 6 #[.slice A bs.length c] w (Ret (.bool true) w) := by
  go_enter Try.func6, Try.ntmps6
  go_wp2_with fail
  refine (DrawPackMake_any A c bs _ h).mono ?_
  rintro e w1 ⟨A1, c1, list, rfl, h1, hc1, hn17, hmild, b1⟩
  have hf := hmild.fit
  have hn : list.length ≤ 1048576 := by omega
  have HMILD := hid hmild
  clear hmild
  go_wp2_with fail
  refine (implPackMake_any A1 c1 list w1 h1 hn hf).mono ?_
  rintro e w2 ⟨v2, rfl, o2, bb2⟩
  obtain ⟨A2, c2, rfl, e2, hc2⟩ := o2.form
  have h2 := (h1.below bb2 (Nat.le_refl _)).more bb2.size
  have b2 := b1.trans (bb2.mono b1.size)
  clear h1 b1 bb2 o2
  go_wp2_with fail
  refine (specPackMake_any A1 c1 list w2 h2 hn hf).mono ?_
  rintro e w3 ⟨v3, rfl, o3, bb3⟩
  obtain ⟨A3, c3, rfl, e3, hc3⟩ := o3.form
  have h3 := (h2.below bb3 (Nat.le_refl _)).more bb3.size
  have e23 := (e2.below bb3 (Nat.le_refl _)).more bb3.size
  have b3 := b2.trans (bb3.mono b2.size)
  clear h2 b2 bb3 o3 e2
  have pl : (packM list).length ≤ 1048576 := by have := packM_length (list := list); omega
  have same := fun (x : World) (hx : Below w3.heap.size w3 x) => samePack_same A2 A3 c2 c3 (packM list) x ((e23.below hx (Nat.le_refl _)).more hx.size) ((e3.below hx (Nat.le_refl _)).more hx.size) pl (packM_few list)
  have HSM := hid same
  clear same hc3
  go_wp2_with fail
  refine (HSM.out w3 (Below.refl _ _)).mono ?_
  rintro e w4 ⟨rfl, bb4⟩
  have b4 := b3.trans (bb4.mono b3.size)
  have h4 := (h3.below bb4 (Nat.le_refl _)).more bb4.size
  have e4 := (e23.below bb4 (Nat.le_refl _)).more bb4.size
  clear h3 e23 e3 b3
  cases hmk : makeB list
  ·
    go_wp2_with fail
    refine (HSM.out w4 bb4).mono ?_
    rintro e w5 ⟨rfl, bb5⟩
    go_wp2
    go_ret
    exact .mk_ (b4.trans (bb5.mono b4.size))
  ·
    have HMK := hid hmk
    have hlen := packM_len hmk
    have few := packM_few list
    have fit := packM_fit list
    obtain ⟨es, hes⟩ : ∃ es, packM list = es := ⟨_, rfl⟩
    rw [hes] at hlen e4 pl few fit hc2 ⊢
    have HES := hid hes
    clear hes hmk
    go_wp2_with fail
    clear HSM bb4 few
    have hBAS := hid (packM_bas HMK.out HES.out)
    have HFIT := hid fit
    clear fit
    go_loopw [8, 9] (fun i _ wr => ∃ k : Nat, k ≤ es.length ∧ i = .int .i64 k ∧ Below w4.heap.size w4 wr) (fun i _ _ => es.length - (intOf i).toNat)
    case atStart => exact ⟨0, Nat.zero_le _, rfl, Below.refl _ _⟩
    case round =>
      obtain ⟨i, hi, rfl, hb⟩ := hrel
      by_cases hlt : i < es.length
      · have hil : i < list.length := by omega
        have ie0 : 0 ≤ (i : Int) := by omega
        have ie1 : (i : Int) < (es.length : Int) := by omega
        have ie2 : (i : Int) < (list.length : Int) := by omega
        obtain ⟨e, ad, Ae, ce, Ao, co, he, rfl, ha, g0, g1, g2, g3, g4, g5⟩ := e4.ent hlt
        obtain ⟨o, ad2, A', c', ho, rfl, ha2, k0, k1, k2, k3⟩ := h4.obj hil
        have hfo := (HMILD.out o (by rw [← ho]; exact List.getElem_mem hil)).2
        have hfe := HFIT.out e (by rw [← he]; exact List.getElem_mem hlt)
        obtain ⟨n, hnn⟩ : ∃ n, dsz e.ops = n := ⟨_, rfl⟩
        have HNN := hid hnn
        have HE := hid he
        have HO := hid ho
        clear hnn g0 g1 g2 g4 k0 k1 k3 he ho
        go_wp2_with fail
        go_loopw [9] (fun j wr => ∃ k : Nat, k ≤ i ∧ j = .int .i64 k ∧ Below w4.heap.size w4 wr) (fun j _ => i - (intOf j).toNat)
        case atStart => exact ⟨0, Nat.zero_le _, rfl, hb⟩
        case round =>
          obtain ⟨k, hk, rfl, hbk⟩ := hrel
          by_cases hki : k < i
          · have hkl : k < list.length := by omega
            have hke : k < es.length := by omega
            obtain ⟨p, ad3, A3', c3', hp, hA3, ha3, -, -, q2, -⟩ := h4.obj hkl
            injection hA3 with hA3
            subst hA3
            have hfp := (HMILD.out p (by rw [← hp]; exact List.getElem_mem hkl)).2
            obtain ⟨d, hd⟩ : ∃ d, dep es k = d := ⟨_, rfl⟩
            have HP : Hid (pDep es (k : Int) = (d : Int)) := by show _ = _; rw [pDep_yes hBAS.out.2.1 hke, hd]
            obtain ⟨m, hm⟩ : ∃ m, dsz (dMake p.s o.s) = m := ⟨_, rfl⟩
            have HBEST : Hid (d < 2 → n ≤ m) := fun hd2 => by
              have := packM_best HMK.out HES.out hil hlt hki (by rw [hd]; exact hd2)
              rw [HE.out, HNN.out] at this
              have e1 : (list[k]'hkl).s = p.s := by rw [hp]
              have e2 : (list[i]'hil).s = o.s := by rw [HO.out]
              rw [e1, e2, hm] at this
              exact this
            have HM := hid hm
            have k0 : 0 ≤ (k : Int) := by omega
            have k1 : (k : Int) < (i : Int) := by omega
            have k3 : (k : Int) < (list.length : Int) := by omega
            have k4 : (k : Int) < (es.length : Int) := by omega
            have hz := hbk.size
            have HC : Hid (∀ x, Below w4.heap.size w4 x → x.cell? ⟨(ad2.add (k * 3)).block, (ad2.add (k * 3)).off + 2, none⟩ = some (.string p.s) ∧ x.cell? ⟨(ad2.add (i * 3)).block, (ad2.add (i * 3)).off + 2, none⟩ = some (.string o.s) ∧ x.cell? ⟨(ad.add (i * 4)).block, (ad.add (i * 4)).off + 3, none⟩ = some (.slice Ao e.ops.length co)) := fun x hx =>
              ⟨(hx.cell (p := ⟨(ad2.add (k * 3)).block, (ad2.add (k * 3)).off + 2, none⟩) ha3).trans q2, (hx.cell (p := ⟨(ad2.add (i * 3)).block, (ad2.add (i * 3)).off + 2, none⟩) ha2).trans k2, (hx.cell (p := ⟨(ad.add (i * 4)).block, (ad.add (i * 4)).off + 3, none⟩) ha).trans g3⟩
            have HE4 := hid e4
            have eA : ∀ x, Below w4.heap.size w4 x → Ents x x.heap.size (some ad) es := fun x hx => (HE4.out.below hx (Nat.le_refl _)).more hx.size
            have HEA := hid eA
            have hlm : es.length ≤ 1048576 := pl
            have HO5 : Hid (∀ x, Below w4.heap.size w4 x → Row x x.heap.size Ao (opsV e.ops)) := fun x hx => (g5.below hx (Nat.le_refl _)).more hx.size
            obtain ⟨m0, m1, m2⟩ := HC.out wr hbk
            have hp20 : p.s.size ≤ 1048576 := by omega
            have ho20 : o.s.size ≤ 1048576 := by omega
            clear hp hm eA q2
            have bd : Below w4.heap.size w4 wr.drew := hbk.trans (Below.refl _ _).drew
            by_cases hd2 : d < 2
            · have hnm := HBEST.out hd2
              have hdt : decide ((d : Int) < 2) = true := decide_eq_true (by omega)
              have hmf : decide ((m : Int) < (n : Int)) = false := decide_eq_false (by omega)
              go_wp2_with fail
              go_region_held3 (fun w' => w'.cell? ⟨(ad2.add (k * 3)).block, (ad2.add (k * 3)).off + 2, none⟩ = some (.string p.s) ∧ w'.cell? ⟨(ad2.add (i * 3)).block, (ad2.add (i * 3)).off + 2, none⟩ = some (.string o.s) ∧ w'.cell? ⟨(ad.add (i * 4)).block, (ad.add (i * 4)).off + 3, none⟩ = some (.slice Ao e.ops.length co)) (go_keep)
                (first
                  | (go_at_call 26; (with_reducible refine (implSize_val n Ao co e.ops w7 (HO5.out w7 b7) hfe.2.1 hfe.2.2.2.1 HNN.out).mono ?_); rintro e w8 ⟨rfl, d8⟩; have b8 : Below w4.heap.size w4 w8 := b7.trans (d8.mono b7.size); obtain ⟨x6, x7, x8⟩ := HC.out w8 b8)
                  | (go_at_call 26; (with_reducible refine (deltaSize_val m A6 c6 p.s o.s w6 r6 HM.out).mono ?_); rintro e w7 ⟨rfl, d7⟩; have b7 : Below w4.heap.size w4 w7 := b6.trans (d7.mono b6.size); obtain ⟨x3, x4, x5⟩ := HC.out w7 b7)
                  | (go_at_call 27; (with_reducible refine (implDeltaMake_any p.s o.s w5 hp20 ho20).mono ?_); rintro e w6 ⟨v6, rfl, o6, d6⟩; obtain ⟨A6, c6, rfl, r6, -⟩ := o6.form; have b6 : Below w4.heap.size w4 w6 := b5.trans (d6.mono b5.size); obtain ⟨x0, x1, x2⟩ := HC.out w6 b6)
                  | (go_at_call 25; (with_reducible refine (packDepth_val (d : Int) (some ad) list.length c2 es (k : Int) wr.drew (HEA.out _ bd) hlm HFIT.out HP.out hlen).mono ?_); rintro e w5 ⟨rfl, d5⟩; have b5 : Below w4.heap.size w4 w5 := bd.trans (d5.mono bd.size); obtain ⟨y0, y1, y2⟩ := HC.out w5 b5))
              go_wp2_with fail
              go_roundw
              case rel => exact ⟨k + 1, by omega, by go_num, b8⟩
              case measure => simp [intOf]; omega
            · have hdf : decide ((d : Int) < 2) = false := decide_eq_false (by omega)
              go_wp2_with fail
              refine wp_region_later w4.heap.size (by kernel_rfl) (by kernel_rfl) ?_
              repeat (go_big_quiet_step ((go_at_call 25; exact Later.call hz _ (packDepth_val (d : Int) (some ad) list.length c2 es (k : Int) _ (HEA.out _ (hbk.trans ((Later.b _).mono (Nat.le_refl _)))) hlm HFIT.out HP.out hlen))))
              refine wpQuiet_nil ?_
              intro _ hw'
              obtain ⟨xx, hxx⟩ := hw'
              have hbx := xx.b
              subst hxx
              go_wp2_with fail
              go_roundw
              case rel => exact ⟨k + 1, by omega, by go_num, hbk.trans hbx⟩
              case measure => simp [intOf]; omega
          · have hk' : k = i := by omega
            subst hk'
            go_wp2_with fail
            go_roundw
            case rel => exact ⟨k + 1, by omega, by go_num, hbk⟩
            case measure => simp [intOf]; omega
      · have hk' : i = es.length := by omega
        subst hk'
        go_wp2
        go_ret
        exact .mk_ (b4.trans (hb.mono b4.size))
theorem FnPackBest_any (A : Option Addr) (c : Nat) (bs : List Int) (w : World) (f1 : Row w w.heap.size A (bs.map (Value.int .u8))) (f2 : bs.length ≤ c) (f3 : c ≤ maxLen) (f4 : ∀ n ∈ bs, 0 ≤ n ∧ n < 256) :
    Calls Try.prog 6 #[.slice A bs.length c] w (Ret (.bool true) w) := by
  by_cases hl : bs.length ≤ 1048576
  · exact FnPackBest_yes A c bs w ⟨f1, f2, f3, f4⟩ hl
  · exact FnPackBest_no A c bs w ⟨f1, f2, f3, f4⟩ hl
end Go.Proofs.Ytpcfabgjdefkiaa
