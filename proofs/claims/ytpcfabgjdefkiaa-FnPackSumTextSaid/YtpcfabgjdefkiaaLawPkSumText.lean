/-
  Walk of the law that the sum of a pack tells texts apart.
-/
import Derived.Test.YtpcfabgjdefkiaaPkC
import Derived.Test.YtpcfabgjdefkiaaPackS
import Derived.Test.YtpcfabgjdefkiaaInj
import Derived.Deep.RegionHeld3
import Derived.IntWalk
namespace Go.Proofs.Ytpcfabgjdefkiaa
open Go.RowKit Wo Pu

theorem xor_tabP : ∀ n : Fin 256, ∀ d : Fin 4, d ≠ 0 → n.1 ^^^ d.1 ≠ n.1 := by decide +kernel
theorem xor_u8P (a : UInt8) (d : Int) (h1 : 1 ≤ d) (h3 : d ≤ 3) : ∃ b : UInt8, bits .xor .u8 (a.toNat : Int) d = (b.toNat : Int) ∧ b ≠ a := by
  obtain ⟨m, rfl⟩ := Int.eq_ofNat_of_zero_le (show 0 ≤ d by omega)
  have ha := a.toNat_lt
  have e : ∀ k : Nat, k < 256 → (BitVec.ofInt 8 (k : Int)).toNat = k := fun k hk => by
    rw [BitVec.ofInt_natCast, BitVec.toNat_ofNat]
    exact Nat.mod_eq_of_lt (by omega)
  have hx : a.toNat ^^^ m < 2 ^ 8 := Nat.xor_lt_two_pow (by omega) (by omega)
  have hb : (UInt8.ofNat (a.toNat ^^^ m)).toNat = a.toNat ^^^ m := by
    rw [UInt8.toNat_ofNat']
    omega
  refine ⟨UInt8.ofNat (a.toNat ^^^ m), ?_, fun e2 => ?_⟩
  · show IntKind.u8.wrap ((BitVec.ofInt 8 (a.toNat : Int) ^^^ BitVec.ofInt 8 (m : Int)).toNat : Int) = _
    rw [BitVec.toNat_xor, e _ (by omega), e _ (by omega), IntKind.wrap_u8, hb]
    omega
  · have e3 : (UInt8.ofNat (a.toNat ^^^ m)).toNat = a.toNat := by rw [e2]
    rw [hb] at e3
    exact xor_tabP ⟨a.toNat, by omega⟩ ⟨m, by omega⟩ (fun e4 => by have := congrArg Fin.val e4; simp at this; omega) e3
theorem conv_byteP (w : World) (b : UInt8) : (convert 22 9 (.slice (some ⟨w.heap.size, 0, none⟩) 1 1)).run Try.prog (w.alloc (.cells #[.int .u8 (b.toNat : Int)] 5)).drew = .ok (.string ⟨#[b]⟩) (w.alloc (.cells #[.int .u8 (b.toNat : Int)] 5)).drew := by
  refine run_convert_bytes_back (P := Try.prog) (w.alloc (.cells #[.int .u8 (b.toNat : Int)] 5)).drew 22 9 5 ⟨w.heap.size, 0, none⟩ 1 [b] Try.underlying22 Try.underlying5 Try.underlying9 ?_
  intro j hj
  simp only [List.length_cons, List.length_nil] at hj
  obtain rfl : j = 0 := by omega
  simp only [List.getElem_cons_zero, add_zero]
  simp [go_sem]
theorem text0_put (s : ByteArray) (b : UInt8) : ((⟨#[b]⟩ : ByteArray) ++ s.extract 1 s.size).data.toList = b :: s.data.toList.drop 1 := by
  simp [ByteArray.data_append, ByteArray.data_extract]
  apply List.take_of_length_le
  rw [List.length_tail]
  exact Nat.le_refl _
theorem text0_was (s : ByteArray) (h : 0 < s.size) : s.data.toList = s[0] :: s.data.toList.drop 1 := by
  have e := (List.take_append_drop 0 s.data.toList).symm
  rw [List.drop_eq_getElem_cons (by simpa using h)] at e
  exact e
theorem text0_size (s : ByteArray) (b : UInt8) (h : 0 < s.size) : ((⟨#[b]⟩ : ByteArray) ++ s.extract 1 s.size).size = s.size := by
  have e := congrArg List.length (text0_put s b)
  have e2 := congrArg List.length (text0_was s h)
  have h1 : ∀ t : ByteArray, t.data.toList.length = t.size := fun _ => rfl
  rw [h1] at e
  rw [e, ← h1 s]
  simp at e2 ⊢
  omega
theorem text0_ne {o : Ob} (b : UInt8) (h : 0 < o.s.size) (hv : vOb o = true) (hb : b ≠ o.s[0]) : iOb ⟨o.kd, o.zs, (⟨#[b]⟩ : ByteArray) ++ o.s.extract 1 o.s.size⟩ ≠ iOb o ∧ vOb ⟨o.kd, o.zs, (⟨#[b]⟩ : ByteArray) ++ o.s.extract 1 o.s.size⟩ = true := by
  have hs := text0_size o.s b h
  have hv2 : vOb ⟨o.kd, o.zs, (⟨#[b]⟩ : ByteArray) ++ o.s.extract 1 o.s.size⟩ = true := by
    show vldB o.kd o.zs _ = true
    rw [hs]
    exact hv
  refine ⟨fun e => ?_, hv2⟩
  rw [iOb_of hv2, iOb_of hv] at e
  have e2 : idOf o.kd o.zs (b :: o.s.data.toList.drop 1) = idOf o.kd o.zs (o.s[0] :: o.s.data.toList.drop 1) := by
    rw [← text0_put, ← text0_was o.s h]
    exact e
  exact text_ne (p := []) (fun e3 => hb e3.symm) e2
theorem mixL_ne {n a b : Int} {p q : List Int} (ha : 0 ≤ a ∧ a < 991) (hb : 0 ≤ b ∧ b < 991) (h : a ≠ b) : mixL n (p ++ a :: q) ≠ mixL n (p ++ b :: q) := by
  intro e
  rw [mixL_append, mixL_append] at e
  have h1 := mixL_inj (show mixL ((mixL n p * 613 + a + 1) % 991) q = mixL ((mixL n p * 613 + b + 1) % 991) q from e)
  generalize mixL n p = m at h1
  omega
theorem packM_sum {list : List Ob} (h : makeB list = true) : pSum (packM list) = mixL ((list.length : Nat) : Int) (list.map iOb) := by
  unfold pSum
  rw [if_pos (pack_made h).1, (pack_made h).2, packM_len h]
theorem set_sum {list : List Ob} {k : Nat} (hk : k < list.length) (h : makeB list = true) (o' : Ob) (hv : vOb o' = true) (hne : iOb o' ≠ iOb list[k]) : makeB (list.set k o') = true ∧ pSum (packM (list.set k o')) ≠ pSum (packM list) := by
  obtain ⟨h1, h2⟩ := makeB_iff.1 h
  have hm : makeB (list.set k o') = true := makeB_iff.2 ⟨by rw [List.length_set]; exact h1, fun o ho => by
    rcases List.mem_or_eq_of_mem_set ho with ho | rfl
    · exact h2 o ho
    · exact hv⟩
  refine ⟨hm, ?_⟩
  rw [packM_sum hm, packM_sum h, List.length_set, List.set_eq_take_append_cons_drop, if_pos hk]
  have e : list.map iOb = (list.take k).map iOb ++ iOb list[k] :: (list.drop (k + 1)).map iOb := by
    have e0 := (List.take_append_drop k list).symm
    rw [List.drop_eq_getElem_cons hk] at e0
    have e1 := congrArg (List.map iOb) e0
    rw [List.map_append, List.map_cons] at e1
    exact e1
  rw [e, List.map_append, List.map_cons]
  exact mixL_ne ⟨iOb_valid.2 hv, (iOb_range _).2⟩ ⟨iOb_valid.2 (h2 _ (List.getElem_mem hk)), (iOb_range _).2⟩ hne
theorem Cells.setS {w : World} {B : Nat} {xs : List Value} {os : List Ob} (h : Cells w B xs os) {k : Nat} (hk : k < os.length) (t : ByteArray) : Cells w B (xs.set (k * 3 + 2) (.string t)) (os.set k ⟨os[k].kd, os[k].zs, t⟩) := by
  refine ⟨by rw [List.length_set, List.length_set]; exact h.1, fun j hj => ?_⟩
  rw [List.length_set] at hj
  obtain ⟨A, c, h0, h1, h2, h4⟩ := h.2 j hj
  have hl := h.1
  by_cases e : k = j
  · subst e
    simp only [List.getElem_set_self]
    refine ⟨A, c, ?_, ?_, ?_, h4⟩
    · rw [List.getElem?_set_ne (by omega)]; exact h0
    · rw [List.getElem?_set_ne (by omega)]; exact h1
    · rw [List.getElem?_set_self (by omega)]
  · simp only [List.getElem_set_ne e]
    refine ⟨A, c, ?_, ?_, ?_, h4⟩
    · rw [List.getElem?_set_ne (by omega)]; exact h0
    · rw [List.getElem?_set_ne (by omega)]; exact h1
    · rw [List.getElem?_set_ne (by omega)]; exact h2
theorem row_afterO {w5 : World} {B n k : Nat} {v5 x : Value} {xs : List Value} (h : w5.ownsRow B 41 3 v5 (0 + n) ([] ++ xs)) (hn : 0 < n) (hk : k < n) (hq : xs[k * 3 + 2]? = some x) :
    ∃ (g cc : Nat), v5 = .slice (some ⟨g, 0, none⟩) n cc ∧ B ≤ g ∧ w5.cell? ⟨g, k * 3 + 2, none⟩ = some x ∧ w5.frozen? ⟨g, k * 3 + 2, none⟩ = false ∧ w5.ownsRow B 41 3 (.slice (some ⟨g, 0, none⟩) n cc) n xs := by
  rw [Nat.zero_add, List.nil_append] at h
  have hx := h.1
  rcases h.2 with ⟨rfl, h00⟩ | ⟨g, cap, cur, rfl, hgB, _⟩
  · omega
  · exact ⟨g, cap, rfl, hgB, (World.ownsRow.cellAt h (k * 3 + 2) (by omega)).trans hq, World.ownsRow.frozenAt h (k * 3 + 2), h⟩
theorem packSum_val (v : Int) (A : Option Addr) (n c : Nat) (es : List Ent) (w : World) (h : Ents w w.heap.size A es) (hn : es.length ≤ 1048576) (hfe : FitE es) (hv : pSum es = v) (hl : es.length = n) :
    Calls Try.prog 30 #[.slice A n c] w (Ret (.int .i64 v) w) := by
  subst hv hl
  exact implPackSum_any A c es w h hn hfe

theorem packMake_val (A : Option Addr) (n c : Nat) (list : List Ob) (w : World) (h : Objs w w.heap.size A list) (hn : list.length ≤ 1048576) (hf : Fit list) (hl : list.length = n) (hm : makeB list = true) :
    Calls Try.prog 20 #[.slice A n c] w (fun e w' => ∃ v, e = .returned (.tuple #[v, .bool true]) ∧ OwnEnts w' w.heap.size w'.heap.size v (packM list) ∧ Below w.heap.size w w') := by
  subst hl
  refine (implPackMake_any A c list w h hn hf).mono ?_
  rintro e w' ⟨v, rfl, h1, h2⟩
  exact ⟨v, by rw [hm], h1, h2⟩

theorem FnPackSumText_no (A : Option Addr) (c : Nat) (bs : List Int) (A' : Option Addr) (c' : Nat) (bs' : List Int) (w : World) (h : Code_ w A c bs) (h' : Code_ w A' c' bs') (hl : ¬ (bs.length ≤ 1048576 ∧ bs'.length ≤ 1048576)) :
    Calls Try.prog 11 #[.slice A bs.length c, .slice A' bs'.length c'] w (Ret (.bool true) w) := by
  have hc := h.2.1
  have hm := h.2.2.1
  have hc' := h'.2.1
  have hm' := h'.2.2.1
  unfold maxLen at hm hm'
  by_cases h1 : bs.length ≤ 1048576
  · have h2 : ¬ bs'.length ≤ 1048576 := fun e => hl ⟨h1, e⟩
    clear hl
    go_enter Try.func11, Try.ntmps11
    go_wp2
    go_ret
    exact .mk_ (Below.refl _ _)
  · clear hl
    go_enter Try.func11, Try.ntmps11
    go_wp2
    go_ret
    exact .mk_ (Below.refl _ _)
set_option maxRecDepth 100000 in
set_option maxHeartbeats 4000000 in
theorem FnPackSumText_yes (A : Option Addr) (c : Nat) (bs : List Int) (A' : Option Addr) (c' : Nat) (bs' : List Int) (w : World) (h : Code_ w A c bs) (_ : Code_ w A' c' bs') (hl : bs.length ≤ 1048576) (hl' : bs'.length ≤ 1048576) :
    Calls Try.prog 11 #[.slice A bs.length c, .slice A' bs'.length c'] w (Ret (.bool true) w) := by
  obtain ⟨q0, hq, hq0, hq1, hq2⟩ := info_of info_ob
  go_enter Try.func11, Try.ntmps11
  go_wp2_with fail
  refine (DrawPackMake_any A c bs _ h).mono ?_
  rintro e w1 ⟨A1, c1, list, rfl, h1, hc1, hn17, hmild, b1⟩
  have hf := hmild.fit
  have hn : list.length ≤ 1048576 := by omega
  have HMILD := hid hmild
  clear hmild
  go_wp2_with fail
  refine (implPackMake_any A1 c1 list w1 h1 hn hf).mono ?_
  rintro e w2 ⟨v2, rfl, o2, bb2⟩
  obtain ⟨A2, c2, rfl, e2, hc2⟩ := o2.form
  have h2 := (h1.below bb2 (Nat.le_refl _)).more bb2.size
  have b2 := b1.trans (bb2.mono b1.size)
  clear h1 b1 bb2 o2
  go_wp2_with fail
  refine (specPackMake_any A1 c1 list w2 h2 hn hf).mono ?_
  rintro e w3 ⟨v3, rfl, o3, bb3⟩
  obtain ⟨A3, c3, rfl, e3, hc3⟩ := o3.form
  have h3 := (h2.below bb3 (Nat.le_refl _)).more bb3.size
  have e23 := (e2.below bb3 (Nat.le_refl _)).more bb3.size
  have b3 := b2.trans (bb3.mono b2.size)
  clear h2 b2 bb3 o3 e2
  have pl : (packM list).length ≤ 1048576 := by have := packM_length (list := list); omega
  have same := fun (x : World) (hx : Below w3.heap.size w3 x) => samePack_same A2 A3 c2 c3 (packM list) x ((e23.below hx (Nat.le_refl _)).more hx.size) ((e3.below hx (Nat.le_refl _)).more hx.size) pl (packM_few list)
  have HSM := hid same
  clear same hc3
  go_wp2_with fail
  refine (HSM.out w3 (Below.refl _ _)).mono ?_
  rintro e w4 ⟨rfl, bb4⟩
  have b4 := b3.trans (bb4.mono b3.size)
  have h4 := (h3.below bb4 (Nat.le_refl _)).more bb4.size
  have e4 := (e23.below bb4 (Nat.le_refl _)).more bb4.size
  clear h3 e23 e3 b3
  cases hmk : makeB list
  ·
    go_wp2_with fail
    refine (HSM.out w4 bb4).mono ?_
    rintro e w5 ⟨rfl, bb5⟩
    go_wp2
    go_ret
    exact .mk_ (b4.trans (bb5.mono b4.size))
  · by_cases h0 : list.length = 0
    · have e0 : (((packM list).length : Int) == 0) = true := by rw [packM_len hmk, h0]; rfl
      clear h0
      go_wp2_with fail
      refine (HSM.out w4 bb4).mono ?_
      rintro e w5 ⟨rfl, bb5⟩
      go_wp2
      go_ret
      exact .mk_ (b4.trans (bb5.mono b4.size))
    · have e0 : ((list.length : Int) == 0) = false := by rw [beq_eq_false_iff_ne]; omega
      obtain ⟨k, hk⟩ : ∃ k : Nat, (bs'.length : Int) % (list.length : Int) = (k : Int) := ⟨bs'.length % list.length, by simp⟩
      have hkl : k < list.length := by have := Int.emod_lt_of_pos (bs'.length : Int) (show (0 : Int) < list.length by omega); omega
      have lp : 0 < list.length := by omega
      have hvl := (makeB_iff.1 hmk).2
      clear h0
      have HMK := hid hmk
      have hlen := packM_len hmk
      have few := packM_few list
      have fit := packM_fit list
      obtain ⟨es, hes⟩ : ∃ es, packM list = es := ⟨_, rfl⟩
      rw [hes] at hlen e4 pl few fit hc2 ⊢
      have HES := hid hes
      clear hes hmk
      clear HSM bb4 few
      obtain ⟨o, ad, Ao, co, hoo, rfl, had, g0, g1, g2, g3⟩ := h4.obj hkl
      have hvo := hvl o (by rw [← hoo]; exact List.getElem_mem hkl)
      have HVO := hid hvo
      have HOO := hid hoo
      have HVL := hid hvl
      obtain ⟨S, hS⟩ : ∃ S, pSum es = S := ⟨_, rfl⟩
      have HSS := hid hS
      have hSr : 0 ≤ S := by
        have := (pSum_range (pack_made HMK.out).1).1
        rw [HES.out, hS] at this
        exact this
      clear hvo hoo hvl hS g0 g1 g3
      go_upto_region 9 with (fail)
      rw [hk]
      clear hk e0
      have k0 : 0 ≤ (k : Int) := by omega
      have k1 : (k : Int) < (list.length : Int) := by omega
      by_cases en : o.s.size = 0
      · have e1 : o.s.toList.isEmpty = true := (emp_ o.s).trans (decide_eq_true en)
        go_wp2_with fail
        refine (packSum_val S A2 list.length c2 es w4 e4 pl fit HSS.out hlen).mono ?_
        rintro e w5 ⟨rfl, b5⟩
        go_wp2
        go_ret
        exact .mk_ (b4.trans (b5.mono b4.size))
      · have e1 : o.s.toList.isEmpty = false := (emp_ o.s).trans (decide_eq_false en)
        have hsp : 0 < o.s.size := by omega
        have hs8 := valid_small HVO.out
        go_upto_region 11 with (fail)
        have nA := nil_own (w := w4) (B := w4.heap.size) (Nat.le_refl _) 41 3
        have aA := (Below.refl w4.heap.size w4).alloc (Nat.le_refl _) (.cells #[] 41)
        obtain ⟨xs, rxs, hxc, hx1⟩ := h4.cells
        have rx := rxs.below aA (Nat.le_refl _)
        have hxl : xs.length = list.length * 3 := hxc.1
        obtain ⟨_, _, _, _, q2, _⟩ := hxc.2 k hkl
        rw [HOO.out] at q2
        go_wp2_with (at_builtin; go_must (refine wpList_append_row _ rfl _ _ 23 rfl w4.heap.size 41 q0 (.agg #[.int .i64 0, .slice none 0 0, .string ⟨#[]⟩]) 3 48 Try.underlying23 hq hq0 hq1 hq2 rfl (by decide) _ 0 [] rfl nA w4.heap.size (some ad) list.length c1 xs rfl rx hxl hx1 (by unfold maxLen; omega) (by omega) (by simp) ?_); intro v5 w5 ho5 hg5; obtain ⟨g, cc, rfl, hgB, hcl, hfz, ho6⟩ := row_afterO ho5 lp hkl q2)
        have b5 : Below w4.heap.size w4 w5 := aA.grown hg5 aA.size nil_far
        have hxc5 := hxc.below b5 (Nat.le_refl _)
        have p2 := (b5.cell (p := ⟨(ad.add (k * 3)).block, (ad.add (k * 3)).off + 2, none⟩) had).trans g2
        have hm0 : 0 ≤ (bs.length : Int) % 3 := Int.emod_nonneg _ (by omega)
        have hm1 : (bs.length : Int) % 3 < 3 := Int.emod_lt_of_pos _ (by omega)
        obtain ⟨b, hb, hbne⟩ := xor_u8P o.s[0] (1 + (bs.length : Int) % 3) (by omega) (by omega)
        have hcv := conv_byteP w5 b
        have z1 : (0 : Int) < (o.s.size : Int) := by omega
        have z2 : (1 : Int) ≤ (o.s.size : Int) := by omega
        have z3 : 1 ≤ o.s.size := by omega
        have hgl := (World.ownsRow.lt ho6 g rfl).2
        have hgn : g ≠ w5.heap.size := Nat.ne_of_lt hgl
        have hgn2 : w5.heap.size ≠ g := fun e => hgn e.symm
        have hal : (ad.add (k * 3)).block < w5.heap.size := Nat.lt_of_lt_of_le had b5.size
        have han : (ad.add (k * 3)).block ≠ w5.heap.size := Nat.ne_of_lt hal
        have han2 : w5.heap.size ≠ (ad.add (k * 3)).block := fun e => han e.symm
        clear hxc rxs rx ho5 hg5 q2 nA aA g2 en
        go_region
        have hts := text0_size o.s b hsp
        obtain ⟨hne, hv2⟩ := text0_ne b hsp HVO.out hbne
        generalize (⟨#[b]⟩ : ByteArray) ++ o.s.extract 1 o.s.size = t at *
        have hst := (World.ownsRow.stored ho6 (k * 3 + 2) (.string t)).1
        have hxs := (hxc5.below ((Below.refl w4.heap.size w5).setCell (p := ⟨g, k * 3 + 2, none⟩) hgB (.string t)) (Nat.le_refl _)).setS hkl t
        rw [HOO.out] at hxs
        have b6 : Below w4.heap.size w4 (w5.setCell ⟨g, k * 3 + 2, none⟩ (.string t)) := b5.setCell (p := ⟨g, k * 3 + 2, none⟩) hgB _
        clear hcv hb hbne hcl hfz ho6 hxc5 b5 p2 hgn hgn2 hal han han2 hgl
        generalize w5.setCell ⟨g, k * 3 + 2, none⟩ (.string t) = w6 at *
        have al : Below w6.heap.size w6 (w6.alloc (.cells #[.int .u8 (b.toNat : Int)] 5)).drew := ((Below.refl _ _).alloc (Nat.le_refl _) _).drew
        have b7 := b6.trans (al.mono b6.size)
        have hst7 := own_below hst al (Nat.le_refl _)
        have hxs7 := hxs.below al b6.size
        clear al hst hxs b6
        generalize (w6.alloc (.cells #[.int .u8 (b.toNat : Int)] 5)).drew = w7 at *
        have hll : (list.set k ⟨o.kd, o.zs, t⟩).length = list.length := List.length_set
        obtain ⟨A7, c7, hv7, hO7⟩ := hxs7.objs b7.size hst7 hll.symm
        rw [hll] at hv7
        injection hv7 with hv7 _ _
        subst hv7
        obtain ⟨hm2, hs2⟩ := set_sum hkl HMK.out ⟨o.kd, o.zs, t⟩ hv2 (by rw [HOO.out]; exact hne)
        have hfit2 : Fit (list.set k ⟨o.kd, o.zs, t⟩) := fun p hp => by
          rcases List.mem_or_eq_of_mem_set hp with hp | rfl
          · exact hf p hp
          · refine ⟨(hf o (by rw [← HOO.out]; exact List.getElem_mem hkl)).1, ?_⟩
            show t.size ≤ maxLen
            unfold maxLen
            omega
        have few2 := packM_fit (list.set k ⟨o.kd, o.zs, t⟩)
        have pl2 : (packM (list.set k ⟨o.kd, o.zs, t⟩)).length ≤ 1048576 := by have := packM_length (list := list.set k ⟨o.kd, o.zs, t⟩); omega
        obtain ⟨L2, hL2⟩ : ∃ L2, list.set k ⟨o.kd, o.zs, t⟩ = L2 := ⟨_, rfl⟩
        rw [hL2] at hll hO7 hm2 hs2 hfit2 few2 pl2
        have hmv := packMake_val (some ⟨g, 0, none⟩) list.length c7 L2 w7 hO7 (by omega) hfit2 hll hm2
        obtain ⟨fs, hfs⟩ : ∃ fs, packM L2 = fs := ⟨_, rfl⟩
        rw [hfs] at hs2 few2 pl2 hmv
        rw [HES.out] at hs2
        obtain ⟨S2, hS2⟩ : ∃ S2, pSum fs = S2 := ⟨_, rfl⟩
        have HS2 := hid hS2
        rw [hS2, HSS.out] at hs2
        have hbn : (S2 != S) = true := by rw [bne_iff_ne]; exact hs2
        have e47 := (e4.below b7 (Nat.le_refl _)).more b7.size
        clear hL2 hll hfs hS2 hO7 hm2 hst7 hxs7 hs2 hne hv2 hfit2 h4 e4
        go_wp2_with fail
        refine hmv.mono ?_
        clear hmv
        rintro e w8 ⟨v8, rfl, o8, b8⟩
        obtain ⟨A8, c8, rfl, e8, _⟩ := o8.form
        have e48 := (e47.below b8 (Nat.le_refl _)).more b8.size
        clear o8
        go_wp2_with fail
        refine (packSum_val S2 A8 fs.length c8 fs w8 e8 pl2 few2 HS2.out rfl).mono ?_
        rintro e w9 ⟨rfl, b9⟩
        have e49 := (e48.below b9 (Nat.le_refl _)).more b9.size
        go_wp2_with fail
        refine (packSum_val S A2 list.length c2 es w9 e49 pl fit HSS.out hlen).mono ?_
        rintro e w10 ⟨rfl, b10⟩
        go_wp2
        go_ret
        have b79 := b8.trans ((b9.trans (b10.mono b9.size)).mono b8.size)
        exact .mk_ (b4.trans ((b7.trans (b79.mono b7.size)).mono b4.size))
theorem FnPackSumText_any (A : Option Addr) (c : Nat) (bs : List Int) (A' : Option Addr) (c' : Nat) (bs' : List Int) (w : World) (f1 : Row w w.heap.size A (bs.map (Value.int .u8))) (f2 : bs.length ≤ c) (f3 : c ≤ maxLen) (f4 : ∀ n ∈ bs, 0 ≤ n ∧ n < 256) (g1 : Row w w.heap.size A' (bs'.map (Value.int .u8))) (g2 : bs'.length ≤ c') (g3 : c' ≤ maxLen) (g4 : ∀ n ∈ bs', 0 ≤ n ∧ n < 256) :
    Calls Try.prog 11 #[.slice A bs.length c, .slice A' bs'.length c'] w (Ret (.bool true) w) := by
  by_cases hl : bs.length ≤ 1048576 ∧ bs'.length ≤ 1048576
  · exact FnPackSumText_yes A c bs A' c' bs' w ⟨f1, f2, f3, f4⟩ ⟨g1, g2, g3, g4⟩ hl.1 hl.2
  · exact FnPackSumText_no A c bs A' c' bs' w ⟨f1, f2, f3, f4⟩ ⟨g1, g2, g3, g4⟩ hl
end Go.Proofs.Ytpcfabgjdefkiaa
