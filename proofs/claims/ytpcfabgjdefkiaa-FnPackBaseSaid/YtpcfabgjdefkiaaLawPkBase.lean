/-
  Walk of the law that a base comes earlier.
-/
import Derived.Test.YtpcfabgjdefkiaaLawPkDepth
import Derived.Test.YtpcfabgjdefkiaaLawPkOb
import Derived.Test.YtpcfabgjdefkiaaEntC
namespace Go.Proofs.Ytpcfabgjdefkiaa
open Go.RowKit Wo Pu

theorem setB_bas {es : List Ent} {k : Nat} (hk : k < es.length) : basB (es.set k ⟨es[k].kd, es[k].zs, (k : Int), es[k].ops⟩) = false := by
  rw [Bool.eq_false_iff]
  intro e
  have := (basB_iff.1 e k (by rw [List.length_set]; exact hk)).2
  rw [List.getElem_set_self] at this
  exact absurd this (Int.lt_irrefl _)
theorem setB_fit {es : List Ent} (h : FitE es) {k : Nat} (hk : k < es.length) (hl : es.length ≤ 1048576) : FitE (es.set k ⟨es[k].kd, es[k].zs, (k : Int), es[k].ops⟩) := fun e he => by
  rcases List.mem_or_eq_of_mem_set he with he | rfl
  · exact h e he
  · obtain ⟨h1, h2, h3, h4, _, _⟩ := h _ (List.getElem_mem hk)
    exact ⟨h1, h2, h3, h4, by show (-9223372036854775808 : Int) ≤ (k : Int); omega, by show (k : Int) ≤ 9223372036854775807; omega⟩
theorem row_after {w5 : World} {B n k : Nat} {v5 x : Value} {xs : List Value} (h : w5.ownsRow B 37 4 v5 (0 + n) ([] ++ xs)) (hn : 0 < n) (hk : k < n) (hq : xs[k * 4 + 2]? = some x) :
    ∃ (g cc : Nat), v5 = .slice (some ⟨g, 0, none⟩) n cc ∧ B ≤ g ∧ w5.cell? ⟨g, k * 4 + 2, none⟩ = some x ∧ w5.frozen? ⟨g, k * 4 + 2, none⟩ = false ∧ w5.ownsRow B 37 4 (.slice (some ⟨g, 0, none⟩) n cc) n xs := by
  rw [Nat.zero_add, List.nil_append] at h
  have hx := h.1
  rcases h.2 with ⟨rfl, h00⟩ | ⟨g, cap, cur, rfl, hgB, _⟩
  · omega
  · exact ⟨g, cap, rfl, hgB, (World.ownsRow.cellAt h (k * 4 + 2) (by omega)).trans hq, World.ownsRow.frozenAt h (k * 4 + 2), h⟩
theorem packObjects_not (A : Option Addr) (n c : Nat) (es : List Ent) (w : World) (h : Ents w w.heap.size A es) (hn : es.length ≤ 1048576) (hfe : FitE es) (hb : packB es = false) (hl : es.length = n) :
    Calls Try.prog 23 #[.slice A n c] w (fun e w' => ∃ v, e = .returned (.tuple #[v, .bool false]) ∧ Below w.heap.size w w') := by
  subst hl
  refine (implPackObjects_any A c es w h hn hfe).mono ?_
  rintro e w' ⟨v, rfl, h1, h2⟩
  exact ⟨v, by rw [hb], h2⟩

theorem FnPackBase_no (A : Option Addr) (c : Nat) (bs : List Int) (A' : Option Addr) (c' : Nat) (bs' : List Int) (w : World) (h : Code_ w A c bs) (h' : Code_ w A' c' bs') (hl : ¬ (bs.length ≤ 1048576 ∧ bs'.length ≤ 1048576)) :
    Calls Try.prog 9 #[.slice A bs.length c, .slice A' bs'.length c'] w (Ret (.bool true) w) := by
  have hc := h.2.1
  have hm := h.2.2.1
  have hc' := h'.2.1
  have hm' := h'.2.2.1
  unfold maxLen at hm hm'
  by_cases h1 : bs.length ≤ 1048576
  · have h2 : ¬ bs'.length ≤ 1048576 := fun e => hl ⟨h1, e⟩
    clear hl
    go_enter Try.func9, Try.ntmps9
    go_wp2
    go_ret
    exact .mk_ (Below.refl _ _)
  · clear hl
    go_enter Try.func9, Try.ntmps9
    go_wp2
    go_ret
    exact .mk_ (Below.refl _ _)
set_option maxRecDepth 100000 in
set_option maxHeartbeats 4000000 in
theorem FnPackBase_yes (A : Option Addr) (c : Nat) (bs : List Int) (A' : Option Addr) (c' : Nat) (bs' : List Int) (w : World) (h : Code_ w A c bs) (_ : Code_ w A' c' bs') (hl : bs.length ≤ 1048576) (hl' : bs'.length ≤ 1048576) :
    Calls Try.prog 9 #[.slice A bs.length c, .slice A' bs'.length c'] w (Ret (.bool true) w) := by
  obtain ⟨q0, hq, hq0, hq1, hq2⟩ := info_of info_ent
  go_enter Try.func9, Try.ntmps9
  go_wp2_with fail
  refine (DrawPackMake_any A c bs _ h).mono ?_
  rintro e w1 ⟨A1, c1, list, rfl, h1, hc1, hn17, hmild, b1⟩
  have hf := hmild.fit
  have hn : list.length ≤ 1048576 := by omega
  have HMILD := hid hmild
  clear hmild
  go_wp2_with fail
  refine (implPackMake_any A1 c1 list w1 h1 hn hf).mono ?_
  rintro e w2 ⟨v2, rfl, o2, bb2⟩
  obtain ⟨A2, c2, rfl, e2, hc2⟩ := o2.form
  have h2 := (h1.below bb2 (Nat.le_refl _)).more bb2.size
  have b2 := b1.trans (bb2.mono b1.size)
  clear h1 b1 bb2 o2
  go_wp2_with fail
  refine (specPackMake_any A1 c1 list w2 h2 hn hf).mono ?_
  rintro e w3 ⟨v3, rfl, o3, bb3⟩
  obtain ⟨A3, c3, rfl, e3, hc3⟩ := o3.form
  have h3 := (h2.below bb3 (Nat.le_refl _)).more bb3.size
  have e23 := (e2.below bb3 (Nat.le_refl _)).more bb3.size
  have b3 := b2.trans (bb3.mono b2.size)
  clear h2 b2 bb3 o3 e2
  have pl : (packM list).length ≤ 1048576 := by have := packM_length (list := list); omega
  have same := fun (x : World) (hx : Below w3.heap.size w3 x) => samePack_same A2 A3 c2 c3 (packM list) x ((e23.below hx (Nat.le_refl _)).more hx.size) ((e3.below hx (Nat.le_refl _)).more hx.size) pl (packM_few list)
  have HSM := hid same
  clear same hc3
  go_wp2_with fail
  refine (HSM.out w3 (Below.refl _ _)).mono ?_
  rintro e w4 ⟨rfl, bb4⟩
  have b4 := b3.trans (bb4.mono b3.size)
  have h4 := (h3.below bb4 (Nat.le_refl _)).more bb4.size
  have e4 := (e23.below bb4 (Nat.le_refl _)).more bb4.size
  clear h3 e23 e3 b3
  cases hmk : makeB list
  ·
    go_wp2_with fail
    refine (HSM.out w4 bb4).mono ?_
    rintro e w5 ⟨rfl, bb5⟩
    go_wp2
    go_ret
    exact .mk_ (b4.trans (bb5.mono b4.size))
  · by_cases h0 : list.length = 0
    · have e0 : (((packM list).length : Int) == 0) = true := by rw [packM_len hmk, h0]; rfl
      clear h0
      go_wp2_with fail
      refine (HSM.out w4 bb4).mono ?_
      rintro e w5 ⟨rfl, bb5⟩
      go_wp2
      go_ret
      exact .mk_ (b4.trans (bb5.mono b4.size))
    · have e0 : ((list.length : Int) == 0) = false := by rw [beq_eq_false_iff_ne]; omega
      obtain ⟨k, hk⟩ : ∃ k : Nat, (bs'.length : Int) % (list.length : Int) = (k : Int) := ⟨bs'.length % list.length, by simp⟩
      have hkl : k < list.length := by have := Int.emod_lt_of_pos (bs'.length : Int) (show (0 : Int) < list.length by omega); omega
      have lp : 0 < list.length := by omega
      clear h0
      have HMK := hid hmk
      have hlen := packM_len hmk
      have few := packM_few list
      have fit := packM_fit list
      obtain ⟨es, hes⟩ : ∃ es, packM list = es := ⟨_, rfl⟩
      rw [hes] at hlen e4 pl few fit hc2 ⊢
      have HES := hid hes
      clear hes hmk
      clear HSM bb4 few
      go_upto_region 9 with (fail)
      rw [hk]
      clear hk e0
      have nA := nil_own (w := w4) (B := w4.heap.size) (Nat.le_refl _) 37 4
      have aA := (Below.refl w4.heap.size w4).alloc (Nat.le_refl _) (.cells #[] 37)
      obtain ⟨xs, rxs, hxc, hx1⟩ := e4.cells
      have rx := rxs.below aA (Nat.le_refl _)
      have hxl : xs.length = list.length * 4 := by rw [hxc.1, hlen]
      have hke : k < es.length := by omega
      have k0 : 0 ≤ (k : Int) := by omega
      have k1 : (k : Int) < (list.length : Int) := by omega
      obtain ⟨_, _, _, _, _, _, q2, _⟩ := hxc.2 k hke
      go_wp2_with (at_builtin; go_must (refine wpList_append_row _ rfl _ _ 25 rfl w4.heap.size 37 q0 (.agg #[.int .i64 0, .slice none 0 0, .int .i64 0, .slice none 0 0]) 4 64 Try.underlying25 hq hq0 hq1 hq2 rfl (by decide) _ 0 [] rfl nA w4.heap.size A2 list.length c2 xs rfl rx hxl hx1 (by unfold maxLen; omega) (by omega) (by simp) ?_); intro v5 w5 ho5 hg5; obtain ⟨g, cc, rfl, hgB, hcl, hfz, ho6⟩ := row_after ho5 lp hkl q2)
      have b5 : Below w4.heap.size w4 w5 := aA.grown hg5 aA.size nil_far
      have hxc5 := hxc.below b5 (Nat.le_refl _)
      have hst := (World.ownsRow.stored ho6 (k * 4 + 2) (.int .i64 (k : Int))).1
      have b6 : Below w4.heap.size w4 (w5.setCell ⟨g, k * 4 + 2, none⟩ (.int .i64 (k : Int))) := b5.setCell (p := ⟨g, k * 4 + 2, none⟩) hgB _
      have hxc6 := (hxc5.below ((Below.refl w4.heap.size w5).setCell (p := ⟨g, k * 4 + 2, none⟩) hgB (.int .i64 (k : Int))) (Nat.le_refl _)).setB hke (k : Int)
      clear hxc5 hxc rxs rx ho5 hg5 b5 q2 nA aA ho6
      generalize w5.setCell ⟨g, k * 4 + 2, none⟩ (.int .i64 (k : Int)) = w6 at *
      have h6 := hxc6.ents b6.size hst
      have hBF : Hid (basB (es.set k ⟨es[k].kd, es[k].zs, (k : Int), es[k].ops⟩) = false) := setB_bas hke
      have hFIT := setB_fit fit hke pl
      have hlen' : (es.set k ⟨es[k].kd, es[k].zs, (k : Int), es[k].ops⟩).length = list.length := by rw [List.length_set]; exact hlen
      obtain ⟨fs, hfs⟩ : ∃ fs, es.set k ⟨es[k].kd, es[k].zs, (k : Int), es[k].ops⟩ = fs := ⟨_, rfl⟩
      rw [hfs] at h6 hBF hFIT hlen'
      have HL := hid hlen'
      have plf : fs.length ≤ 1048576 := by omega
      have hpo := packObjects_not (some ⟨g, 0, none⟩) list.length cc fs w6 h6 plf hFIT (packB_b hBF.out) hlen'
      clear hlen' hfs hcl hxc6 hst
      refine hpo.mono ?_
      clear hpo
      rintro e w7 ⟨v7, rfl, b7⟩
      have h7 := (h6.below b7 (Nat.le_refl _)).more b7.size
      have HPD : Hid (pDep fs (k : Int) = -1) := pDep_no (fun e => by rw [hBF.out] at e; exact Bool.noConfusion e.1)
      go_wp2_with fail
      refine (packDepth_val (-1) (some ⟨g, 0, none⟩) list.length cc fs (k : Int) w7 h7 plf hFIT HPD.out HL.out).mono ?_
      rintro e w8 ⟨rfl, b8⟩
      go_wp2
      go_ret
      exact .mk_ (b4.trans ((b6.trans ((b7.trans (b8.mono b7.size)).mono b6.size)).mono b4.size))
theorem FnPackBase_any (A : Option Addr) (c : Nat) (bs : List Int) (A' : Option Addr) (c' : Nat) (bs' : List Int) (w : World) (f1 : Row w w.heap.size A (bs.map (Value.int .u8))) (f2 : bs.length ≤ c) (f3 : c ≤ maxLen) (f4 : ∀ n ∈ bs, 0 ≤ n ∧ n < 256) (g1 : Row w w.heap.size A' (bs'.map (Value.int .u8))) (g2 : bs'.length ≤ c') (g3 : c' ≤ maxLen) (g4 : ∀ n ∈ bs', 0 ≤ n ∧ n < 256) :
    Calls Try.prog 9 #[.slice A bs.length c, .slice A' bs'.length c'] w (Ret (.bool true) w) := by
  by_cases hl : bs.length ≤ 1048576 ∧ bs'.length ≤ 1048576
  · exact FnPackBase_yes A c bs A' c' bs' w ⟨f1, f2, f3, f4⟩ ⟨g1, g2, g3, g4⟩ hl.1 hl.2
  · exact FnPackBase_no A c bs A' c' bs' w ⟨f1, f2, f3, f4⟩ ⟨g1, g2, g3, g4⟩ hl
end Go.Proofs.Ytpcfabgjdefkiaa
