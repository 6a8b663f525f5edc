/-
  Walk of the law on refs too many and too few.
-/
import Derived.Test.YtimoabghkmebfabRefM
namespace Go.Proofs.Ytimoabghkmebfab
open Go.RowKit Wo Pu Rf

theorem FnRefsValid_no (A : Option Addr) (c : Nat) (bs : List Int) (w : World) (h : Code_ w A c bs) (hl : ¬ bs.length ≤ 1048576) :
    Calls Try.prog 4 #[.slice A bs.length c] w (Ret (.bool true) w) := by
  have hc := h.2.1
  have hm := h.2.2.1
  unfold maxLen at hm
  go_enter Try.func4, Try.ntmps4
  go_wp2
  go_ret
  exact .mk_ (Below.refl _ _)
set_option maxRecDepth 100000 in
set_option maxHeartbeats 4000000 in
theorem FnRefsValid_yes (A : Option Addr) (c : Nat) (bs : List Int) (w : World) (h : Code_ w A c bs) (hl : bs.length ≤ 1048576) :
    Calls Try.prog 4 #[.slice A bs.length c] w (Ret (.bool true) w) := by
  go_enter Try.func4, Try.ntmps4
  go_wp2_with fail
  refine (DrawRefsValid_any A c bs _ h).mono ?_
  rintro e w1 ⟨A3, c3, zs, rfl, r1, hz4, hc3, b1⟩
  obtain ⟨v, hv⟩ := bool_of (RV zs)
  have HV := hid hv
  clear hv
  go_wp2_with fail
  refine (implRefsValid_is v A3 c3 zs _ _ r1 (by omega) HV.out).mono ?_
  rintro e w2 ⟨rfl, d2⟩
  have r2 := r1.on d2
  have b2 := b1.trans (d2.mono b1.size)
  clear r1 b1 d2
  go_wp2_with fail
  refine (specRefsValid_is v A3 c3 zs _ _ r2 (by omega) HV.out).mono ?_
  rintro e w3 ⟨rfl, rfl⟩
  cases v with
  | false =>
    go_wp2
    go_ret
    exact .mk_ b2
  | true =>
    have h4 : zs.length = 4 := (HV.out.1 rfl).1
    have H4 := hid h4
    clear HV
    obtain ⟨i0, hi, hz0, hz1, hz2⟩ := info_of info_int
    obtain ⟨ad, rfl, -, -⟩ := r2.int_ (k := 0) (by omega)
    have rd : Row w2 w2.heap.size (some (ad.add 1)) (ints (zs.drop 1)) := by
      have := r2.drop_ 1
      rwa [show (ints zs).drop 1 = ints (zs.drop 1) from by unfold ints; rw [List.map_drop]] at this
    obtain ⟨ds, hds⟩ : ∃ ds, zs.drop 1 = ds := ⟨_, rfl⟩
    have hdl : ds.length = 3 := by rw [← hds, List.length_drop]; omega
    rw [hds] at rd
    have CD : Hid (∀ x c, Row x x.heap.size (some (ad.add 1)) (ints ds) → Calls Try.prog 15 #[.slice (some ⟨ad.block, ad.off + 1, none⟩) (zs.length - 1) c] x (Ret (.bool false) x)) := fun x c hx => by
      have := implRefsValid_is false (some ⟨ad.block, ad.off + 1, none⟩) c ds x _ hx (by omega) ⟨(fun e => by cases e), fun e => by have := e.1; omega⟩
      rwa [show ds.length = zs.length - 1 from by omega] at this
    obtain ⟨ms, hms⟩ : ∃ ms, zs ++ [-1] = ms := ⟨_, rfl⟩
    have hml : ms.length = 5 := by rw [← hms, List.length_append, h4]; rfl
    have CM : Hid (∀ x A c, Row x x.heap.size A (ints ms) → Calls Try.prog 15 #[.slice A ms.length c] x (Ret (.bool false) x)) := fun x A c hx =>
      implRefsValid_is false A c ms x _ hx (by omega) ⟨(fun e => by cases e), fun e => by have := e.1; omega⟩
    have HM := hid hms
    have e4 : ((zs.length : Int) == 4) = true := by rw [beq_iff_eq]; omega
    have l1 : (1 : Int) ≤ (zs.length : Int) := by omega
    have l2 : (zs.length : Int) ≤ (c3 : Int) := by omega
    have l3 : ¬ c3 = 1 := by omega
    have al := (Below.refl w2.heap.size w2).alloc (Nat.le_refl _) (.cells #[] 3)
    clear hds hms hdl hml h4
    go_wp2_with (at_builtin; first | (have g9 := a2; clear g9; refine wpList_append_own _ rfl _ _ 27 rfl w2.heap.size 3 i0 (.int .i64 0) 1 8 Try.underlying27 hi hz0 hz1 hz2 rfl (by decide) _ zs.length (ints zs) rfl a2 ⟨w4.heap.size, 0, none⟩ 1 1 [.int .i64 (-1)] rfl rfl (cell_one_new _ _ _) (one_int _) (by have := H4.out; unfold maxLen; omega) (by have := H4.out; omega) (by simp; omega) ?_; intro u4 w5 hown2 hg2 _) | (refine wpList_append_row _ rfl _ _ 27 rfl w2.heap.size 3 i0 (.int .i64 0) 1 8 Try.underlying27 hi hz0 hz1 hz2 rfl (by decide) _ 0 [] rfl (nil_own (Nat.le_refl _) _ _) w2.heap.size (some ad) zs.length c3 (ints zs) rfl (r2.below al (Nat.le_refl _)) (by rw [ints_length]; omega) (by intro u hu; obtain ⟨x, _, rfl⟩ := List.mem_map.1 hu; rfl) (by have := H4.out; unfold maxLen; omega) (by have := H4.out; omega) (by simp) ?_; intro v4 w4 hown hg; have b4 : Below w2.heap.size w2 w4 := al.grown hg (by simp) (fun j hj => by injection hj with hj; exact Nat.le_of_eq hj); have o4 : OwnI w4 w2.heap.size v4 zs := (by unfold OwnI; rw [Nat.zero_add, List.nil_append] at hown; exact hown); clear hown hg; have hz4' := b4.size; have a2 := World.ownsRow.alloc o4 (.cells #[.int .i64 (-1)] 3); have lt1 := World.ownsRow.lt a2))
    have o5 := OwnI.app hown2
    rw [HM.out] at o5
    have b5 : Below w2.heap.size w2 w5 := b4.trans (((Below.refl w2.heap.size w4).alloc hz4' _).grown hg2 (by simp; omega) (fun j hj => (lt1 j hj).1))
    obtain ⟨A5, c5, rfl, r5, -⟩ := o5.form
    have rd5 := rd.on b5
    have b6 := b2.trans (b5.mono b2.size)
    clear hown2 hg2 a2 lt1 b4 o4 o5 hz4' rd b5 r2 b2 HM al
    go_wp2_with fail
    refine (CM.out _ _ _ r5).mono ?_
    rintro e w7 ⟨rfl, d7⟩
    have rd7 := rd5.on d7
    have b7 := b6.trans (d7.mono b6.size)
    go_wp2_with fail
    refine (CD.out _ _ rd7).mono ?_
    rintro e w8 ⟨rfl, d8⟩
    go_wp2_with fail
    go_ret
    exact .mk_ (b7.trans (d8.mono b7.size))
theorem FnRefsValid_any (A : Option Addr) (c : Nat) (bs : List Int) (w : World) (f1 : Row w w.heap.size A (bs.map (Value.int .u8))) (f2 : bs.length ≤ c) (f3 : c ≤ maxLen) (f4 : ∀ n ∈ bs, 0 ≤ n ∧ n < 256) :
    Calls Try.prog 4 #[.slice A bs.length c] w (Ret (.bool true) w) := by
  by_cases hl : bs.length ≤ 1048576
  · exact FnRefsValid_yes A c bs w ⟨f1, f2, f3, f4⟩ hl
  · exact FnRefsValid_no A c bs w ⟨f1, f2, f3, f4⟩ hl
end Go.Proofs.Ytimoabghkmebfab
