/-
  Walk: the program's PackSum.
-/
import Derived.Test.YtkekbobnbipmoaaPackO
namespace Go.Proofs.Ytkekbobnbipmoaa
open Go.RowKit Wo Pu

theorem implId_val (v : Int) (B : Nat) (A : Option Addr) (c : Nat) (o : Ob) (w : World) (hr : Row w B A (ints o.zs)) (hB : B ≤ w.heap.size) (hm : o.zs.length ≤ maxLen) (hs : o.s.size ≤ maxLen) (e : iOb o = v) :
    Calls Try.prog 47 #[ob o.kd A o.zs.length c o.s] w (Ret (.int .i64 v) w) := by
  subst e
  exact implId_any B A c o.kd o.zs o.s w hr hB hm hs
theorem mixL_step {n : Int} {xs : List Int} {k : Nat} (hk : k < xs.length) {x : Int} (hx : xs[k] = x) : mixL n (xs.drop k) = mixL ((n * 613 + x + 1) % 991) (xs.drop (k + 1)) := by
  rw [List.drop_eq_getElem_cons hk, hx]
  rfl

set_option maxRecDepth 100000 in
set_option maxHeartbeats 4000000 in
theorem implPackSum_any (A : Option Addr) (c : Nat) (es : List Ent) (w : World) (h : Ents w w.heap.size A es) (hn : es.length ≤ 1048576) (hfe : FitE es) :
    Calls Try.prog 16 #[.slice A es.length c] w (Ret (.int .i64 (pSum es)) w) := by
  go_enter Try.func16, Try.ntmps16
  go_wp2_with fail
  refine (implPackObjects_any A c es w h hn hfe).mono ?_
  rintro e w1 ⟨v, rfl, o1, b1⟩
  obtain ⟨A1, c1, rfl, h1⟩ := o1.form
  cases hb : packB es
  · have HP := hid (pSum_no hb)
    go_wp2
    go_ret
    rw [HP.out]
    exact .mk_ b1
  · have hv := pack_valid hb
    have h16 := (packB_iff.1 hb).1
    have hlen : (packO es).length = es.length := by rw [packO_yes hb, objs_length (Nat.le_refl _)]
    have HS : Hid (pSum es = mixL (((packO es).length : Nat) : Int) ((packO es).map iOb)) := by show _ = _; unfold pSum; rw [if_pos hb, hlen]
    obtain ⟨list, hl⟩ : ∃ list, packO es = list := ⟨_, rfl⟩
    rw [hl] at hv hlen HS h1 ⊢
    have HV := hid hv
    have hl16 : list.length ≤ 16 := by omega
    obtain ⟨S, hS⟩ : ∃ S, pSum es = S := ⟨_, rfl⟩
    have HPS := hid hS
    rw [hS] at HS
    clear hb hl hlen hv h16 o1 hS
    have st : Hid (mixL ((list.length : Nat) : Int) ((list.map iOb).drop 0) = S) := by show _ = _; rw [List.drop_zero, HS.out]
    go_wp2_with fail
    go_loopw [5, 19] (fun s i wr => ∃ (k : Nat) (n : Int), i = .int .i64 k ∧ k ≤ list.length ∧ s = .int .i64 n ∧ 0 ≤ n ∧ n < 991 ∧ Hid (mixL n ((list.map iOb).drop k) = S) ∧ Below w1.heap.size w1 wr) (fun _ i _ => list.length - (intOf i).toNat)
    case atStart => exact ⟨0, _, rfl, Nat.zero_le _, rfl, by omega, by omega, st, Below.refl _ _⟩
    case round =>
      obtain ⟨k, n, rfl, hk, rfl, n0, n1, HN, hbw⟩ := hrel
      have hz := hbw.size
      by_cases hlt : k < list.length
      · obtain ⟨o, ad, A', c', ho, rfl, ha, g0, g1, g2, g3⟩ := (h1.below hbw (Nat.le_refl _)).obj hlt
        have hvo := HV.out o (by rw [← ho]; exact List.getElem_mem hlt)
        have hp := vldB_parts hvo
        obtain ⟨x, hx⟩ : ∃ x, iOb o = x := ⟨_, rfl⟩
        have hxr : 0 ≤ iOb o ∧ iOb o < 991 := ⟨iOb_valid.2 hvo, (iOb_range o).2⟩
        rw [hx] at hxr
        have HX := hid hx
        have HN2 : Hid (mixL ((n * 613 + x + 1) % 991) ((list.map iOb).drop (k + 1)) = S) := by
          show _ = _
          exact (mixL_step (n := n) (xs := list.map iOb) (k := k) (x := x) (by rw [List.length_map]; exact hlt) (by rw [List.getElem_map, ho, hx])).symm.trans HN.out
        obtain ⟨y, hy⟩ : ∃ y, (n * 613 + x + 1) % 991 = y := ⟨_, rfl⟩
        have hyr : 0 ≤ y ∧ y < 991 := by rw [← hy]; exact ⟨Int.emod_nonneg _ (by decide), Int.emod_lt_of_pos _ (by decide)⟩
        rw [hy] at HN2
        have HY := hid hy
        have i0 : 0 ≤ (k : Int) := by omega
        have i1 : (k : Int) < (list.length : Int) := by omega
        have al := (Below.refl wr.heap.size wr).alloc (Nat.le_refl _) (.cells #[.int .i64 o.kd, .slice A' o.zs.length c', .string o.s] 42)
        have u5 := Blk.new_ wr 42 (.int .i64 o.kd) (.slice A' o.zs.length c') (.string o.s)
        have g5 := g3.below al hz
        have b5 := hbw.trans (al.mono hz)
        have hm := hp.2.1
        have hs := hp.2.2.1
        obtain ⟨x0, x1, x2, -⟩ := id u5.reads
        clear hx hy ho hvo hp HN
        go_wp2_with fail
        refine (implId_val x w1.heap.size A' c' o _ g5 b5.size (by unfold maxLen; omega) (by unfold maxLen; omega) HX.out).mono ?_
        rintro e w6 ⟨rfl, hb6⟩
        have b6 := b5.trans (hb6.mono b5.size)
        clear al u5 g5 b5 x0 x1 x2 hb6 g0 g1 g2 g3
        go_wp2_with fail
        refine (mixId_any n x w6 n0 n1 hxr.1 hxr.2).mono ?_
        rintro e w7 ⟨rfl, rfl⟩
        rw [HY.out]
        go_wp2_with fail
        go_roundw
        case rel => exact ⟨k + 1, y, by go_num, by omega, rfl, hyr.1, hyr.2, HN2, b6⟩
        case measure => simp [intOf]; omega
      · have hk' : k = list.length := by omega
        subst hk'
        have HE : Hid (n = S) := by
          have := HN.out
          rw [List.drop_of_length_le (by simp)] at this
          exact this
        go_wp2
        go_ret
        rw [HPS.out, HE.out]
        exact .mk_ (b1.trans (hbw.mono b1.size))
end Go.Proofs.Ytkekbobnbipmoaa
