/-
  Walks: the program's five functions on refs and updates.
-/
import Derived.Test.YtdaodkacgoljbaaDoorRefJ
namespace Go.Proofs.YtdaodkacgoljbaaDoor
open Go.RowKit Wo Pu Rf

theorem row_here {w : World} {B : Nat} {A : Option Addr} {vs : List Value} (h : Row w B A vs) : Row w w.heap.size A vs := by
  rcases h with h | ⟨ad, e, hb, hc⟩
  · exact .inl h
  · cases vs with
    | nil => exact .inl rfl
    | cons v vs =>
      refine .inr ⟨ad, e, ?_, hc⟩
      have := hc 0 v rfl
      rw [add_zero] at this
      exact block_lt_of_cell this
set_option maxRecDepth 100000 in
set_option maxHeartbeats 8000000 in
theorem implUpdatesValid_is (b : Bool) (A : Option Addr) (c : Nat) (us : List Up) (w : World) (hr : Row w w.heap.size A (upsV us)) (hm : us.length ≤ 1048600) (hb : b = true ↔ UV us) :
    Calls Tryd.prog 38 #[.slice A us.length c] w (Ret (.bool b) w) := by
  have HB := hid hb
  clear hb
  go_enter Tryd.func38, Tryd.ntmps38
  go_wp2_with fail
  go_loopw [3, 8] (fun l i wr => ∃ (k : Nat) (x : Int), k ≤ us.length ∧ i = .int .i64 k ∧ l = .int .i64 x ∧ Hid (lastR us k = x) ∧ Hid (UpTo us k) ∧ Below w.heap.size w wr) (fun _ i _ => us.length - (intOf i).toNat)
  case atStart => exact ⟨0, -1, Nat.zero_le _, rfl, rfl, lastR_zero us, .zero us, Below.refl _ _⟩
  case round =>
    obtain ⟨k, x, hk, rfl, rfl, L, H, hbr⟩ := hrel
    have hz := hbr.size
    by_cases hlt : k < us.length
    · obtain ⟨o, ad, ho, rfl, ha1, g0, g1, g2⟩ := ((hr.below hbr (Nat.le_refl _)).more hz).up_ hlt
      have k0 : (0 : Int) ≤ (k : Int) := by omega
      have k1 : (k : Int) < (us.length : Int) := by omega
      obtain ⟨bv, hbv⟩ := bool_of (Ok o)
      have CV : Hid (∀ y, Calls Tryd.prog 48 #[.agg #[.int .i64 o.r, .int .i64 o.o, .int .i64 o.n]] y (Ret (.bool bv) y)) := fun y => valid_is bv o y hbv
      have hok := okU_iff hlt
      rw [ho, L.out] at hok
      have LN : Hid (lastR us (k + 1) = o.r) := by
        show _ = _
        rw [lastR_next hlt, ho]
      have HO := hid hok
      have HV := hid hbv
      have hbW := hbr.alloc hz (.cells #[.int .i64 o.r, .int .i64 o.o, .int .i64 o.n] 31)
      have u1 := Blk.new_ wr 31 (.int .i64 o.r) (.int .i64 o.o) (.int .i64 o.n)
      clear hok hbv ho L
      go_wp2_with fail
      refine (CV.out _).mono ?_
      rintro e w1 ⟨rfl, hb1⟩
      have b1 := hbW.trans (hb1.mono hbW.size)
      have v1 := u1.below hb1 u1.lt
      obtain ⟨z0, -, -, -⟩ := id v1.reads
      clear hb1 hbW u1 CV
      cases bv with
      | false =>
        have F := hid (uv_no HB.out hlt (fun h => by have := HV.out.2 (HO.out.1 h).1; cases this))
        clear H HO HV LN
        go_wp2_with fail
        go_ret
        rw [F.out]
        exact .mk_ b1
      | true =>
        by_cases hx : x < o.r
        · have e0 : decide (o.r ≤ x) = false := decide_eq_false (by omega)
          have HN := hid (H.out.next hlt (HO.out.2 ⟨HV.out.1 rfl, hx⟩))
          clear H HO HV hx
          go_wp2
          go_roundw
          case rel => exact ⟨k + 1, o.r, by omega, by go_num, rfl, LN, HN, b1⟩
          case measure => simp [intOf]; omega
        · have e0 : decide (o.r ≤ x) = true := decide_eq_true (by omega)
          have F := hid (uv_no HB.out hlt (fun h => hx (HO.out.1 h).2))
          clear H HO HV LN hx
          go_wp2
          go_ret
          rw [F.out]
          exact .mk_ b1
    · have hk' : k = us.length := by omega
      subst hk'
      by_cases h0 : us.length = 0
      · have F := hid (uv_none HB.out h0)
        have e0 : decide (0 < (us.length : Int)) = false := decide_eq_false (by omega)
        have e1 : decide (0 < us.length) = false := decide_eq_false (by omega)
        clear h0 H
        go_wp2
        go_ret
        rw [F.out]
        exact .mk_ hbr
      · have F := hid (uv_yes HB.out H.out h0)
        have e0 : decide (0 < (us.length : Int)) = true := decide_eq_true (by omega)
        have e1 : decide (0 < us.length) = true := decide_eq_true (by omega)
        clear h0 H
        go_wp2
        go_ret
        rw [F.out]
        exact .mk_ hbr

set_option maxHeartbeats 2000000 in
theorem copyNumbers_of (A : Option Addr) (c n : Nat) (zs : List Int) (w : World) (hr : Row w w.heap.size A (ints zs)) (hn : zs.length = n) (hm : n ≤ 10) :
    Calls Tryd.prog 31 #[.slice A n c] w (IntsOf zs w) := by
  obtain ⟨i0, hi, hz0, hz1, hz2⟩ := info_of info_int
  have al := (Below.refl w.heap.size w).alloc (Nat.le_refl _) (.cells #[] 3)
  have HN := hid hn
  clear hn
  go_enter Tryd.func31, Tryd.ntmps31
  go_wp2_with (at_builtin; go_must (refine wpList_append_row _ rfl _ _ 23 rfl w.heap.size 3 i0 (.int .i64 0) 1 8 Tryd.underlying23 hi hz0 hz1 hz2 rfl (by decide) _ 0 [] rfl (nil_own (Nat.le_refl _) _ _) w.heap.size A n c (ints zs) rfl (hr.below al (Nat.le_refl _)) (by rw [ints_length, HN.out]; omega) (by intro u hu; obtain ⟨x, _, rfl⟩ := List.mem_map.1 hu; rfl) (by unfold maxLen; omega) (by omega) (by simp) ?_); intro v4 w4 hown hg)
  have b4 : Below w.heap.size w w4 := al.grown hg (by simp) (fun j hj => by injection hj with hj; exact Nat.le_of_eq hj)
  have ho0 : OwnI w4 w.heap.size v4 zs := by
    unfold OwnI
    rw [Nat.zero_add, List.nil_append] at hown
    rw [HN.out]
    exact hown
  obtain ⟨A5, c5, rfl, -, -⟩ := ho0.form
  go_wp2
  go_ret
  exact ⟨A5, c5, rfl, ho0, b4⟩

/-! ### UpdatesCross. -/
set_option maxRecDepth 100000 in
set_option maxHeartbeats 8000000 in
theorem implUpdatesCross_is (x : Bool) (A A2 : Option Addr) (c c2 : Nat) (a b : List Up) (w : World) (ha : Row w w.heap.size A (upsV a)) (hb : Row w w.heap.size A2 (upsV b)) (hma : a.length ≤ 1048600) (hmb : b.length ≤ 1048600) (hx : x = true ↔ Cross a b) :
    Calls Tryd.prog 16 #[.slice A a.length c, .slice A2 b.length c2] w (Ret (.bool x) w) := by
  obtain ⟨va, hva⟩ := bool_of (UV a)
  obtain ⟨vb, hvb⟩ := bool_of (UV b)
  have CA : Hid (∀ y, Row y y.heap.size A (upsV a) → Calls Tryd.prog 38 #[.slice A a.length c] y (Ret (.bool va) y)) := fun y h => implUpdatesValid_is va A c a y h hma hva
  have CB : Hid (∀ y, Row y y.heap.size A2 (upsV b) → Calls Tryd.prog 38 #[.slice A2 b.length c2] y (Ret (.bool vb) y)) := fun y h => implUpdatesValid_is vb A2 c2 b y h hmb hvb
  have HX := hid hx
  clear hx
  cases va with
  | false =>
    have F : Hid (x = false) := by
      show x = false
      rw [← Bool.not_eq_true]
      exact fun e => absurd (hva.2 (HX.out.1 e).1) (by simp)
    clear hva hvb HX
    go_enter Tryd.func16, Tryd.ntmps16
    go_wp2_with fail
    refine (CA.out _ ha).mono ?_
    rintro e w1 ⟨rfl, b1⟩
    go_wp2_with fail
    go_ret
    rw [F.out]
    exact .mk_ b1
  | true =>
    cases vb with
    | false =>
      have F : Hid (x = false) := by
        show x = false
        rw [← Bool.not_eq_true]
        exact fun e => absurd (hvb.2 (HX.out.1 e).2.1) (by simp)
      clear hva hvb HX
      go_enter Tryd.func16, Tryd.ntmps16
      go_wp2_with fail
      refine (CA.out _ ha).mono ?_
      rintro e w1 ⟨rfl, hb1⟩
      go_wp2_with fail
      refine (CB.out _ ((hb.below hb1 (Nat.le_refl _)).more hb1.size)).mono ?_
      rintro e w2 ⟨rfl, hb2⟩
      have b1 := hb1.trans (hb2.mono hb1.size)
      go_wp2_with fail
      go_ret
      rw [F.out]
      exact .mk_ b1
    | true =>
      have ua := hid (hva.1 rfl)
      have ub := hid (hvb.1 rfl)
      have CN : Hid (∀ y, Row y y.heap.size A (upsV a) → Calls Tryd.prog 39 #[.slice A a.length c] y (Named4 a y)) := fun y h => updatedRefs_is A c a y h (refs4_of ua.out) hma
      have UB := hid (refs4_of ub.out)
      clear hva hvb
      go_enter Tryd.func16, Tryd.ntmps16
      go_wp2_with fail
      refine (CA.out _ ha).mono ?_
      rintro e w1 ⟨rfl, hb1⟩
      go_wp2_with fail
      refine (CB.out _ ((hb.below hb1 (Nat.le_refl _)).more hb1.size)).mono ?_
      rintro e w2 ⟨rfl, hb2⟩
      have b2 := hb1.trans (hb2.mono hb1.size)
      go_wp2_with fail
      refine (CN.out _ ((ha.below b2 (Nat.le_refl _)).more b2.size)).mono ?_
      rintro e w3 ⟨rfl, hb3⟩
      have b3 := b2.trans (hb3.mono b2.size)
      clear hb1 hb2 hb3 b2 CA CB CN ha
      obtain ⟨ys, hys⟩ : ∃ ys, nameds a a.length = ys := ⟨_, rfl⟩
      have HYO := hid (nameds_ones a a.length)
      rw [hys] at HYO
      have HY := hid hys
      have hyl : ys.toArray.size = 4 := by rw [← hys]; rfl
      have hyl' : (Tryd.prog.info? 57).map (·.size) = some ys.toArray.size := by rw [hyl]; exact info_bools
      have HYL := hid hyl
      have HYL' := hid hyl'
      have hs : (w3.alloc (.cells [.bool false, .bool false, .bool false, .bool false].toArray 57)).heap[w3.heap.size]? = some (.cells [.bool false, .bool false, .bool false, .bool false].toArray 57 (0, 0)) := heap_alloc_new w3 _
      have a4 := (Arr4.new_ w3 57 [.bool false, .bool false, .bool false, .bool false]).setRow ys
      have b4 := below_setRow (b3.alloc b3.size (.cells [.bool false, .bool false, .bool false, .bool false].toArray 57)) b3.size ys.toArray
      have z3 := b3.size
      rw [hys]
      clear hyl hyl' hys b3
      go_wp2_with (refine wpList_store_rowTo rfl 57 _ _ rfl rfl w3.heap.size ys.toArray rfl rfl 57 _ hs HYL'.out HYL.out.symm HYO.out ?_)
      go_loopw [20] (fun i wr => ∃ k : Nat, k ≤ b.length ∧ i = .int .i64 k ∧ Hid (Apart a b k) ∧ Arr4 wr w3.heap.size 57 ys ∧ Below w.heap.size w wr) (fun i _ => b.length - (intOf i).toNat)
      case atStart => exact ⟨0, Nat.zero_le _, rfl, .zero a b, a4, b4⟩
      case round =>
        obtain ⟨k, hk, rfl, H, a5, hbr⟩ := hrel
        clear a4 b4 hs
        have hz := hbr.size
        by_cases hlt : k < b.length
        · obtain ⟨o, ad, ho, rfl, ha1, g0, g1, g2⟩ := ((hb.below hbr (Nat.le_refl _)).more hz).up_ hlt
          obtain ⟨r0, r1⟩ := UB.out _ (List.getElem_mem hlt)
          rw [ho] at r0 r1
          obtain ⟨m, hm0⟩ := Int.eq_ofNat_of_zero_le r0
          have hm4 : m < 4 := by omega
          have hmy : m < ys.length := by rw [← HY.out]; simpa [nameds] using hm4
          have y0 : wr.cell? ⟨w3.heap.size, m, none⟩ = some (.bool (named a a.length m)) := by
            rw [a5.read hmy]
            congr 1
            have := nameds_get a a.length hm4
            simp only [HY.out] at this
            exact this
          have hnm : named a a.length b[k].r.toNat = named a a.length m := by rw [ho, hm0, Int.toNat_natCast]
          rw [hm0] at g0
          have lt5 := a5.lt
          have y1 : (wr.alloc (.cells #[.int .i64 (m : Int), .int .i64 o.o, .int .i64 o.n] 31)).cell? ⟨w3.heap.size, m, none⟩ = some (.bool (named a a.length m)) := by rw [World.cell?_alloc_lt _ _ _ lt5]; exact y0
          have hbW := hbr.alloc hz (.cells #[.int .i64 (m : Int), .int .i64 o.o, .int .i64 o.n] 31)
          have a6 := a5.alloc (.cells #[.int .i64 (m : Int), .int .i64 o.o, .int .i64 o.n] 31)
          have k0 : (0 : Int) ≤ (k : Int) := by omega
          have k1 : (k : Int) < (b.length : Int) := by omega
          have k2 : (0 : Int) ≤ (m : Int) := by omega
          have k3 : (m : Int) < 4 := by omega
          obtain ⟨nm, hn⟩ : ∃ nm, named a a.length m = nm := ⟨_, rfl⟩
          rw [hn] at y0 y1 hnm
          clear ho hm0 r0 r1 hn a5
          cases nm with
          | false =>
            have HN := hid (H.out.next hlt hnm)
            clear H hnm
            go_wp2
            go_roundw
            case rel => exact ⟨k + 1, by omega, by go_num, HN, a6, hbW⟩
            case measure => simp [intOf]; omega
          | true =>
            have F := hid (HX.out.2 (cross_named ua.out ub.out hlt hnm))
            clear H hnm
            go_wp2
            go_ret
            rw [F.out]
            exact .mk_ hbW
        · have hk' : k = b.length := by omega
          subst hk'
          have F : Hid (x = false) := by
            show x = false
            rw [← Bool.not_eq_true]
            exact fun e => H.out.none (HX.out.1 e)
          clear H
          go_wp2
          go_ret
          rw [F.out]
          exact .mk_ hbr
end Go.Proofs.YtdaodkacgoljbaaDoor
