/- The coordinator with the slices $SA and $SB is stored as the answer, with the word $BB. -/
/-
  Walks: the program's five functions on refs and updates.
-/
import Derived.Test.YteeffchnbkkpfabDoorRefJ
namespace Go.Proofs.YteeffchnbkkpfabDoor
open Go.RowKit Wo Pu Rf

theorem row_here {w : World} {B : Nat} {A : Option Addr} {vs : List Value} (h : Row w B A vs) : Row w w.heap.size A vs := by
  rcases h with h | ⟨ad, e, hb, hc⟩
  · exact .inl h
  · cases vs with
    | nil => exact .inl rfl
    | cons v vs =>
      refine .inr ⟨ad, e, ?_, hc⟩
      have := hc 0 v rfl
      rw [add_zero] at this
      exact block_lt_of_cell this
/-- An array of refs, and whether the refs are valid: if they are, they are these. -/
def ArrOf (b : Bool) (zs : List Int) (w : World) (e : Ending) (w' : World) : Prop := ∃ ys : List Int, e = .returned (.tuple #[.agg (ints ys).toArray, .bool b]) ∧ ys.length = 4 ∧ Hid (b = true → ys = zs) ∧ Below w.heap.size w w'
theorem readRefs_arr (b : Bool) (A : Option Addr) (c : Nat) (zs : List Int) (w : World) (B : Nat) (hr : Row w B A (ints zs)) (hb : b = true ↔ RV zs) :
    Calls Tryd.prog 53 #[.slice A zs.length c] w (ArrOf b zs w) :=
  (readRefs_is b A c zs w _ (row_here hr) (Nat.le_refl _) hb).mono fun _ _ h => ⟨_, h.1, by
    cases b with
    | false => rfl
    | true => exact (hb.1 rfl).1, fun e => by rw [e]; rfl, h.2⟩
theorem arr_size {ys : List Int} (h : ys.length = 4) : (ints ys).toArray.size = 4 := by rw [List.size_toArray, ints_length, h]
theorem arr_info {ys : List Int} (h : ys.length = 4) : (Tryd.prog.info? 73).map (·.size) = some (ints ys).toArray.size := by rw [arr_size h]; exact info_refs
/-- A new block of refs that have been stored into it. -/
theorem arr_new (w : World) (ys : List Int) : Arr4 ((w.alloc (.cells (ints [0, 0, 0, 0]).toArray 73)).setRow w.heap.size (ints ys).toArray) w.heap.size 73 (ints ys) := (Arr4.new_ w 73 (ints [0, 0, 0, 0])).setRow (ints ys)
theorem arr_below {w0 w : World} {B : Nat} (hb : Below B w0 w) (hB : B ≤ w.heap.size) (ys : List Int) : Below B w0 ((w.alloc (.cells (ints [0, 0, 0, 0]).toArray 73)).setRow w.heap.size (ints ys).toArray) := below_setRow (hb.alloc hB _) hB _
theorem arr_old (w : World) : (w.alloc (.cells (ints [0, 0, 0, 0]).toArray 73)).heap[w.heap.size]? = some (.cells (ints [0, 0, 0, 0]).toArray 73 (0, 0)) := heap_alloc_new w _
theorem arr_sz (w : World) (ys : List Int) : ((w.alloc (.cells (ints [0, 0, 0, 0]).toArray 73)).setRow w.heap.size (ints ys).toArray).heap.size = w.heap.size + 1 := by rw [size_setRow, World.size_alloc]
set_option maxRecDepth 100000 in
set_option maxHeartbeats 8000000 in
theorem implUpdatesValid_is (b : Bool) (A : Option Addr) (c : Nat) (us : List Up) (w : World) (hr : Row w w.heap.size A (upsV us)) (hm : us.length ≤ 1048600) (hb : b = true ↔ UV us) :
    Calls Tryd.prog 54 #[.slice A us.length c] w (Ret (.bool b) w) := by
  have HB := hid hb
  clear hb
  go_enter Tryd.func54, Tryd.ntmps54
  go_wp2_with fail
  go_loopw [3, 8] (fun l i wr => ∃ (k : Nat) (x : Int), k ≤ us.length ∧ i = .int .i64 k ∧ l = .int .i64 x ∧ Hid (lastR us k = x) ∧ Hid (UpTo us k) ∧ Below w.heap.size w wr) (fun _ i _ => us.length - (intOf i).toNat)
  case atStart => exact ⟨0, -1, Nat.zero_le _, rfl, rfl, lastR_zero us, .zero us, Below.refl _ _⟩
  case round =>
    obtain ⟨k, x, hk, rfl, rfl, L, H, hbr⟩ := hrel
    have hz := hbr.size
    by_cases hlt : k < us.length
    · obtain ⟨o, ad, ho, rfl, ha1, g0, g1, g2⟩ := ((hr.below hbr (Nat.le_refl _)).more hz).up_ hlt
      have k0 : (0 : Int) ≤ (k : Int) := by omega
      have k1 : (k : Int) < (us.length : Int) := by omega
      obtain ⟨bv, hbv⟩ := bool_of (Ok o)
      have CV : Hid (∀ y, Calls Tryd.prog 82 #[.agg #[.int .i64 o.r, .int .i64 o.o, .int .i64 o.n]] y (Ret (.bool bv) y)) := fun y => valid_is bv o y hbv
      have hok := okU_iff hlt
      rw [ho, L.out] at hok
      have LN : Hid (lastR us (k + 1) = o.r) := by
        show _ = _
        rw [lastR_next hlt, ho]
      have HO := hid hok
      have HV := hid hbv
      have hbW := hbr.alloc hz (.cells #[.int .i64 o.r, .int .i64 o.o, .int .i64 o.n] 100)
      have u1 := Blk.new_ wr 100 (.int .i64 o.r) (.int .i64 o.o) (.int .i64 o.n)
      clear hok hbv ho L
      go_wp2_with fail
      refine (CV.out _).mono ?_
      rintro e w1 ⟨rfl, hb1⟩
      have b1 := hbW.trans (hb1.mono hbW.size)
      have v1 := u1.below hb1 u1.lt
      obtain ⟨z0, -, -, -⟩ := id v1.reads
      clear hb1 hbW u1 CV
      cases bv with
      | false =>
        have F := hid (uv_no HB.out hlt (fun h => by have := HV.out.2 (HO.out.1 h).1; cases this))
        clear H HO HV LN
        go_wp2_with fail
        go_ret
        rw [F.out]
        exact .mk_ b1
      | true =>
        by_cases hx : x < o.r
        · have e0 : decide (o.r ≤ x) = false := decide_eq_false (by omega)
          have HN := hid (H.out.next hlt (HO.out.2 ⟨HV.out.1 rfl, hx⟩))
          clear H HO HV hx
          go_wp2
          go_roundw
          case rel => exact ⟨k + 1, o.r, by omega, by go_num, rfl, LN, HN, b1⟩
          case measure => simp [intOf]; omega
        · have e0 : decide (o.r ≤ x) = true := decide_eq_true (by omega)
          have F := hid (uv_no HB.out hlt (fun h => hx (HO.out.1 h).2))
          clear H HO HV LN hx
          go_wp2
          go_ret
          rw [F.out]
          exact .mk_ b1
    · have hk' : k = us.length := by omega
      subst hk'
      by_cases h0 : us.length = 0
      · have F := hid (uv_none HB.out h0)
        have e0 : decide (0 < (us.length : Int)) = false := decide_eq_false (by omega)
        have e1 : decide (0 < us.length) = false := decide_eq_false (by omega)
        clear h0 H
        go_wp2
        go_ret
        rw [F.out]
        exact .mk_ hbr
      · have F := hid (uv_yes HB.out H.out h0)
        have e0 : decide (0 < (us.length : Int)) = true := decide_eq_true (by omega)
        have e1 : decide (0 < us.length) = true := decide_eq_true (by omega)
        clear h0 H
        go_wp2
        go_ret
        rw [F.out]
        exact .mk_ hbr

set_option maxHeartbeats 2000000 in
theorem copyNumbers_of (A : Option Addr) (c n : Nat) (zs : List Int) (w : World) (hr : Row w w.heap.size A (ints zs)) (hn : zs.length = n) (hm : n ≤ 10) :
    Calls Tryd.prog 56 #[.slice A n c] w (IntsOf zs w) := by
  obtain ⟨i0, hi, hz0, hz1, hz2⟩ := info_of info_int
  have al := (Below.refl w.heap.size w).alloc (Nat.le_refl _) (.cells #[] 3)
  have HN := hid hn
  clear hn
  go_enter Tryd.func56, Tryd.ntmps56
  go_wp2_with (at_builtin; go_must (refine wpList_append_row _ rfl _ _ 27 rfl w.heap.size 3 i0 (.int .i64 0) 1 8 Tryd.underlying27 hi hz0 hz1 hz2 rfl (by decide) _ 0 [] rfl (nil_own (Nat.le_refl _) _ _) w.heap.size A n c (ints zs) rfl (hr.below al (Nat.le_refl _)) (by rw [ints_length, HN.out]; omega) (by intro u hu; obtain ⟨x, _, rfl⟩ := List.mem_map.1 hu; rfl) (by unfold maxLen; omega) (by omega) (by simp) ?_); intro v4 w4 hown hg)
  have b4 : Below w.heap.size w w4 := al.grown hg (by simp) (fun j hj => by injection hj with hj; exact Nat.le_of_eq hj)
  have ho0 : OwnI w4 w.heap.size v4 zs := by
    unfold OwnI
    rw [Nat.zero_add, List.nil_append] at hown
    rw [HN.out]
    exact hown
  obtain ⟨A5, c5, rfl, -, -⟩ := ho0.form
  go_wp2
  go_ret
  exact ⟨A5, c5, rfl, ho0, b4⟩
/-! ### RefsApply. -/
set_option maxRecDepth 100000 in
set_option maxHeartbeats 8000000 in
theorem implRefsApply_is (y : RWay) (A A2 : Option Addr) (c c2 : Nat) (zs : List Int) (us : List Up) (w : World) (hz : Row w w.heap.size A (ints zs)) (hu : Row w w.heap.size A2 (upsV us)) (_ : zs.length ≤ 1048600) (hm : us.length ≤ 1048600) (hy : IsRWay zs us y) :
    Calls Tryd.prog 19 #[.slice A zs.length c, .slice A2 us.length c2] w (Applied zs us y w) := by
  obtain ⟨vz, hvz⟩ := bool_of (RV zs)
  obtain ⟨vu, hvu⟩ := bool_of (UV us)
  have CR := hid (readRefs_arr vz A c zs w _ hz hvz)
  have CU : Hid (∀ x, Row x x.heap.size A2 (upsV us) → Calls Tryd.prog 54 #[.slice A2 us.length c2] x (Ret (.bool vu) x)) := fun x h => implUpdatesValid_is vu A2 c2 us x h hm hvu
  cases vz with
  | false =>
    obtain rfl : y = .bad := by
      cases y with
      | bad => rfl
      | no => exact absurd (hvz.2 hy.1) (by simp)
      | yes => exact absurd (hvz.2 hy.1) (by simp)
    clear hvz hvu hy
    go_enter Tryd.func19, Tryd.ntmps19
    go_wp2_with fail
    refine CR.out.mono ?_
    rintro e w1 ⟨ys, rfl, h4, -, hb1⟩
    have H4 := hid h4
    have hs := arr_old w1
    have hb2 := arr_below hb1 hb1.size ys
    clear h4
    go_wp2_with (refine wpList_store_rowTo rfl 73 _ _ rfl rfl w1.heap.size (ints ys).toArray rfl rfl 73 (ints [0, 0, 0, 0]).toArray hs (arr_info H4.out) (arr_size H4.out).symm (ints_ones _) ?_)
    go_ret2
    have on := OwnI.nil_new hb2.size
    rw [arr_sz] at on
    exact ⟨_, _, rfl, on, hb2.alloc hb2.size _⟩
  | true =>
    have rv := hvz.1 rfl
    cases vu with
    | false =>
      obtain rfl : y = .bad := by
        cases y with
        | bad => rfl
        | no => exact absurd (hvu.2 hy.2.1) (by simp)
        | yes => exact absurd (hvu.2 hy.2.1) (by simp)
      clear hvz hvu hy rv
      go_enter Tryd.func19, Tryd.ntmps19
      go_wp2_with fail
      refine CR.out.mono ?_
      rintro e w1 ⟨ys, rfl, h4, -, hb1⟩
      have H4 := hid h4
      have hs := arr_old w1
      have hb2 := arr_below hb1 hb1.size ys
      have ru := (hu.below hb2 (Nat.le_refl _)).more hb2.size
      clear h4 hu hz
      go_wp2_with (refine wpList_store_rowTo rfl 73 _ _ rfl rfl w1.heap.size (ints ys).toArray rfl rfl 73 (ints [0, 0, 0, 0]).toArray hs (arr_info H4.out) (arr_size H4.out).symm (ints_ones _) ?_)
      refine (CU.out _ ru).mono ?_
      rintro e w2 ⟨rfl, hb3⟩
      have b3 := hb2.trans (hb3.mono hb2.size)
      clear hb1 hb2 hb3 hs ru
      go_wp2_with fail
      go_ret2
      exact ⟨_, _, rfl, OwnI.nil_new b3.size, b3.alloc b3.size _⟩
    | true =>
      have uv := hvu.1 rfl
      have h4 := rv.1
      obtain ⟨f, hf⟩ := bool_of (Fits zs us)
      have hyf : applied zs us y = (if f then setR zs us else zs) ∧ y.ok = f := by
        cases f with
        | false =>
          cases y with
          | bad => exact absurd ⟨rv, uv⟩ hy
          | no => exact ⟨rfl, rfl⟩
          | yes => exact absurd (hf.2 hy.2.2) (by simp)
        | true =>
          cases y with
          | bad => exact absurd ⟨rv, uv⟩ hy
          | no => exact absurd (hf.1 rfl) hy.2.2
          | yes => exact ⟨rfl, rfl⟩
      have CF : Hid (∀ x, Row x x.heap.size A2 (upsV us) → Calls Tryd.prog 55 #[.agg (ints zs).toArray, .slice A2 us.length c2] x (Updt f zs us x)) := fun x h1 => updated_is f A2 c2 zs us x h4 h1 (refs4_of uv) hm hf
      have H4 := hid h4
      have HL : Hid ((if f then setR zs us else zs).length = 4) := by
        show _ = _
        cases f with
        | false => exact h4
        | true => exact (setR_length us zs).trans h4
      have HY := hid hyf
      unfold Applied
      rw [HY.out.1, HY.out.2]
      clear hvz hvu hy rv uv h4 hf hyf HY
      obtain ⟨xs, hxs⟩ : ∃ xs, (if f then setR zs us else zs) = xs := ⟨_, rfl⟩
      unfold Updt at CF
      rw [hxs] at HL CF ⊢
      clear hxs
      go_enter Tryd.func19, Tryd.ntmps19
      go_wp2_with fail
      refine CR.out.mono ?_
      rintro e w1 ⟨ys, rfl, -, HYS, hb1⟩
      obtain rfl : ys = zs := HYS.out rfl
      have hs := arr_old w1
      have hb2 := arr_below hb1 hb1.size ys
      have a2 := arr_new w1 ys
      have ru := (hu.below hb2 (Nat.le_refl _)).more hb2.size
      clear HYS CR hz
      go_wp2_with (refine wpList_store_rowTo rfl 73 _ _ rfl rfl w1.heap.size (ints ys).toArray rfl rfl 73 (ints [0, 0, 0, 0]).toArray hs (arr_info H4.out) (arr_size H4.out).symm (ints_ones _) ?_)
      refine (CU.out _ ru).mono ?_
      rintro e w2 ⟨rfl, hb3⟩
      have b3 := hb2.trans (hb3.mono hb2.size)
      have a3 := a2.below hb3 a2.lt
      have ru3 := (hu.below b3 (Nat.le_refl _)).more b3.size
      have hl : w2.heap[w1.heap.size]? = some (.cells (ints ys).toArray 73 (0, 0)) := a3
      clear hb1 hb2 hb3 hs ru a2 CU
      go_wp2_with (refine wpList_load_row rfl 73 _ rfl w1.heap.size rfl 73 (ints ys).toArray (0, 0) _ hl Tryd.underlying73 rfl (arr_info H4.out) ?_)
      refine (CF.out _ ru3).mono ?_
      rintro e w3 ⟨rfl, hb4⟩
      have b4 := b3.trans (hb4.mono b3.size)
      have hs := arr_old w3
      have b5 := arr_below b4 b4.size xs
      have a5 := arr_new w3 xs
      have r5 := a5.row
      clear hb4 b3 a3 ru3 hl CF hu
      go_wp2_with (refine wpList_store_rowTo rfl 73 _ _ rfl rfl w3.heap.size (ints xs).toArray rfl rfl 73 (ints [0, 0, 0, 0]).toArray hs (arr_info HL.out) (arr_size HL.out).symm (ints_ones _) ?_)
      refine (copyNumbers_of _ _ 4 xs _ r5 HL.out (by omega)).mono ?_
      rintro e w4 ⟨A5, c5, rfl, ho, hb6⟩
      have b6 := b5.trans (hb6.mono b5.size)
      have ho6 := ho.base b5.size
      go_wp2_with fail
      go_ret2
      exact ⟨A5, c5, rfl, ho6, b6⟩

end Go.Proofs.YteeffchnbkkpfabDoor
