/-
  Walks: the program's five functions on refs and updates.
-/
import Derived.Test.YtimoabghkmebfabRefJ
namespace Go.Proofs.Ytimoabghkmebfab
open Go.RowKit Wo Pu Rf

theorem row_here {w : World} {B : Nat} {A : Option Addr} {vs : List Value} (h : Row w B A vs) : Row w w.heap.size A vs := by
  rcases h with h | ⟨ad, e, hb, hc⟩
  · exact .inl h
  · cases vs with
    | nil => exact .inl rfl
    | cons v vs =>
      refine .inr ⟨ad, e, ?_, hc⟩
      have := hc 0 v rfl
      rw [add_zero] at this
      exact block_lt_of_cell this
/-- An array of refs, and whether the refs are valid: if they are, they are these. -/
def ArrOf (b : Bool) (zs : List Int) (w : World) (e : Ending) (w' : World) : Prop := ∃ ys : List Int, e = .returned (.tuple #[.agg (ints ys).toArray, .bool b]) ∧ ys.length = 4 ∧ Hid (b = true → ys = zs) ∧ Below w.heap.size w w'
theorem readRefs_arr (b : Bool) (A : Option Addr) (c : Nat) (zs : List Int) (w : World) (B : Nat) (hr : Row w B A (ints zs)) (hb : b = true ↔ RV zs) :
    Calls Try.prog 41 #[.slice A zs.length c] w (ArrOf b zs w) :=
  (readRefs_is b A c zs w _ (row_here hr) (Nat.le_refl _) hb).mono fun _ _ h => ⟨_, h.1, by
    cases b with
    | false => rfl
    | true => exact (hb.1 rfl).1, fun e => by rw [e]; rfl, h.2⟩
theorem arr_size {ys : List Int} (h : ys.length = 4) : (ints ys).toArray.size = 4 := by rw [List.size_toArray, ints_length, h]
theorem arr_info {ys : List Int} (h : ys.length = 4) : (Try.prog.info? 57).map (·.size) = some (ints ys).toArray.size := by rw [arr_size h]; exact info_refs
/-- A new block of refs that have been stored into it. -/
theorem arr_new (w : World) (ys : List Int) : Arr4 ((w.alloc (.cells (ints [0, 0, 0, 0]).toArray 57)).setRow w.heap.size (ints ys).toArray) w.heap.size 57 (ints ys) := (Arr4.new_ w 57 (ints [0, 0, 0, 0])).setRow (ints ys)
theorem arr_below {w0 w : World} {B : Nat} (hb : Below B w0 w) (hB : B ≤ w.heap.size) (ys : List Int) : Below B w0 ((w.alloc (.cells (ints [0, 0, 0, 0]).toArray 57)).setRow w.heap.size (ints ys).toArray) := below_setRow (hb.alloc hB _) hB _
theorem arr_old (w : World) : (w.alloc (.cells (ints [0, 0, 0, 0]).toArray 57)).heap[w.heap.size]? = some (.cells (ints [0, 0, 0, 0]).toArray 57 (0, 0)) := heap_alloc_new w _
theorem arr_sz (w : World) (ys : List Int) : ((w.alloc (.cells (ints [0, 0, 0, 0]).toArray 57)).setRow w.heap.size (ints ys).toArray).heap.size = w.heap.size + 1 := by rw [size_setRow, World.size_alloc]
set_option maxHeartbeats 4000000 in
theorem implRefsValid_is (b : Bool) (A : Option Addr) (c : Nat) (zs : List Int) (w : World) (B : Nat) (hr : Row w B A (ints zs)) (_ : zs.length ≤ 1048600) (hb : b = true ↔ RV zs) :
    Calls Try.prog 15 #[.slice A zs.length c] w (Ret (.bool b) w) := by
  have CR := hid (readRefs_arr b A c zs w B hr hb)
  clear hb
  go_enter Try.func15, Try.ntmps15
  go_wp2_with fail
  refine CR.out.mono ?_
  rintro e w1 ⟨ys, rfl, h4, -, hb1⟩
  have H4 := hid h4
  have hs := arr_old w1
  have hb2 := arr_below hb1 hb1.size ys
  clear h4
  go_wp2_with (refine wpList_store_rowTo rfl 57 _ _ rfl rfl w1.heap.size (ints ys).toArray rfl rfl 57 (ints [0, 0, 0, 0]).toArray hs (arr_info H4.out) (arr_size H4.out).symm (ints_ones _) ?_)
  go_ret
  exact .mk_ hb2
set_option maxRecDepth 100000 in
set_option maxHeartbeats 8000000 in
theorem implUpdatesValid_is (b : Bool) (A : Option Addr) (c : Nat) (us : List Up) (w : World) (hr : Row w w.heap.size A (upsV us)) (hm : us.length ≤ 1048600) (hb : b = true ↔ UV us) :
    Calls Try.prog 12 #[.slice A us.length c] w (Ret (.bool b) w) := by
  have HB := hid hb
  clear hb
  go_enter Try.func12, Try.ntmps12
  go_wp2_with fail
  go_loopw [3, 8] (fun l i wr => ∃ (k : Nat) (x : Int), k ≤ us.length ∧ i = .int .i64 k ∧ l = .int .i64 x ∧ Hid (lastR us k = x) ∧ Hid (UpTo us k) ∧ Below w.heap.size w wr) (fun _ i _ => us.length - (intOf i).toNat)
  case atStart => exact ⟨0, -1, Nat.zero_le _, rfl, rfl, lastR_zero us, .zero us, Below.refl _ _⟩
  case round =>
    obtain ⟨k, x, hk, rfl, rfl, L, H, hbr⟩ := hrel
    have hz := hbr.size
    by_cases hlt : k < us.length
    · obtain ⟨o, ad, ho, rfl, ha1, g0, g1, g2⟩ := ((hr.below hbr (Nat.le_refl _)).more hz).up_ hlt
      have k0 : (0 : Int) ≤ (k : Int) := by omega
      have k1 : (k : Int) < (us.length : Int) := by omega
      obtain ⟨bv, hbv⟩ := bool_of (Ok o)
      have CV : Hid (∀ y, Calls Try.prog 38 #[.agg #[.int .i64 o.r, .int .i64 o.o, .int .i64 o.n]] y (Ret (.bool bv) y)) := fun y => valid_is bv o y hbv
      have hok := okU_iff hlt
      rw [ho, L.out] at hok
      have LN : Hid (lastR us (k + 1) = o.r) := by
        show _ = _
        rw [lastR_next hlt, ho]
      have HO := hid hok
      have HV := hid hbv
      have hbW := hbr.alloc hz (.cells #[.int .i64 o.r, .int .i64 o.o, .int .i64 o.n] 52)
      have u1 := Blk.new_ wr 52 (.int .i64 o.r) (.int .i64 o.o) (.int .i64 o.n)
      clear hok hbv ho L
      go_wp2_with fail
      refine (CV.out _).mono ?_
      rintro e w1 ⟨rfl, hb1⟩
      have b1 := hbW.trans (hb1.mono hbW.size)
      have v1 := u1.below hb1 u1.lt
      obtain ⟨z0, -, -, -⟩ := id v1.reads
      clear hb1 hbW u1 CV
      cases bv with
      | false =>
        have F := hid (uv_no HB.out hlt (fun h => by have := HV.out.2 (HO.out.1 h).1; cases this))
        clear H HO HV LN
        go_wp2_with fail
        go_ret
        rw [F.out]
        exact .mk_ b1
      | true =>
        by_cases hx : x < o.r
        · have e0 : decide (o.r ≤ x) = false := decide_eq_false (by omega)
          have HN := hid (H.out.next hlt (HO.out.2 ⟨HV.out.1 rfl, hx⟩))
          clear H HO HV hx
          go_wp2
          go_roundw
          case rel => exact ⟨k + 1, o.r, by omega, by go_num, rfl, LN, HN, b1⟩
          case measure => simp [intOf]; omega
        · have e0 : decide (o.r ≤ x) = true := decide_eq_true (by omega)
          have F := hid (uv_no HB.out hlt (fun h => hx (HO.out.1 h).2))
          clear H HO HV LN hx
          go_wp2
          go_ret
          rw [F.out]
          exact .mk_ b1
    · have hk' : k = us.length := by omega
      subst hk'
      by_cases h0 : us.length = 0
      · have F := hid (uv_none HB.out h0)
        have e0 : decide (0 < (us.length : Int)) = false := decide_eq_false (by omega)
        have e1 : decide (0 < us.length) = false := decide_eq_false (by omega)
        clear h0 H
        go_wp2
        go_ret
        rw [F.out]
        exact .mk_ hbr
      · have F := hid (uv_yes HB.out H.out h0)
        have e0 : decide (0 < (us.length : Int)) = true := decide_eq_true (by omega)
        have e1 : decide (0 < us.length) = true := decide_eq_true (by omega)
        clear h0 H
        go_wp2
        go_ret
        rw [F.out]
        exact .mk_ hbr

/-! ### RefsApply. -/
set_option maxHeartbeats 2000000 in
theorem copyNumbers_of (A : Option Addr) (c n : Nat) (zs : List Int) (w : World) (hr : Row w w.heap.size A (ints zs)) (hn : zs.length = n) (hm : n ≤ 10) :
    Calls Try.prog 43 #[.slice A n c] w (IntsOf zs w) := by
  obtain ⟨i0, hi, hz0, hz1, hz2⟩ := info_of info_int
  have al := (Below.refl w.heap.size w).alloc (Nat.le_refl _) (.cells #[] 3)
  have HN := hid hn
  clear hn
  go_enter Try.func43, Try.ntmps43
  go_wp2_with (at_builtin; go_must (refine wpList_append_row _ rfl _ _ 27 rfl w.heap.size 3 i0 (.int .i64 0) 1 8 Try.underlying27 hi hz0 hz1 hz2 rfl (by decide) _ 0 [] rfl (nil_own (Nat.le_refl _) _ _) w.heap.size A n c (ints zs) rfl (hr.below al (Nat.le_refl _)) (by rw [ints_length, HN.out]; omega) (by intro u hu; obtain ⟨x, _, rfl⟩ := List.mem_map.1 hu; rfl) (by unfold maxLen; omega) (by omega) (by simp) ?_); intro v4 w4 hown hg)
  have b4 : Below w.heap.size w w4 := al.grown hg (by simp) (fun j hj => by injection hj with hj; exact Nat.le_of_eq hj)
  have ho0 : OwnI w4 w.heap.size v4 zs := by
    unfold OwnI
    rw [Nat.zero_add, List.nil_append] at hown
    rw [HN.out]
    exact hown
  obtain ⟨A5, c5, rfl, -, -⟩ := ho0.form
  go_wp2
  go_ret
  exact ⟨A5, c5, rfl, ho0, b4⟩
set_option maxRecDepth 100000 in
set_option maxHeartbeats 8000000 in
theorem implRefsApply_is (y : RWay) (A A2 : Option Addr) (c c2 : Nat) (zs : List Int) (us : List Up) (w : World) (hz : Row w w.heap.size A (ints zs)) (hu : Row w w.heap.size A2 (upsV us)) (_ : zs.length ≤ 1048600) (hm : us.length ≤ 1048600) (hy : IsRWay zs us y) :
    Calls Try.prog 18 #[.slice A zs.length c, .slice A2 us.length c2] w (Applied zs us y w) := by
  obtain ⟨vz, hvz⟩ := bool_of (RV zs)
  obtain ⟨vu, hvu⟩ := bool_of (UV us)
  have CR := hid (readRefs_arr vz A c zs w _ hz hvz)
  have CU : Hid (∀ x, Row x x.heap.size A2 (upsV us) → Calls Try.prog 12 #[.slice A2 us.length c2] x (Ret (.bool vu) x)) := fun x h => implUpdatesValid_is vu A2 c2 us x h hm hvu
  cases vz with
  | false =>
    obtain rfl : y = .bad := by
      cases y with
      | bad => rfl
      | no => exact absurd (hvz.2 hy.1) (by simp)
      | yes => exact absurd (hvz.2 hy.1) (by simp)
    clear hvz hvu hy
    go_enter Try.func18, Try.ntmps18
    go_wp2_with fail
    refine CR.out.mono ?_
    rintro e w1 ⟨ys, rfl, h4, -, hb1⟩
    have H4 := hid h4
    have hs := arr_old w1
    have hb2 := arr_below hb1 hb1.size ys
    clear h4
    go_wp2_with (refine wpList_store_rowTo rfl 57 _ _ rfl rfl w1.heap.size (ints ys).toArray rfl rfl 57 (ints [0, 0, 0, 0]).toArray hs (arr_info H4.out) (arr_size H4.out).symm (ints_ones _) ?_)
    go_ret2
    have on := OwnI.nil_new hb2.size
    rw [arr_sz] at on
    exact ⟨_, _, rfl, on, hb2.alloc hb2.size _⟩
  | true =>
    have rv := hvz.1 rfl
    cases vu with
    | false =>
      obtain rfl : y = .bad := by
        cases y with
        | bad => rfl
        | no => exact absurd (hvu.2 hy.2.1) (by simp)
        | yes => exact absurd (hvu.2 hy.2.1) (by simp)
      clear hvz hvu hy rv
      go_enter Try.func18, Try.ntmps18
      go_wp2_with fail
      refine CR.out.mono ?_
      rintro e w1 ⟨ys, rfl, h4, -, hb1⟩
      have H4 := hid h4
      have hs := arr_old w1
      have hb2 := arr_below hb1 hb1.size ys
      have ru := (hu.below hb2 (Nat.le_refl _)).more hb2.size
      clear h4 hu hz
      go_wp2_with (refine wpList_store_rowTo rfl 57 _ _ rfl rfl w1.heap.size (ints ys).toArray rfl rfl 57 (ints [0, 0, 0, 0]).toArray hs (arr_info H4.out) (arr_size H4.out).symm (ints_ones _) ?_)
      refine (CU.out _ ru).mono ?_
      rintro e w2 ⟨rfl, hb3⟩
      have b3 := hb2.trans (hb3.mono hb2.size)
      clear hb1 hb2 hb3 hs ru
      go_wp2_with fail
      go_ret2
      exact ⟨_, _, rfl, OwnI.nil_new b3.size, b3.alloc b3.size _⟩
    | true =>
      have uv := hvu.1 rfl
      have h4 := rv.1
      obtain ⟨f, hf⟩ := bool_of (Fits zs us)
      have hyf : applied zs us y = (if f then setR zs us else zs) ∧ y.ok = f := by
        cases f with
        | false =>
          cases y with
          | bad => exact absurd ⟨rv, uv⟩ hy
          | no => exact ⟨rfl, rfl⟩
          | yes => exact absurd (hf.2 hy.2.2) (by simp)
        | true =>
          cases y with
          | bad => exact absurd ⟨rv, uv⟩ hy
          | no => exact absurd (hf.1 rfl) hy.2.2
          | yes => exact ⟨rfl, rfl⟩
      have CF : Hid (∀ x, Row x x.heap.size A2 (upsV us) → Calls Try.prog 42 #[.agg (ints zs).toArray, .slice A2 us.length c2] x (Updt f zs us x)) := fun x h1 => updated_is f A2 c2 zs us x h4 h1 (refs4_of uv) hm hf
      have H4 := hid h4
      have HL : Hid ((if f then setR zs us else zs).length = 4) := by
        show _ = _
        cases f with
        | false => exact h4
        | true => exact (setR_length us zs).trans h4
      have HY := hid hyf
      unfold Applied
      rw [HY.out.1, HY.out.2]
      clear hvz hvu hy rv uv h4 hf hyf HY
      obtain ⟨xs, hxs⟩ : ∃ xs, (if f then setR zs us else zs) = xs := ⟨_, rfl⟩
      unfold Updt at CF
      rw [hxs] at HL CF ⊢
      clear hxs
      go_enter Try.func18, Try.ntmps18
      go_wp2_with fail
      refine CR.out.mono ?_
      rintro e w1 ⟨ys, rfl, -, HYS, hb1⟩
      obtain rfl : ys = zs := HYS.out rfl
      have hs := arr_old w1
      have hb2 := arr_below hb1 hb1.size ys
      have a2 := arr_new w1 ys
      have ru := (hu.below hb2 (Nat.le_refl _)).more hb2.size
      clear HYS CR hz
      go_wp2_with (refine wpList_store_rowTo rfl 57 _ _ rfl rfl w1.heap.size (ints ys).toArray rfl rfl 57 (ints [0, 0, 0, 0]).toArray hs (arr_info H4.out) (arr_size H4.out).symm (ints_ones _) ?_)
      refine (CU.out _ ru).mono ?_
      rintro e w2 ⟨rfl, hb3⟩
      have b3 := hb2.trans (hb3.mono hb2.size)
      have a3 := a2.below hb3 a2.lt
      have ru3 := (hu.below b3 (Nat.le_refl _)).more b3.size
      have hl : w2.heap[w1.heap.size]? = some (.cells (ints ys).toArray 57 (0, 0)) := a3
      clear hb1 hb2 hb3 hs ru a2 CU
      go_wp2_with (refine wpList_load_row rfl 57 _ rfl w1.heap.size rfl 57 (ints ys).toArray (0, 0) _ hl Try.underlying57 rfl (arr_info H4.out) ?_)
      refine (CF.out _ ru3).mono ?_
      rintro e w3 ⟨rfl, hb4⟩
      have b4 := b3.trans (hb4.mono b3.size)
      have hs := arr_old w3
      have b5 := arr_below b4 b4.size xs
      have a5 := arr_new w3 xs
      have r5 := a5.row
      clear hb4 b3 a3 ru3 hl CF hu
      go_wp2_with (refine wpList_store_rowTo rfl 57 _ _ rfl rfl w3.heap.size (ints xs).toArray rfl rfl 57 (ints [0, 0, 0, 0]).toArray hs (arr_info HL.out) (arr_size HL.out).symm (ints_ones _) ?_)
      refine (copyNumbers_of _ _ 4 xs _ r5 HL.out (by omega)).mono ?_
      rintro e w4 ⟨A5, c5, rfl, ho, hb6⟩
      have b6 := b5.trans (hb6.mono b5.size)
      have ho6 := ho.base b5.size
      go_wp2_with fail
      go_ret2
      exact ⟨A5, c5, rfl, ho6, b6⟩

/-! ### RefsDiffer. -/
theorem run_index_refs (w : World) (ys : List Int) (k : Nat) (hk : k < ys.length) (h4 : ys.length = 4) : (Instr.index 57 (.agg (ints ys).toArray) (.int .i64 (k : Int))).run Try.prog w = .ok (.int .i64 ys[k]) w := by
  have hg := ints_get ys k hk
  simp [Instr.index, run_underlying Try.underlying57, asIntOf, go_sem]
  rw [if_pos (by omega), List.getElem?_eq_getElem (by rw [ints_length]; exact hk), hg]
  rfl
theorem wpList_index_refs {ops : Array Oper} {rest : List Oper} {o : Oper} {a : Act} {w : World} {Q : Exit → Act → World → Prop} (hgd : o.guard = none) (x ix : Operand) (ho : o.op = .index 57 x ix) (ys : List Int) (k : Nat) (hx : a.eval x = .agg (ints ys).toArray) (hix : a.eval ix = .int .i64 (k : Int)) (hk : k < ys.length) (h4 : ys.length = 4)
    (h : wpList Try.prog ops Q rest (a.put o.dst (.int .i64 ys[k])) w) : wpList Try.prog ops Q (o :: rest) a w := by
  refine wpList_plain hgd fun K hK => ?_
  have hrun := run_index_refs w ys k hk h4
  unfold Oper.wp
  simp only [execOp, ho, hx, hix, Sem.run_bind, Sem.run_pure, hrun, Result.andThen_ok]
  exact hK _ _ h
set_option maxRecDepth 100000 in
set_option maxHeartbeats 8000000 in
theorem implRefsDiffer_is (v : Bool) (A A2 : Option Addr) (c c2 : Nat) (a b : List Int) (w : World) (ha : Row w w.heap.size A (ints a)) (hb : Row w w.heap.size A2 (ints b)) (_ : a.length ≤ 1048600) (_ : b.length ≤ 1048600) (hv : v = true ↔ RV a ∧ RV b) :
    Calls Try.prog 22 #[.slice A a.length c, .slice A2 b.length c2] w (UpsOf (difs v a b) w) := by
  obtain ⟨i0, hi, hz0, hz1, hz2⟩ := info_of info_up
  obtain ⟨va, hva⟩ := bool_of (RV a)
  obtain ⟨vb, hvb⟩ := bool_of (RV b)
  have hvv : v = (va && vb) := by
    rw [Bool.eq_iff_iff, hv, Bool.and_eq_true, hva, hvb]
  subst hvv
  have CA := hid (readRefs_arr va A c a w _ ha hva)
  have CB : Hid (∀ x, Row x x.heap.size A2 (ints b) → Calls Try.prog 41 #[.slice A2 b.length c2] x (ArrOf vb b x)) := fun x h => readRefs_arr vb A2 c2 b x _ h hvb
  clear hv hva hvb ha
  go_enter Try.func22, Try.ntmps22
  go_wp2_with fail
  refine CA.out.mono ?_
  rintro e w1 ⟨xs, rfl, h4, HA, hb1⟩
  have H4 := hid h4
  have hs := arr_old w1
  have hb2 := arr_below hb1 hb1.size xs
  have a1 := arr_new w1 xs
  have rb := (hb.below hb2 (Nat.le_refl _)).more hb2.size
  clear h4 hb hb1 CA
  go_wp2_with (refine wpList_store_rowTo rfl 57 _ _ rfl rfl w1.heap.size (ints xs).toArray rfl rfl 57 (ints [0, 0, 0, 0]).toArray hs (arr_info H4.out) (arr_size H4.out).symm (ints_ones _) ?_)
  refine (CB.out _ rb).mono ?_
  rintro e w2 ⟨ys, rfl, h5, HBB, hb3⟩
  have a2 := a1.below hb3 a1.lt
  have b3 := hb2.trans (hb3.mono hb2.size)
  have lt2 := a2.lt
  have H5 := hid h5
  have hs2 := arr_old w2
  have b4 := arr_below b3 b3.size ys
  have a3 := arr_new w2 ys
  have a4 := (a2.alloc (.cells (ints [0, 0, 0, 0]).toArray 57)).farRow (g' := w2.heap.size) (by omega) (ints ys).toArray
  have sz2 := arr_sz w2 ys
  clear h5 hb3 hb2 a1 a2 hs rb CB
  have on0 := OwnUps.nil_new (w := (w2.alloc (.cells (ints [0, 0, 0, 0]).toArray 57)).setRow w2.heap.size (ints ys).toArray) (B := w2.heap.size + 1) (by rw [sz2]; exact Nat.le_refl _)
  have al := (Below.refl (w2.heap.size + 1) ((w2.alloc (.cells (ints [0, 0, 0, 0]).toArray 57)).setRow w2.heap.size (ints ys).toArray)).alloc (by rw [sz2]; exact Nat.le_refl _) (.cells #[] 52)
  rw [sz2] at on0
  have bz := b3.size
  have bA := b4.trans (al.mono (B' := w.heap.size) (by omega))
  cases va with
  | false =>
    clear HA HBB a3 a4 b4 al b3
    go_wp2_with (refine wpList_store_rowTo rfl 57 _ _ rfl rfl w2.heap.size (ints ys).toArray rfl rfl 57 (ints [0, 0, 0, 0]).toArray hs2 (arr_info H5.out) (arr_size H5.out).symm (ints_ones _) ?_)
    go_ret
    exact .mk_ (on0.base (by omega)) bA
  | true =>
    cases vb with
    | false =>
      clear HA HBB a3 a4 b4 al b3
      go_wp2_with (refine wpList_store_rowTo rfl 57 _ _ rfl rfl w2.heap.size (ints ys).toArray rfl rfl 57 (ints [0, 0, 0, 0]).toArray hs2 (arr_info H5.out) (arr_size H5.out).symm (ints_ones _) ?_)
      go_ret
      exact .mk_ (on0.base (by omega)) bA
    | true =>
      obtain rfl : xs = a := HA.out rfl
      obtain rfl : ys = b := HBB.out rfl
      clear HA HBB b3
      have hl : ((((w2.alloc (.cells (ints [0, 0, 0, 0]).toArray 57)).setRow w2.heap.size (ints ys).toArray)).alloc (.cells #[] 52)).heap[w1.heap.size]? = some (.cells (ints xs).toArray 57 (0, 0)) := a4.alloc (.cells #[] 52)
      have lt3 := a3.lt
      go_wp2_with (first
        | (refine wpList_store_rowTo rfl 57 _ _ rfl rfl w2.heap.size (ints ys).toArray rfl rfl 57 (ints [0, 0, 0, 0]).toArray hs2 (arr_info H5.out) (arr_size H5.out).symm (ints_ones _) ?_)
        | (refine wpList_load_row rfl 57 _ rfl w1.heap.size rfl 57 (ints xs).toArray (0, 0) _ hl Try.underlying57 rfl (arr_info H4.out) ?_))
      obtain ⟨W, hW⟩ : ∃ W, (w2.alloc (.cells (ints [0, 0, 0, 0]).toArray 57)).setRow w2.heap.size (ints ys).toArray = W := ⟨_, rfl⟩
      rw [hW] at on0 al bA a3 a4 lt3 b4 sz2
      have HW := hid hW
      clear hl hs2 hW a4
      go_loopw [9, 31] (fun q i wr => ∃ (k : Nat) (us : List Up), k ≤ 4 ∧ i = .int .i64 k ∧ us.length ≤ k ∧ OwnUps wr (w2.heap.size + 1) q us ∧ Hid (DifTo xs ys us k) ∧ Below (w2.heap.size + 1) W wr) (fun _ i _ => 4 - (intOf i).toNat)
      case atStart =>
        have e := HW.out
        clear HW
        subst e
        exact ⟨0, [], Nat.zero_le _, rfl, Nat.le_refl _, on0, .zero xs ys, al⟩
      case round =>
        obtain ⟨k, us, hk, rfl, hul, ho, H, hbr⟩ := hrel
        clear on0 al bA
        have hz := hbr.size
        by_cases hlt : k < 4
        · have ha4 : k < xs.length := by rw [H4.out]; exact hlt
          have hb4 : k < ys.length := by rw [H5.out]; exact hlt
          have a5 := a3.below hbr (by omega)
          have y0 := a5.read (i := k) (by rw [ints_length]; exact hb4)
          rw [ints_get ys k hb4] at y0
          have q0 : (0 : Int) ≤ (k : Int) := by omega
          have q1 : (k : Int) < 4 := by omega
          obtain ⟨x, hx⟩ : ∃ x, xs[k] = x := ⟨_, rfl⟩
          obtain ⟨y, hy⟩ : ∃ y, ys[k] = y := ⟨_, rfl⟩
          have HX := hid hx
          have HS := hid (H.out.same ha4 hb4)
          have HM := hid (H.out.more ha4 hb4)
          rw [hx, hy] at HS HM
          rw [hy] at y0
          clear H hx hy a5 b4
          by_cases heq : x = y
          · have e0 : (x != y) = false := by rw [bne_eq_false_iff_eq]; exact heq
            have HN := hid (HS.out heq)
            clear HS HM heq
            go_wp2_with (refine wpList_index_refs rfl _ _ rfl xs k rfl rfl ha4 H4.out ?_; rw [HX.out])
            go_roundw
            case rel => exact ⟨k + 1, us, by omega, by go_num, by omega, ho, HN, hbr⟩
            case measure => simp [intOf]; omega
          · have e0 : (x != y) = true := by rw [bne_iff_ne]; exact heq
            have HN := hid (HM.out heq)
            clear HS HM heq
            have oA : (wr.alloc (.cells #[.int .i64 (k : Int), .int .i64 x, .int .i64 y] 52)).ownsRow (w2.heap.size + 1) 52 3 u9 us.length (upsV us) := World.ownsRow.alloc ho _
            have rA := row_three wr (.int .i64 (k : Int)) (.int .i64 x) (.int .i64 y) 52
            have bA := hbr.alloc (by omega) (.cells #[.int .i64 (k : Int), .int .i64 x, .int .i64 y] 52)
            have lt1 := World.ownsRow.lt oA
            have hmax : us.length + 1 ≤ maxLen := by unfold maxLen; omega
            go_wp2_with (first
              | (refine wpList_index_refs rfl _ _ rfl xs k rfl rfl ha4 H4.out ?_; rw [HX.out])
              | (at_builtin; go_must (refine wpList_append_row _ rfl _ _ 23 rfl (w2.heap.size + 1) 52 i0 (.agg #[.int .i64 0, .int .i64 0, .int .i64 0]) 3 24 Try.underlying23 hi hz0 hz1 hz2 rfl (by decide) u9 us.length (upsV us) rfl oA _ (some ⟨wr.heap.size, 0, none⟩) 1 1 [.int .i64 (k : Int), .int .i64 x, .int .i64 y] rfl rA rfl (upV_cells ⟨(k : Int), x, y⟩) hmax (by omega) (by simp; omega) ?_); intro v3 w7 ho3 hg3))
            have b7 : Below (w2.heap.size + 1) W w7 := bA.grown hg3 (by simp; omega) (fun j hj => (lt1 j hj).1)
            have o7 := OwnUps.app (u := ⟨(k : Int), x, y⟩) ho3
            clear ho3 hg3
            go_roundw
            case rel => exact ⟨k + 1, us ++ [⟨(k : Int), x, y⟩], by omega, by go_num, by rw [List.length_append, List.length_singleton]; omega, o7, HN, b7⟩
            case measure => simp [intOf]; omega
        · have HD := hid (H.out.all (by rw [H4.out]; omega))
          have hk' : k = 4 := by omega
          subst hk'
          have b9 := b4.trans (hbr.mono (B' := w.heap.size) (by omega))
          clear H
          go_wp2
          go_ret
          unfold difs
          rw [Bool.and_self, if_pos rfl, HD.out]
          exact .mk_ (ho.base (by omega)) b9
/-! ### UpdatesCross. -/
set_option maxRecDepth 100000 in
set_option maxHeartbeats 8000000 in
theorem implUpdatesCross_is (x : Bool) (A A2 : Option Addr) (c c2 : Nat) (a b : List Up) (w : World) (ha : Row w w.heap.size A (upsV a)) (hb : Row w w.heap.size A2 (upsV b)) (hma : a.length ≤ 1048600) (hmb : b.length ≤ 1048600) (hx : x = true ↔ Cross a b) :
    Calls Try.prog 34 #[.slice A a.length c, .slice A2 b.length c2] w (Ret (.bool x) w) := by
  obtain ⟨va, hva⟩ := bool_of (UV a)
  obtain ⟨vb, hvb⟩ := bool_of (UV b)
  have CA : Hid (∀ y, Row y y.heap.size A (upsV a) → Calls Try.prog 12 #[.slice A a.length c] y (Ret (.bool va) y)) := fun y h => implUpdatesValid_is va A c a y h hma hva
  have CB : Hid (∀ y, Row y y.heap.size A2 (upsV b) → Calls Try.prog 12 #[.slice A2 b.length c2] y (Ret (.bool vb) y)) := fun y h => implUpdatesValid_is vb A2 c2 b y h hmb hvb
  have HX := hid hx
  clear hx
  cases va with
  | false =>
    have F : Hid (x = false) := by
      show x = false
      rw [← Bool.not_eq_true]
      exact fun e => absurd (hva.2 (HX.out.1 e).1) (by simp)
    clear hva hvb HX
    go_enter Try.func34, Try.ntmps34
    go_wp2_with fail
    refine (CA.out _ ha).mono ?_
    rintro e w1 ⟨rfl, b1⟩
    go_wp2_with fail
    go_ret
    rw [F.out]
    exact .mk_ b1
  | true =>
    cases vb with
    | false =>
      have F : Hid (x = false) := by
        show x = false
        rw [← Bool.not_eq_true]
        exact fun e => absurd (hvb.2 (HX.out.1 e).2.1) (by simp)
      clear hva hvb HX
      go_enter Try.func34, Try.ntmps34
      go_wp2_with fail
      refine (CA.out _ ha).mono ?_
      rintro e w1 ⟨rfl, hb1⟩
      go_wp2_with fail
      refine (CB.out _ ((hb.below hb1 (Nat.le_refl _)).more hb1.size)).mono ?_
      rintro e w2 ⟨rfl, hb2⟩
      have b1 := hb1.trans (hb2.mono hb1.size)
      go_wp2_with fail
      go_ret
      rw [F.out]
      exact .mk_ b1
    | true =>
      have ua := hid (hva.1 rfl)
      have ub := hid (hvb.1 rfl)
      have CN : Hid (∀ y, Row y y.heap.size A (upsV a) → Calls Try.prog 48 #[.slice A a.length c] y (Named4 a y)) := fun y h => updatedRefs_is A c a y h (refs4_of ua.out) hma
      have UB := hid (refs4_of ub.out)
      clear hva hvb
      go_enter Try.func34, Try.ntmps34
      go_wp2_with fail
      refine (CA.out _ ha).mono ?_
      rintro e w1 ⟨rfl, hb1⟩
      go_wp2_with fail
      refine (CB.out _ ((hb.below hb1 (Nat.le_refl _)).more hb1.size)).mono ?_
      rintro e w2 ⟨rfl, hb2⟩
      have b2 := hb1.trans (hb2.mono hb1.size)
      go_wp2_with fail
      refine (CN.out _ ((ha.below b2 (Nat.le_refl _)).more b2.size)).mono ?_
      rintro e w3 ⟨rfl, hb3⟩
      have b3 := b2.trans (hb3.mono b2.size)
      clear hb1 hb2 hb3 b2 CA CB CN ha
      obtain ⟨ys, hys⟩ : ∃ ys, nameds a a.length = ys := ⟨_, rfl⟩
      have HYO := hid (nameds_ones a a.length)
      rw [hys] at HYO
      have HY := hid hys
      have hyl : ys.toArray.size = 4 := by rw [← hys]; rfl
      have hyl' : (Try.prog.info? 66).map (·.size) = some ys.toArray.size := by rw [hyl]; exact info_bools
      have HYL := hid hyl
      have HYL' := hid hyl'
      have hs : (w3.alloc (.cells [.bool false, .bool false, .bool false, .bool false].toArray 66)).heap[w3.heap.size]? = some (.cells [.bool false, .bool false, .bool false, .bool false].toArray 66 (0, 0)) := heap_alloc_new w3 _
      have a4 := (Arr4.new_ w3 66 [.bool false, .bool false, .bool false, .bool false]).setRow ys
      have b4 := below_setRow (b3.alloc b3.size (.cells [.bool false, .bool false, .bool false, .bool false].toArray 66)) b3.size ys.toArray
      have z3 := b3.size
      rw [hys]
      clear hyl hyl' hys b3
      go_wp2_with (refine wpList_store_rowTo rfl 66 _ _ rfl rfl w3.heap.size ys.toArray rfl rfl 66 _ hs HYL'.out HYL.out.symm HYO.out ?_)
      go_loopw [20] (fun i wr => ∃ k : Nat, k ≤ b.length ∧ i = .int .i64 k ∧ Hid (Apart a b k) ∧ Arr4 wr w3.heap.size 66 ys ∧ Below w.heap.size w wr) (fun i _ => b.length - (intOf i).toNat)
      case atStart => exact ⟨0, Nat.zero_le _, rfl, .zero a b, a4, b4⟩
      case round =>
        obtain ⟨k, hk, rfl, H, a5, hbr⟩ := hrel
        clear a4 b4 hs
        have hz := hbr.size
        by_cases hlt : k < b.length
        · obtain ⟨o, ad, ho, rfl, ha1, g0, g1, g2⟩ := ((hb.below hbr (Nat.le_refl _)).more hz).up_ hlt
          obtain ⟨r0, r1⟩ := UB.out _ (List.getElem_mem hlt)
          rw [ho] at r0 r1
          obtain ⟨m, hm0⟩ := Int.eq_ofNat_of_zero_le r0
          have hm4 : m < 4 := by omega
          have hmy : m < ys.length := by rw [← HY.out]; simpa [nameds] using hm4
          have y0 : wr.cell? ⟨w3.heap.size, m, none⟩ = some (.bool (named a a.length m)) := by
            rw [a5.read hmy]
            congr 1
            have := nameds_get a a.length hm4
            simp only [HY.out] at this
            exact this
          have hnm : named a a.length b[k].r.toNat = named a a.length m := by rw [ho, hm0, Int.toNat_natCast]
          rw [hm0] at g0
          have lt5 := a5.lt
          have y1 : (wr.alloc (.cells #[.int .i64 (m : Int), .int .i64 o.o, .int .i64 o.n] 52)).cell? ⟨w3.heap.size, m, none⟩ = some (.bool (named a a.length m)) := by rw [World.cell?_alloc_lt _ _ _ lt5]; exact y0
          have hbW := hbr.alloc hz (.cells #[.int .i64 (m : Int), .int .i64 o.o, .int .i64 o.n] 52)
          have a6 := a5.alloc (.cells #[.int .i64 (m : Int), .int .i64 o.o, .int .i64 o.n] 52)
          have k0 : (0 : Int) ≤ (k : Int) := by omega
          have k1 : (k : Int) < (b.length : Int) := by omega
          have k2 : (0 : Int) ≤ (m : Int) := by omega
          have k3 : (m : Int) < 4 := by omega
          obtain ⟨nm, hn⟩ : ∃ nm, named a a.length m = nm := ⟨_, rfl⟩
          rw [hn] at y0 y1 hnm
          clear ho hm0 r0 r1 hn a5
          cases nm with
          | false =>
            have HN := hid (H.out.next hlt hnm)
            clear H hnm
            go_wp2
            go_roundw
            case rel => exact ⟨k + 1, by omega, by go_num, HN, a6, hbW⟩
            case measure => simp [intOf]; omega
          | true =>
            have F := hid (HX.out.2 (cross_named ua.out ub.out hlt hnm))
            clear H hnm
            go_wp2
            go_ret
            rw [F.out]
            exact .mk_ hbW
        · have hk' : k = b.length := by omega
          subst hk'
          have F : Hid (x = false) := by
            show x = false
            rw [← Bool.not_eq_true]
            exact fun e => H.out.none (HX.out.1 e)
          clear H
          go_wp2
          go_ret
          rw [F.out]
          exact .mk_ hbr
end Go.Proofs.Ytimoabghkmebfab
