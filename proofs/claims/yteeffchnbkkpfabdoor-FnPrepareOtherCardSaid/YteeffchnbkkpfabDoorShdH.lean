/- The coordinator with the slices $SA and $SB is stored as the answer, with the word $BB. -/
/-
  Walks: decisions of a shard, and what it has committed, by the model.
-/
import Derived.Test.YteeffchnbkkpfabDoorShdG
namespace Go.Proofs.YteeffchnbkkpfabDoor
open Go.RowKit Wo Pu Rf Lk Sh

set_option linter.unusedSimpArgs false in
set_option maxRecDepth 100000 in
set_option maxHeartbeats 8000000 in
theorem specShardDecide_is (xs : List Rec) (b : Bool) (v : Value) (rs : List Rec) (t k : Int) (cm : Bool) (w : World) (h : Shd w w.heap.size v rs) (hf : FitR rs) (hk : k = if cm then 2 else 3) (hV : Decided rs t k xs b) :
    Calls Tryd.prog 28 #[v, .int .i64 t, .bool cm] w (NewShB xs b w) := by
  have HR := hid hV
  clear hV
  obtain ⟨vs, hvs⟩ := bool_ofP (Vld rs)
  obtain ⟨vt, hvt⟩ := bool_of (TV t)
  have CV := hid (specShardValid_is vs · rs · · hf hvs)
  have CT : Hid (∀ x, Calls Tryd.prog 64 #[.int .i64 t] x (Same (.bool vt) x)) := fun x => l12Txn_is vt t x hvt
  have HC := hid (l21Copy_any · rs · · hf)
  obtain ⟨A, c, rfl, h0, hc⟩ := h
  unfold shV at *
  have b0 := ((Below.refl w.heap.size w).alloc (Nat.le_refl _) (.cells #[.slice A rs.length c] 25)).alloc (by simp) (.cells #[.slice none 0 0] 25)
  have x0 := (Blk1.new_ w 25 (.slice A rs.length c)).alloc (.cells #[.slice none 0 0] 25)
  have x1 := Blk1.new_ (w.alloc (.cells #[.slice A rs.length c] 25)) 25 (.slice none 0 0)
  rw [World.size_alloc] at x1
  go_enter Tryd.func28, Tryd.ntmps28
  go_upto_region 1 with fail
  obtain ⟨w1, hw1⟩ : ∃ w1, (w.alloc (.cells #[.slice A rs.length c] 25)).alloc (.cells #[.slice none 0 0] 25) = w1 := ⟨_, rfl⟩
  rw [hw1] at b0 x0 x1 ⊢
  clear hw1
  obtain ⟨y0, -⟩ := id x0.reads
  have h1 := h0.on b0
  go_wp2_with fail
  refine (CV.out _ w1 ⟨A, c, rfl, h1, hc⟩).mono ?_
  rintro e w2 ⟨rfl, d2⟩
  replace x0 := x0.later d2
  replace x1 := x1.later d2
  replace b0 := b0.trans ((d2).mono b0.size)
  replace h1 := h0.on b0
  clear y0
  obtain ⟨y0, -⟩ := id x0.reads
  clear d2 CV
  cases vs with
  | false =>
    obtain ⟨rfl, rfl⟩ := HR.out.bad_ fun e => by have := hvs.2 e.1; cases this
    clear hvs hvt CT HC hk
    obtain ⟨t0, tf⟩ := id x1.reads
    have tf0 := tf 0
    obtain ⟨p0, -⟩ := (x1.set0 (.slice none 0 0)).reads
    have b9 := b0.setCell (p := ⟨w.heap.size + 1, 0, none⟩) (Nat.le_succ _) (.slice none 0 0)
    have o9 := OwnSh.none_ (w2.setCell ⟨w.heap.size + 1, 0, none⟩ (.slice none 0 0)) w.heap.size
    clear tf
    go_wp2
    exact bodyPost_ret (v := .tuple #[.agg #[.slice none 0 0], .bool false]) (by simp [results, Tryd.results28, go_sem, p0]) rfl ⟨_, rfl, o9, b9⟩
  | true =>
    have HV := hid (hvs.1 rfl)
    clear hvs
    go_wp2_with fail
    refine (CT.out _).mono ?_
    rintro e w3 ⟨rfl, rfl⟩
    clear CT
    cases vt with
    | false =>
      obtain ⟨rfl, rfl⟩ := HR.out.bad_ fun e => by have := hvt.2 e.2; cases this
      clear hvt HC hk
      obtain ⟨t0, tf⟩ := id x1.reads
      have tf0 := tf 0
      obtain ⟨p0, -⟩ := (x1.set0 (.slice none 0 0)).reads
      have b9 := b0.setCell (p := ⟨w.heap.size + 1, 0, none⟩) (Nat.le_succ _) (.slice none 0 0)
      have o9 := OwnSh.none_ (w2.setCell ⟨w.heap.size + 1, 0, none⟩ (.slice none 0 0)) w.heap.size
      clear tf
      go_wp2
      exact bodyPost_ret (v := .tuple #[.agg #[.slice none 0 0], .bool false]) (by simp [results, Tryd.results28, go_sem, p0]) rfl ⟨_, rfl, o9, b9⟩
    | true =>
      have HT := hid (hvt.1 rfl)
      clear hvt
      obtain ⟨z, hz⟩ : ∃ z, Sh.ask rs t = z := ⟨_, rfl⟩
      have CA : Hid (∀ x, Recs x x.heap.size A rs → Calls Tryd.prog 66 #[.slice A rs.length c, .int .i64 t] x (Same (.int .i64 z) x)) := fun x hx => l21Ask_is z A c rs t x x.heap.size hx (by have := hf.1; omega) hz
      have HZ := hid hz
      clear hz
      cases cm with
      | true =>
        obtain rfl : k = 2 := hk
        go_wp2_with fail
        refine (CA.out _ h1).mono ?_
        rintro e w4 ⟨rfl, rfl⟩
        by_cases h9 : z = 2
        · have e9 : (z == 2) = true := by rw [beq_iff_eq]; exact h9
          obtain ⟨rfl, rfl⟩ := HR.out.known_ HV.out HT.out (HZ.out.trans h9)
          clear h9 CA HR
          go_wp2_with fail
          refine (HC.out _ w2 ⟨A, c, rfl, h1, hc⟩).mono ?_
          rintro e w5 ⟨v5, rfl, o5, d5⟩
          have z3 := b0.size
          replace x0 := x0.later d5
          replace x1 := x1.later d5
          replace b0 := b0.trans ((d5).mono b0.size)
          replace h1 := h0.on b0
          clear y0
          obtain ⟨y0, -⟩ := id x0.reads
          obtain ⟨A5, c5, rfl, o5, -⟩ := o5
          unfold shV
          replace o5 := o5.base z3
          obtain ⟨t0, tf⟩ := id x1.reads
          have tf0 := tf 0
          obtain ⟨p0, -⟩ := (x1.set0 (.slice A5 xs.length c5)).reads
          have b9 := b0.setCell (p := ⟨w.heap.size + 1, 0, none⟩) (Nat.le_succ _) (.slice A5 xs.length c5)
          have o9 := o5.keptT (by decide) (by decide) (but_set w5 (w.heap.size + 1) 0 (.slice A5 xs.length c5)) (blk_type x1)
          clear tf d5
          go_wp2
          exact bodyPost_ret (v := .tuple #[.agg #[.slice A5 xs.length c5], .bool true]) (by simp [results, Tryd.results28, go_sem, p0]) rfl ⟨_, rfl, OwnSh.mk_ o9, b9⟩
        · have e9 : (z == 2) = false := by rw [beq_eq_false_iff_ne]; exact h9
          obtain ⟨hb1, hx1⟩ := HR.out.new_ HV.out HT.out (fun e => h9 (HZ.out.symm.trans e))
          have CD := hid (l21Add_any b xs _ rs none 0 ⟨2, t, []⟩ w2 ⟨A, c, rfl, h1, hc⟩ HV.out.2 hf (.inl rfl) (Nat.zero_le _) hb1 hx1)
          clear hb1 hx1 h9 CA HR
          go_wp2_with fail
          refine CD.out.mono ?_
          rintro e w5 ⟨v5, rfl, o5, d5⟩
          have z3 := b0.size
          replace x0 := x0.later d5
          replace x1 := x1.later d5
          replace b0 := b0.trans ((d5).mono b0.size)
          replace h1 := h0.on b0
          clear y0
          obtain ⟨y0, -⟩ := id x0.reads
          obtain ⟨A5, c5, rfl, o5, -⟩ := o5
          unfold shV
          replace o5 := o5.base z3
          obtain ⟨t0, tf⟩ := id x1.reads
          have tf0 := tf 0
          obtain ⟨p0, -⟩ := (x1.set0 (.slice A5 xs.length c5)).reads
          have b9 := b0.setCell (p := ⟨w.heap.size + 1, 0, none⟩) (Nat.le_succ _) (.slice A5 xs.length c5)
          have o9 := o5.keptT (by decide) (by decide) (but_set w5 (w.heap.size + 1) 0 (.slice A5 xs.length c5)) (blk_type x1)
          clear tf d5 CD
          go_wp2
          exact bodyPost_ret (v := .tuple #[.agg #[.slice A5 xs.length c5], .bool b]) (by simp [results, Tryd.results28, go_sem, p0]) rfl ⟨_, rfl, OwnSh.mk_ o9, b9⟩
      | false =>
        obtain rfl : k = 3 := hk
        go_wp2_with fail
        refine (CA.out _ h1).mono ?_
        rintro e w4 ⟨rfl, rfl⟩
        by_cases h9 : z = 3
        · have e9 : (z == 3) = true := by rw [beq_iff_eq]; exact h9
          obtain ⟨rfl, rfl⟩ := HR.out.known_ HV.out HT.out (HZ.out.trans h9)
          clear h9 CA HR
          go_wp2_with fail
          refine (HC.out _ w2 ⟨A, c, rfl, h1, hc⟩).mono ?_
          rintro e w5 ⟨v5, rfl, o5, d5⟩
          have z3 := b0.size
          replace x0 := x0.later d5
          replace x1 := x1.later d5
          replace b0 := b0.trans ((d5).mono b0.size)
          replace h1 := h0.on b0
          clear y0
          obtain ⟨y0, -⟩ := id x0.reads
          obtain ⟨A5, c5, rfl, o5, -⟩ := o5
          unfold shV
          replace o5 := o5.base z3
          obtain ⟨t0, tf⟩ := id x1.reads
          have tf0 := tf 0
          obtain ⟨p0, -⟩ := (x1.set0 (.slice A5 xs.length c5)).reads
          have b9 := b0.setCell (p := ⟨w.heap.size + 1, 0, none⟩) (Nat.le_succ _) (.slice A5 xs.length c5)
          have o9 := o5.keptT (by decide) (by decide) (but_set w5 (w.heap.size + 1) 0 (.slice A5 xs.length c5)) (blk_type x1)
          clear tf d5
          go_wp2
          exact bodyPost_ret (v := .tuple #[.agg #[.slice A5 xs.length c5], .bool true]) (by simp [results, Tryd.results28, go_sem, p0]) rfl ⟨_, rfl, OwnSh.mk_ o9, b9⟩
        · have e9 : (z == 3) = false := by rw [beq_eq_false_iff_ne]; exact h9
          obtain ⟨hb1, hx1⟩ := HR.out.new_ HV.out HT.out (fun e => h9 (HZ.out.symm.trans e))
          have CD := hid (l21Add_any b xs _ rs none 0 ⟨3, t, []⟩ w2 ⟨A, c, rfl, h1, hc⟩ HV.out.2 hf (.inl rfl) (Nat.zero_le _) hb1 hx1)
          clear hb1 hx1 h9 CA HR
          go_wp2_with fail
          refine CD.out.mono ?_
          rintro e w5 ⟨v5, rfl, o5, d5⟩
          have z3 := b0.size
          replace x0 := x0.later d5
          replace x1 := x1.later d5
          replace b0 := b0.trans ((d5).mono b0.size)
          replace h1 := h0.on b0
          clear y0
          obtain ⟨y0, -⟩ := id x0.reads
          obtain ⟨A5, c5, rfl, o5, -⟩ := o5
          unfold shV
          replace o5 := o5.base z3
          obtain ⟨t0, tf⟩ := id x1.reads
          have tf0 := tf 0
          obtain ⟨p0, -⟩ := (x1.set0 (.slice A5 xs.length c5)).reads
          have b9 := b0.setCell (p := ⟨w.heap.size + 1, 0, none⟩) (Nat.le_succ _) (.slice A5 xs.length c5)
          have o9 := o5.keptT (by decide) (by decide) (but_set w5 (w.heap.size + 1) 0 (.slice A5 xs.length c5)) (blk_type x1)
          clear tf d5 CD
          go_wp2
          exact bodyPost_ret (v := .tuple #[.agg #[.slice A5 xs.length c5], .bool b]) (by simp [results, Tryd.results28, go_sem, p0]) rfl ⟨_, rfl, OwnSh.mk_ o9, b9⟩
theorem com_len (rs : List Rec) : (Sh.com rs).length ≤ rs.length := by
  unfold Sh.com
  rw [List.length_map]
  exact List.length_filter_le _ _
/-- The committed transactions of a valid shard, or none. -/
def ComOf (rs : List Rec) (zs : List Int) : Prop := (Vld rs ∧ zs = Sh.com rs) ∨ (¬ Vld rs ∧ zs = [])
theorem comOf_ex (rs : List Rec) : ∃ zs, ComOf rs zs := by
  by_cases h : Vld rs
  · exact ⟨_, .inl ⟨h, rfl⟩⟩
  · exact ⟨_, .inr ⟨h, rfl⟩⟩
set_option linter.unusedSimpArgs false in
set_option maxRecDepth 100000 in
set_option maxHeartbeats 8000000 in
theorem specShardCommitted_is (zs : List Int) (v : Value) (rs : List Rec) (w : World) (h : Shd w w.heap.size v rs) (hf : FitR rs) (hz : ComOf rs zs) :
    Calls Tryd.prog 16 #[v] w (IntsOf zs w) := by
  obtain ⟨i0, hi, hz0, hz1, hz2⟩ := info_of info_int
  have HZ := hid hz
  clear hz
  obtain ⟨vs, hvs⟩ := bool_ofP (Vld rs)
  have HVS := hid hvs
  have CV := hid (specShardValid_is vs · rs · · hf hvs)
  clear hvs
  obtain ⟨A, c, rfl, h0, hc⟩ := h
  unfold shV at *
  have b0 := (Below.refl w.heap.size w).alloc (Nat.le_refl _) (.cells #[.slice A rs.length c] 25)
  have x0 := Blk1.new_ w 25 (.slice A rs.length c)
  go_enter Tryd.func16, Tryd.ntmps16
  go_upto_region 1 with fail
  obtain ⟨w1, hw1⟩ : ∃ w1, w.alloc (.cells #[.slice A rs.length c] 25) = w1 := ⟨_, rfl⟩
  rw [hw1] at b0 x0 ⊢
  clear hw1
  have al := (Below.refl w1.heap.size w1).alloc (Nat.le_refl _) (.cells #[] 3)
  have on0 : OwnI _ w.heap.size (.slice (some ⟨w1.heap.size, 0, none⟩) 0 0) [] := OwnI.nil_new (w := w1) b0.size
  replace x0 := x0.later al
  replace b0 := b0.trans (al.mono b0.size)
  clear al
  go_wp2_with fail
  go_loopw [3, 4] (fun q i wr => ∃ (k : Nat) (ys : List Int), k ≤ rs.length ∧ i = .int .i64 k ∧ Hid (ys.length ≤ k) ∧ OwnI wr w.heap.size q ys ∧ Hid (ys = Sh.com (rs.take k)) ∧ Hid (k = 0 ∨ Vld rs) ∧ Blk1 wr w.heap.size 25 (.slice A rs.length c) ∧ Below w.heap.size w wr) (fun _ i _ => rs.length - (intOf i).toNat)
  case atStart => exact ⟨0, [], Nat.zero_le _, rfl, Nat.le_refl _, on0, rfl, .inl rfl, x0, b0⟩
  case round =>
    clear on0 x0 b0
    obtain ⟨k, ys, hk, rfl, HL, ho, H, HK, hx, hbr⟩ := hrel
    have hzw := hbr.size
    obtain ⟨y0, -⟩ := id hx.reads
    by_cases hlt : k < rs.length
    · go_wp2_with fail
      refine (CV.out _ wr ⟨A, c, rfl, (h0.on hbr), hc⟩).mono ?_
      rintro e w2 ⟨rfl, d2⟩
      replace hx := hx.later d2
      replace ho := ho.below d2 (Nat.le_refl _)
      replace hbr := hbr.trans (d2.mono hzw)
      clear y0 d2
      obtain ⟨y0, -⟩ := id hx.reads
      cases vs with
      | false =>
        have e0 : Hid (zs = ys) := by
          show _ = _
          rcases HZ.out with ⟨h3, -⟩ | ⟨-, h3⟩
          · have := HVS.out.2 h3; cases this
          · rcases HK.out with rfl | h4
            · rw [h3, H.out]; rfl
            · have := HVS.out.2 h4; cases this
        clear HL H HK
        go_wp2
        go_ret
        rw [e0.out]
        exact .mk_ ho hbr
      | true =>
        have HV := hid (HVS.out.1 rfl)
        obtain ⟨r, ad, A', c', hr, rfl, ha, g0, g1, g2, g3, g4⟩ := (h0.below hbr (Nat.le_refl _)).rec hlt
        have q0 : (0 : Int) ≤ (k : Int) := by omega
        have q1 : (k : Int) < (rs.length : Int) := by omega
        have hf1 := hf.1
        have HN : Hid (Sh.com (rs.take (k + 1)) = ys ++ if r.k = 2 then [r.t] else []) := by
          show _ = _
          rw [List.take_succ_eq_append_getElem hlt, hr, Sh.com_snoc, H.out]
        have hzw2 := hbr.size
        have HL1 : Hid (ys.length ≤ 1048600) := by have := HL.out; show _ ≤ _; omega
        have HL2 : Hid (∀ x : Int, (ys ++ [x]).length ≤ k + 1) := fun x => by rw [List.length_append]; have := HL.out; simpa using this
        clear H HK hr g2 g3 g4 hzw
        by_cases hv : r.k = 2
        · have e0 : (r.k == 2) = true := by rw [beq_iff_eq]; exact hv
          have HM : Hid (ys ++ [r.t] = Sh.com (rs.take (k + 1))) := by show _ = _; rw [HN.out, if_pos hv]
          have oB : (w2.alloc (.cells #[.int .i64 r.t] 3)).ownsRow w.heap.size 3 1 _ ys.length (ints ys) := World.ownsRow.alloc ho _
          have lt1 := World.ownsRow.lt oB
          have hx1 := hx.alloc (.cells #[.int .i64 r.t] 3)
          clear hv HN HL
          go_wp2_with (at_builtin; go_must (refine wpList_append_own _ rfl _ _ 27 rfl w.heap.size 3 i0 (.int .i64 0) 1 8 Tryd.underlying27 hi hz0 hz1 hz2 rfl (by decide) _ ys.length (ints ys) rfl oB ⟨w2.heap.size, 0, none⟩ 1 1 [.int .i64 r.t] rfl rfl (cell_one_new _ _ _) (one_int _) (by have := HL1.out; unfold maxLen; omega) (by have := HL1.out; omega) (by simp; omega) ?_); intro u9 w9 hown hg _)
          have o9 := OwnI.app hown
          have b9 : Below w.heap.size w w9 := hbr.trans (((Below.refl w.heap.size w2).alloc hzw2 _).grown hg (by simp; omega) (fun j hj => (lt1 j hj).1))
          have x9 := hx1.grown hg (blk_ne_row hx1 oB (by decide))
          clear hown hg oB lt1 ho hbr hx hx1
          go_wp2
          go_roundw
          case rel => exact ⟨k + 1, ys ++ [r.t], by omega, by go_num, HL2.out _, o9, HM, .inr HV.out, x9, b9⟩
          case measure => simp [intOf]; omega
        · have e0 : (r.k == 2) = false := by rw [beq_eq_false_iff_ne]; exact hv
          have HM : Hid (ys = Sh.com (rs.take (k + 1))) := by show _ = _; rw [HN.out, if_neg hv, List.append_nil]
          have HL3 : Hid (ys.length ≤ k + 1) := by have := HL.out; show _ ≤ _; omega
          clear hv HN HL
          go_wp2_with fail
          go_roundw
          case rel => exact ⟨k + 1, ys, by omega, by go_num, HL3, ho, HM, .inr HV.out, hx, hbr⟩
          case measure => simp [intOf]; omega
    · have hk' : k = rs.length := by omega
      subst hk'
      have e0 : Hid (zs = ys) := by
        show _ = _
        have h5 := H.out
        rw [List.take_length] at h5
        rcases HZ.out with ⟨-, h3⟩ | ⟨h4, h3⟩
        · rw [h3, h5]
        · rcases HK.out with h6 | h6
          · rw [h3, h5, List.eq_nil_of_length_eq_zero h6]; rfl
          · exact absurd h6 h4
      clear HL H HK
      go_wp2
      go_ret
      rw [e0.out]
      exact .mk_ ho hbr
end Go.Proofs.YteeffchnbkkpfabDoor
