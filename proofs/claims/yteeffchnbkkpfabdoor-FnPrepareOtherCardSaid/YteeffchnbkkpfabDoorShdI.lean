/- The coordinator with the slices $SA and $SB is stored as the answer, with the word $BB. -/
/-
  Walks: the program's ShardPrepare, ShardDecide, ShardCommitted.
-/
import Derived.Test.YteeffchnbkkpfabDoorShdL
import Derived.Test.YteeffchnbkkpfabDoorShdH
import Derived.Test.YteeffchnbkkpfabDoorSameS
namespace Go.Proofs.YteeffchnbkkpfabDoor
open Go.RowKit Wo Pu Rf Lk Sh

/- The world of ShardPrepare and ShardDecide: the shard's box, the result's. -/
/- Nothing is told, and false. -/
/- A call has made memory: all is carried on. -/
/- A shard of the call's own is told: it lies in cells of WW. -/
/- The same shard is told. -/
/- The longer shard is told, or the same. -/
set_option linter.unusedSimpArgs false in
set_option maxRecDepth 100000 in
set_option maxHeartbeats 16000000 in
theorem implShardPrepare_F (er0 er1 : Addr) (xs : List Rec) (bo : Bool) (v : Value) (rs : List Rec) (t : Int) (A2 : Option Addr) (c2 : Nat) (us : List Up) (w : World) (h : Shd w w.heap.size v rs) (hE : Errs er0 er1 w) (hf : FitR rs) (hu : Row w w.heap.size A2 (upsV us)) (hul : us.length ≤ 1048576) (hV : Voted rs t us xs bo) :
    Calls Tryd.prog 22 #[v, .int .i64 t, .slice A2 us.length c2] w (NewShFB xs bo w) := by
  have HR := hid hV
  clear hV
  obtain ⟨b, hb⟩ := bool_ofP (Vld rs)
  obtain ⟨vt, hvt⟩ := bool_of (TV t)
  obtain ⟨vu, hvu⟩ := bool_of (UV us)
  have HVS := hid hb
  have HVT := hid hvt
  have HVU := hid hvu
  have CT : Hid (∀ x, Calls Tryd.prog 61 #[.int .i64 t] x (Same (.bool vt) x)) := fun x => txnValid_is vt t x hvt
  have CU : Hid (∀ x, Below w.heap.size w x → Calls Tryd.prog 54 #[.slice A2 us.length c2] x (Ret (.bool vu) x)) := fun x hx => implUpdatesValid_is vu A2 c2 us x (row_on hu hx) (by omega) hvu
  have CC : Hid (∀ x, Below w.heap.size w x → Calls Tryd.prog 62 #[v] x (NewShF rs x)) := fun x hx => shdCopied_is v rs x (h.on hx hx.size) hf
  have CX : Hid (∀ b1 xs1 k A3 c3 us1 x, Below w.heap.size w x → rs.length ≤ 30 → Row x x.heap.size A3 (upsV us1) → us1.length ≤ 1048576 → (b1 = true ↔ Vld (rs ++ [⟨k, t, us1⟩])) → (xs1 = if b1 then rs ++ [⟨k, t, us1⟩] else rs) → Calls Tryd.prog 63 #[v, .agg #[.int .i64 k, .int .i64 t, .slice A3 us1.length c3]] x (NewShFB xs1 b1 x)) := fun b1 xs1 k A3 c3 us1 x hx h30 hu1 hl1 hb1 hx1 =>
    extended_is er0 er1 b1 xs1 v rs A3 c3 ⟨k, t, us1⟩ x (h.on hx hx.size) (hE.below hx) h30 hf hu1 hl1 hb1 hx1
  obtain ⟨A, c, rfl, h0, hc⟩ := h
  have CR : Hid (∀ x, Below w.heap.size w x → Calls Tryd.prog 57 #[shV A rs.length c] x (ReadO rs b x)) := fun x hx => readShard_is b _ rs x er0 er1 (Shd.on ⟨A, c, rfl, h0, hc⟩ hx hx.size) (hE.below hx) hf hb
  unfold shV at *
  clear hb hE
  clear hvt hvu
  have b0 := ((Below.refl w.heap.size w).alloc (Nat.le_refl _) (.cells #[.slice A rs.length c] 25)).alloc (by simp) (.cells #[.slice none 0 0] 25)
  have x0 := (Blk1.new_ w 25 (.slice A rs.length c)).alloc (.cells #[.slice none 0 0] 25)
  have s0 := Blk1.new_ (w.alloc (.cells #[.slice A rs.length c] 25)) 25 (.slice none 0 0)
  rw [World.size_alloc] at s0
  go_enter Tryd.func22, Tryd.ntmps22
  go_upto_region 1 with fail
  obtain ⟨w1, hw1⟩ : ∃ x, (w.alloc (.cells #[.slice A rs.length c] 25)).alloc (.cells #[.slice none 0 0] 25) = x := ⟨_, rfl⟩
  rw [hw1] at b0 x0 s0 ⊢
  clear hw1
  obtain ⟨y0, -⟩ := id x0.reads
  have z0 : w.heap.size + 1 < w1.heap.size := s0.lt
  go_wp2_with fail
  refine (CR.out _ b0).mono ?_
  rintro e w2 ⟨X, rfl, hX, hXX, d2⟩
  have HX := hid hX
  have HXX := hid hXX
  have hg := heap_alloc_new w2 (.cells led0.toArray 82)
  have b2 := b0.trans (d2.mono b0.size)
  have al := (Below.refl w2.heap.size w2).alloc (Nat.le_refl _) (.cells led0.toArray 82)
  have d3 : Below w1.heap.size w1 ((w2.alloc (.cells led0.toArray 82)).setRow w2.heap.size X.toArray) := below_setRow (d2.trans (al.mono d2.size)) d2.size X.toArray
  have z1 : w1.heap.size ≤ w2.heap.size := d2.size
  have HV3 : Hid (IfB b (∃ s, Rcv rs s ∧ LdV ((w2.alloc (.cells led0.toArray 82)).setRow w2.heap.size X.toArray) w1.heap.size X rs s)) := fun e => by
    obtain ⟨s, q1, q2⟩ := HXX.out e
    exact ⟨s, q1, (q2.below d2.size al).but (Nat.le_trans d2.size al.size) (but_setRow _ w2.heap.size X.toArray) d2.size hg (by decide)⟩
  have a3 : Arr4 ((w2.alloc (.cells led0.toArray 82)).setRow w2.heap.size X.toArray) w2.heap.size 82 X := setRow_heap _ _ _ X.toArray _ _ hg
  clear d2 hX hXX HXX CR y0 b2 al
  go_upto_region 2 with (refine wpList_store_rowTo rfl 82 _ _ rfl rfl w2.heap.size X.toArray rfl rfl 82 led0.toArray hg HX.out.info (led0_led.size.trans HX.out.size.symm) HX.out.2 ?_)
  change Code.wp _ _ _ _ ((w2.alloc (.cells led0.toArray 82)).setRow w2.heap.size X.toArray)
  obtain ⟨g, hgg⟩ : ∃ g, w2.heap.size = g := ⟨_, rfl⟩
  obtain ⟨w3, hw3⟩ : ∃ x, (w2.alloc (.cells led0.toArray 82)).setRow w2.heap.size X.toArray = x := ⟨_, rfl⟩
  rw [hw3] at d3 HV3 a3 ⊢
  rw [hgg] at a3 z1 ⊢
  clear hw3 hg hgg
  have b3 := b0.trans (d3.mono b0.size)
  replace x0 := x0.later d3
  replace s0 := s0.later d3
  have HZ0 := hid z0
  clear z0
  obtain ⟨y0, -⟩ := id x0.reads
  cases b with
  | false =>
    obtain ⟨rfl, rfl⟩ := HR.out.bad_ fun e => by have := HVS.out.2 e.1; cases this
    clear CT CU CC CX
    obtain ⟨t0, tf⟩ := id s0.reads
    have tf0 := tf 0
    obtain ⟨p0, -⟩ := (s0.set0 (.slice none 0 0)).reads
    have b9 := b3.setCell (p := ⟨w.heap.size + 1, 0, none⟩) (Nat.le_succ _) (.slice none 0 0)
    clear tf
    go_wp2
    exact bodyPost_ret (v := .tuple #[.agg #[.slice none 0 0], .bool false]) (by simp [results, Tryd.results22, go_sem, p0]) rfl ⟨_, rfl, OwnShF.mk_ (OwnRecF.nil_none _ _), b9⟩
  | true =>
    have HVld := hid (HVS.out.1 rfl)
    obtain ⟨s, q1, A5, c5, us5, hX, h5, -⟩ := HV3.out rfl
    have HQ := hid q1
    have HXX := hid hX
    clear HV3 q1 hX h5
    go_wp2_with fail
    refine (CT.out _).mono ?_
    rintro e w4 ⟨rfl, rfl⟩
    cases vt with
    | false =>
      obtain ⟨rfl, rfl⟩ := HR.out.bad_ fun e => by have := HVT.out.2 e.2.1; cases this
      clear CT CU CC CX
      obtain ⟨t0, tf⟩ := id s0.reads
      have tf0 := tf 0
      obtain ⟨p0, -⟩ := (s0.set0 (.slice none 0 0)).reads
      have b9 := b3.setCell (p := ⟨w.heap.size + 1, 0, none⟩) (Nat.le_succ _) (.slice none 0 0)
      clear tf
      go_wp2
      exact bodyPost_ret (v := .tuple #[.agg #[.slice none 0 0], .bool false]) (by simp [results, Tryd.results22, go_sem, p0]) rfl ⟨_, rfl, OwnShF.mk_ (OwnRecF.nil_none _ _), b9⟩
    | true =>
      have tv := HVT.out.1 rfl
      have HT := hid tv
      obtain ⟨m, rfl⟩ := Int.eq_ofNat_of_zero_le tv.1
      have hm12 : m < 12 := by have := tv.2; omega
      clear tv CT
      go_wp2_with fail
      refine (CU.out _ b3).mono ?_
      rintro e w5 ⟨rfl, d5⟩
      replace x0 := x0.later d5
      replace s0 := s0.later d5
      replace a3 := a3.below d5 a3.lt
      replace b3 := b3.trans ((d5).mono b3.size)
      clear y0
      obtain ⟨y0, -⟩ := id x0.reads
      clear d5 CU
      cases vu with
      | false =>
        obtain ⟨rfl, rfl⟩ := HR.out.bad_ fun e => by have := HVU.out.2 e.2.2; cases this
        clear CC CX
        obtain ⟨t0, tf⟩ := id s0.reads
        have tf0 := tf 0
        obtain ⟨p0, -⟩ := (s0.set0 (.slice none 0 0)).reads
        have b9 := b3.setCell (p := ⟨w.heap.size + 1, 0, none⟩) (Nat.le_succ _) (.slice none 0 0)
        clear tf
        go_wp2
        exact bodyPost_ret (v := .tuple #[.agg #[.slice none 0 0], .bool false]) (by simp [results, Tryd.results22, go_sem, p0]) rfl ⟨_, rfl, OwnShF.mk_ (OwnRecF.nil_none _ _), b9⟩
      | true =>
        have HUV := hid (HVU.out.1 rfl)
        obtain ⟨z, hz⟩ : ∃ z, Sh.ask rs (m : Int) = z := ⟨_, rfl⟩
        have hx5 : X[5 + m]? = some (.int .i64 z) := by
          rw [HXX.out, ledC_state HQ.out.inv.refs.1 (stL_length rs) hm12]
          have := stL_get (rs := rs) hm12
          rw [List.getElem?_eq_getElem (by rw [stL_length]; exact hm12)] at this
          injection this with this
          rw [this, hz]
        have HX5 := hid hx5
        have y5 : w5.cell? ⟨g, 5 + m, none⟩ = some (.int .i64 z) := a3.get_ hx5
        have k0 : (0 : Int) ≤ (m : Int) := by omega
        have k1 : (m : Int) < 12 := by omega
        have HZ := hid hz
        clear hx5 hz
        by_cases h9 : z = 0
        · subst h9
          have h30 : rs.length ≤ 30 := HVld.out.2
          rcases HR.out.new_ HVld.out HT.out HUV.out HZ.out with ⟨n1, n2, n3⟩ | ⟨n1, n2, b8, n3, n4⟩
          · subst n3
            have CE := hid (CX.out true xs 1 A2 c2 us w5 b3 h30 (row_on hu b3) hul ⟨fun _ => n1, fun _ => rfl⟩ n2)
            clear CX CC n1 n2 HR
            go_wp2_with fail
            refine CE.out.mono ?_
            rintro e w6 ⟨v6, rfl, ⟨A6, c6, rfl, o6, hc6⟩, d6⟩
            unfold shV
            have o6' := o6.base (B' := w.heap.size) b3.size
            have al := (Below.refl w6.heap.size w6).alloc (Nat.le_refl _) (.cells #[.slice A6 xs.length c6] 25)
            have xg := Blk1.new_ w6 25 (.slice A6 xs.length c6)
            replace x0 := x0.later d6
            replace s0 := s0.later d6
            replace a3 := a3.below d6 a3.lt
            replace b3 := b3.trans ((d6).mono b3.size)
            clear y0
            obtain ⟨y0, -⟩ := id x0.reads
            clear o6 d6 CE y5
            go_upto_region 7 with fail
            obtain ⟨w7, hw7⟩ : ∃ x, w6.alloc (.cells #[.slice A6 xs.length c6] 25) = x := ⟨_, rfl⟩
            rw [hw7] at al xg ⊢
            clear hw7
            replace x0 := x0.later al
            replace s0 := s0.later al
            replace a3 := a3.below al a3.lt
            replace b3 := b3.trans ((al).mono b3.size)
            clear y0
            obtain ⟨y0, -⟩ := id x0.reads
            replace o6' := o6'.below al
            obtain ⟨yg, -⟩ := id xg.reads
            obtain ⟨t0, tf⟩ := id s0.reads
            have tf0 := tf 0
            clear tf
            have o9 := (o6').keptT (by decide) (by decide) (but_set w7 (w.heap.size + 1) 0 (.slice A6 xs.length c6)) (blk_type s0)
            have b9 := b3.setCell (p := ⟨w.heap.size + 1, 0, none⟩) (Nat.le_succ _) (.slice A6 xs.length c6)
            obtain ⟨p0, -⟩ := (s0.set0 (.slice A6 xs.length c6)).reads
            go_wp2
            exact bodyPost_ret (v := .tuple #[.agg #[.slice A6 xs.length c6], .bool true]) (by simp [results, Tryd.results22, go_sem, p0]) rfl ⟨_, rfl, OwnShF.mk_ o9, b9⟩
          · subst n2
            obtain ⟨xs1, hx1⟩ : ∃ xs1, xs1 = if false = true then rs ++ [(⟨1, (m : Int), us⟩ : Rec)] else rs := ⟨_, rfl⟩
            have CE := hid (CX.out false xs1 1 A2 c2 us w5 b3 h30 (row_on hu b3) hul ⟨(fun e => by cases e), fun e => absurd e n1⟩ hx1)
            have CE2 := hid fun x hx => CX.out b8 xs 3 none 0 [] x hx h30 (.inl rfl) (Nat.zero_le _) n3 n4
            clear CX CC n1 HR n3 n4 hx1
            go_wp2_with fail
            refine CE.out.mono ?_
            rintro e w6 ⟨v6, rfl, ⟨A6, c6, rfl, o6, hc6⟩, d6⟩
            unfold shV
            have al := (Below.refl w6.heap.size w6).alloc (Nat.le_refl _) (.cells #[.slice A6 xs1.length c6] 25)
            have xg := Blk1.new_ w6 25 (.slice A6 xs1.length c6)
            replace x0 := x0.later d6
            replace s0 := s0.later d6
            replace a3 := a3.below d6 a3.lt
            replace b3 := b3.trans ((d6).mono b3.size)
            clear y0
            obtain ⟨y0, -⟩ := id x0.reads
            clear o6 d6 CE y5
            go_upto_region 7 with fail
            obtain ⟨w7, hw7⟩ : ∃ x, w6.alloc (.cells #[.slice A6 xs1.length c6] 25) = x := ⟨_, rfl⟩
            obtain ⟨g6, hg6⟩ : ∃ q, w6.heap.size = q := ⟨_, rfl⟩
            have hgw : w.heap.size + 1 < g6 := by rw [← hg6]; exact s0.lt
            have hgb : w.heap.size ≤ g6 := by omega
            rw [hw7] at al xg ⊢
            rw [hg6] at xg ⊢
            replace x0 := x0.later al
            replace s0 := s0.later al
            replace a3 := a3.below al a3.lt
            replace b3 := b3.trans ((al).mono b3.size)
            clear y0
            obtain ⟨y0, -⟩ := id x0.reads
            clear hw7 hg6 al
            obtain ⟨yg, -⟩ := id xg.reads
            go_wp2_with fail
            refine (CE2.out _ b3).mono ?_
            rintro e w8 ⟨v8, rfl, ⟨A8, c8, rfl, o8, hc8⟩, d8⟩
            unfold shV
            have o8' := o8.base (B' := w.heap.size) b3.size
            replace x0 := x0.later d8
            replace s0 := s0.later d8
            replace a3 := a3.below d8 a3.lt
            replace b3 := b3.trans ((d8).mono b3.size)
            clear y0
            obtain ⟨y0, -⟩ := id x0.reads
            replace xg := xg.later d8
            clear yg
            obtain ⟨yg, ygf⟩ := id xg.reads
            have ygf0 := ygf 0
            clear ygf CE2 o8 d8
            have xg9 := xg.set0 (.slice A8 xs.length c8)
            have s9 := s0.far (p := ⟨g6, 0, none⟩) (by show w.heap.size + 1 ≠ g6; omega) (.slice A8 xs.length c8)
            have o9' := o8'.keptT (by decide) (by decide) (but_set w8 g6 0 (.slice A8 xs.length c8)) (blk_type xg)
            have b9' := b3.setCell (p := ⟨g6, 0, none⟩) hgb (.slice A8 xs.length c8)
            go_upto_region 9 with fail
            obtain ⟨W9, hW9⟩ : ∃ x, w8.setCell ⟨g6, 0, none⟩ (.slice A8 xs.length c8) = x := ⟨_, rfl⟩
            rw [hW9] at xg9 s9 o9' b9' ⊢
            clear hW9 s0 b3 xg x0 y0 a3 yg ygf0
            have s0 := s9
            have b3 := b9'
            obtain ⟨yg, -⟩ := id xg9.reads
            obtain ⟨t0, tf⟩ := id s0.reads
            have tf0 := tf 0
            clear tf
            have o9 := (o9').keptT (by decide) (by decide) (but_set W9 (w.heap.size + 1) 0 (.slice A8 xs.length c8)) (blk_type s0)
            have b9 := b3.setCell (p := ⟨w.heap.size + 1, 0, none⟩) (Nat.le_succ _) (.slice A8 xs.length c8)
            obtain ⟨p0, -⟩ := (s0.set0 (.slice A8 xs.length c8)).reads
            go_wp2
            exact bodyPost_ret (v := .tuple #[.agg #[.slice A8 xs.length c8], .bool false]) (by simp [results, Tryd.results22, go_sem, p0]) rfl ⟨_, rfl, OwnShF.mk_ o9, b9⟩
        · have e9 : (z != 0) = true := by rw [bne_iff_ne]; exact h9
          have hk := HR.out.known_ HVld.out HT.out HUV.out (by rw [HZ.out]; exact h9)
          rw [HZ.out] at hk
          obtain ⟨rfl, hbo⟩ := hk
          have HBO := hid hbo
          clear hbo h9 CX HR
          have HKP : Hid (∀ x, Below (w5.drewN 1).heap.size (w5.drewN 1) x → x.cell? ⟨w.heap.size, 0, none⟩ = some (.slice A xs.length c) ∧ x.cell? ⟨g, 5 + m, none⟩ = some (.int .i64 z)) := fun x hx =>
            ⟨((show Blk1 (w5.drewN 1) w.heap.size _ _ from x0).later hx).reads.1, ((show Arr4 (w5.drewN 1) g _ X from a3).below hx a3.lt).get_ HX5.out⟩
          go_upto_region 5 with fail
          refine wp_region_held_drew (S := fun x => x.cell? ⟨w.heap.size, 0, none⟩ = some (.slice A xs.length c) ∧ x.cell? ⟨g, 5 + m, none⟩ = some (.int .i64 z)) (by kernel_rfl) (HKP.out _ (Below.refl _ _)) (fun hHeld => ?_)
          try simp only [Act.put, List.getElem_toArray, List.getElem_cons_succ, List.getElem_cons_zero, List.setIfInBounds_toArray, List.set_cons_zero, List.set_cons_succ]
          refine wpAnyH_take (i := 0) (oi := _) (v := ?_) rfl (by kernel_rfl) (by kernel_rfl) (by kernel_rfl) (fun _ _ _ h => h) (Or.inl ⟨by rfl, ?_⟩) hHeld ?_
          rotate_left
          · (intro w' hSw; (try dsimp only at hSw); go_simp <;> with_reducible rfl)
          try simp only [Act.put, List.getElem_toArray, List.getElem_cons_succ, List.getElem_cons_zero, List.setIfInBounds_toArray, List.set_cons_zero, List.set_cons_succ]
          refine wpAnyH_take (i := 2) (oi := _) (v := ?_) rfl (by kernel_rfl) (by kernel_rfl) (by kernel_rfl) (fun _ _ _ h => h) (Or.inl ⟨by rfl, ?_⟩) hHeld ?_
          rotate_left
          · (intro w' hSw; (try dsimp only at hSw); go_simp <;> with_reducible rfl)
          try simp only [Act.put, List.getElem_toArray, List.getElem_cons_succ, List.getElem_cons_zero, List.setIfInBounds_toArray, List.set_cons_zero, List.set_cons_succ]
          refine wpAnyH_take (i := 3) (oi := _) (v := ?_) rfl (by kernel_rfl) (by kernel_rfl) (by kernel_rfl) (fun _ _ _ h => h) (Or.inl ⟨by rfl, ?_⟩) hHeld ?_
          rotate_left
          · (intro w' hSw; (try dsimp only at hSw); go_simp <;> with_reducible rfl)
          try simp only [Act.put, List.getElem_toArray, List.getElem_cons_succ, List.getElem_cons_zero, List.setIfInBounds_toArray, List.set_cons_zero, List.set_cons_succ]
          refine wpAnyH_take (i := 4) (oi := _) (v := ?_) rfl (by kernel_rfl) (by kernel_rfl) (by kernel_rfl) (fun _ _ _ h => h) (Or.inl ⟨by rfl, ?_⟩) hHeld ?_
          rotate_left
          · (intro w' hSw; (try dsimp only at hSw); go_simp <;> with_reducible rfl)
          try simp only [Act.put, List.getElem_toArray, List.getElem_cons_succ, List.getElem_cons_zero, List.setIfInBounds_toArray, List.set_cons_zero, List.set_cons_succ]
          refine wpAnyH_take (i := 5) (oi := _) (v := ?_) rfl (by kernel_rfl) (by kernel_rfl) (by kernel_rfl) (fun _ _ _ h => h) (Or.inl ⟨by rfl, ?_⟩) hHeld ?_
          rotate_left
          · (intro w' hSw; (try dsimp only at hSw); go_simp <;> with_reducible rfl)
          try simp only [Act.put, List.getElem_toArray, List.getElem_cons_succ, List.getElem_cons_zero, List.setIfInBounds_toArray, List.set_cons_zero, List.set_cons_succ]
          refine wpAnyH_take (i := 6) (oi := _) (v := ?_) rfl (by kernel_rfl) (by kernel_rfl) (by kernel_rfl) (fun _ _ _ h => h) (Or.inl ⟨by rfl, ?_⟩) hHeld ?_
          rotate_left
          · (intro w' hSw; (try dsimp only at hSw); go_simp <;> with_reducible rfl)
          try simp only [Act.put, List.getElem_toArray, List.getElem_cons_succ, List.getElem_cons_zero, List.setIfInBounds_toArray, List.set_cons_zero, List.set_cons_succ]
          refine wpAnyH_ready (rs := [1]) (by kernel_rfl) (by simp) (AllReadyH.cons (o := _) rfl (fun K hK => ?_) AllReadyH.nil)
          try simp only [Act.put, List.getElem_toArray, List.getElem_cons_succ, List.getElem_cons_zero, List.setIfInBounds_toArray, List.set_cons_zero, List.set_cons_succ]
          go_simp
          go_at_call 62
          have b3d := Wo.Below.drewN b3 1
          refine (CC.out _ b3d).mono ?_
          rintro e w6 ⟨v6, rfl, ⟨A6, c6, rfl, o6, hc6⟩, d6⟩
          unfold shV
          have o6' := o6.base (B' := w.heap.size) b3d.size
          have s6 := (show Blk1 (w5.drewN 1) (w.heap.size + 1) _ _ from s0).later d6
          have b6 := b3d.trans (d6.mono b3d.size)
          have gne : Hid (g ≠ w.heap.size + 1) := by
            have := HZ0.out
            show g ≠ _
            omega
          obtain ⟨t0, tf⟩ := id s6.reads
          have tf0 := tf 0
          clear tf
          refine hK.out _ _ (HKP.out _ d6) (fun hHeld => ?_)
          clear hK K
          try simp only [Act.put, List.getElem_toArray, List.getElem_cons_succ, List.getElem_cons_zero, List.setIfInBounds_toArray, List.set_cons_zero, List.set_cons_succ]
          refine wpAnyH_ready (rs := [7]) (by kernel_rfl) (by simp) (AllReadyH.cons (o := _) rfl (fun K hK => ?_) AllReadyH.nil)
          try simp only [Act.put, List.getElem_toArray, List.getElem_cons_succ, List.getElem_cons_zero, List.setIfInBounds_toArray, List.set_cons_zero, List.set_cons_succ]
          go_simp
          have HS7 : Hid ((w6.setCell ⟨w.heap.size + 1, 0, none⟩ (.slice A6 xs.length c6)).cell? ⟨w.heap.size, 0, none⟩ = some (.slice A xs.length c) ∧ (w6.setCell ⟨w.heap.size + 1, 0, none⟩ (.slice A6 xs.length c6)).cell? ⟨g, 5 + m, none⟩ = some (.int .i64 z)) :=
            ⟨(((show Blk1 (w5.drewN 1) w.heap.size _ _ from x0).later d6).far (p := ⟨w.heap.size + 1, 0, none⟩) (by show w.heap.size ≠ w.heap.size + 1; omega) _).reads.1, (((show Arr4 (w5.drewN 1) g _ X from a3).below d6 a3.lt).far (p := ⟨w.heap.size + 1, 0, none⟩) gne.out _).get_ HX5.out⟩
          refine hK.out _ _ HS7.out (fun hHeld => ?_)
          clear hK K
          try simp only [Act.put, List.getElem_toArray, List.getElem_cons_succ, List.getElem_cons_zero, List.setIfInBounds_toArray, List.set_cons_zero, List.set_cons_succ]
          refine wpAnyH_take (i := 8) (oi := _) (v := ?_) rfl (by kernel_rfl) (by kernel_rfl) (by kernel_rfl) (fun _ _ _ h => h) (Or.inl ⟨by rfl, ?_⟩) hHeld ?_
          rotate_left
          · (intro w' hSw; (try dsimp only at hSw); go_simp <;> with_reducible rfl)
          try simp only [Act.put, List.getElem_toArray, List.getElem_cons_succ, List.getElem_cons_zero, List.setIfInBounds_toArray, List.set_cons_zero, List.set_cons_succ]
          refine wpAnyH_done (by kernel_rfl) ?_ _
          have o9 := o6'.keptT (by decide) (by decide) (but_set w6 (w.heap.size + 1) 0 (.slice A6 xs.length c6)) (blk_type s6)
          have b9 := b6.setCell (p := ⟨w.heap.size + 1, 0, none⟩) (Nat.le_succ _) (.slice A6 xs.length c6)
          obtain ⟨p0, -⟩ := (s6.set0 (.slice A6 xs.length c6)).reads
          clear hHeld t0 tf0 HKP HS7 CC
          go_wp2
          refine bodyPost_ret (v := .tuple #[.agg #[.slice A6 xs.length c6], .bool (z == 1)]) (by simp [results, Tryd.results22, go_sem, p0]) rfl ?_
          rw [HBO.out]
          exact ⟨_, rfl, OwnShF.mk_ o9, b9⟩
theorem implShardPrepare_is (er0 er1 : Addr) (xs : List Rec) (b : Bool) (v : Value) (rs : List Rec) (t : Int) (A2 : Option Addr) (c2 : Nat) (us : List Up) (w : World) (h : Shd w w.heap.size v rs) (hE : Errs er0 er1 w) (hf : FitR rs) (hu : Row w w.heap.size A2 (upsV us)) (hul : us.length ≤ 1048576) (hV : Voted rs t us xs b) :
    Calls Tryd.prog 22 #[v, .int .i64 t, .slice A2 us.length c2] w (NewShB xs b w) := (implShardPrepare_F er0 er1 xs b v rs t A2 c2 us w h hE hf hu hul hV).mono fun _ _ h => h.weak
set_option linter.unusedSimpArgs false in
set_option maxRecDepth 100000 in
set_option maxHeartbeats 16000000 in
theorem implShardDecide_F (er0 er1 : Addr) (xs : List Rec) (bo : Bool) (v : Value) (rs : List Rec) (t k : Int) (cm : Bool) (w : World) (h : Shd w w.heap.size v rs) (hE : Errs er0 er1 w) (hf : FitR rs) (hk : k = if cm then 2 else 3) (hV : Decided rs t k xs bo) :
    Calls Tryd.prog 27 #[v, .int .i64 t, .bool cm] w (NewShFB xs bo w) := by
  have HR := hid hV
  clear hV
  obtain ⟨b, hb⟩ := bool_ofP (Vld rs)
  obtain ⟨vt, hvt⟩ := bool_of (TV t)
  have HVS := hid hb
  have HVT := hid hvt
  have CT : Hid (∀ x, Calls Tryd.prog 61 #[.int .i64 t] x (Same (.bool vt) x)) := fun x => txnValid_is vt t x hvt
  have CC : Hid (∀ x, Below w.heap.size w x → Calls Tryd.prog 62 #[v] x (NewShF rs x)) := fun x hx => shdCopied_is v rs x (h.on hx hx.size) hf
  have CX : Hid (∀ b1 xs1 x, Below w.heap.size w x → rs.length ≤ 30 → (b1 = true ↔ Vld (rs ++ [⟨k, t, []⟩])) → (xs1 = if b1 then rs ++ [⟨k, t, []⟩] else rs) → Calls Tryd.prog 63 #[v, .agg #[.int .i64 k, .int .i64 t, .slice none 0 0]] x (NewShFB xs1 b1 x)) := fun b1 xs1 x hx h30 hb1 hx1 =>
    extended_is er0 er1 b1 xs1 v rs none 0 ⟨k, t, []⟩ x (h.on hx hx.size) (hE.below hx) h30 hf (.inl rfl) (Nat.zero_le _) hb1 hx1
  have HK := hid hk
  obtain ⟨A, c, rfl, h0, hc⟩ := h
  have CR : Hid (∀ x, Below w.heap.size w x → Calls Tryd.prog 57 #[shV A rs.length c] x (ReadO rs b x)) := fun x hx => readShard_is b _ rs x er0 er1 (Shd.on ⟨A, c, rfl, h0, hc⟩ hx hx.size) (hE.below hx) hf hb
  unfold shV at *
  clear hb hE
  clear hvt hk
  have b0 := ((Below.refl w.heap.size w).alloc (Nat.le_refl _) (.cells #[.slice A rs.length c] 25)).alloc (by simp) (.cells #[.slice none 0 0] 25)
  have x0 := (Blk1.new_ w 25 (.slice A rs.length c)).alloc (.cells #[.slice none 0 0] 25)
  have s0 := Blk1.new_ (w.alloc (.cells #[.slice A rs.length c] 25)) 25 (.slice none 0 0)
  rw [World.size_alloc] at s0
  go_enter Tryd.func27, Tryd.ntmps27
  go_upto_region 1 with fail
  obtain ⟨w1, hw1⟩ : ∃ x, (w.alloc (.cells #[.slice A rs.length c] 25)).alloc (.cells #[.slice none 0 0] 25) = x := ⟨_, rfl⟩
  rw [hw1] at b0 x0 s0 ⊢
  clear hw1
  obtain ⟨y0, -⟩ := id x0.reads
  have z0 : w.heap.size + 1 < w1.heap.size := s0.lt
  go_wp2_with fail
  refine (CR.out _ b0).mono ?_
  rintro e w2 ⟨X, rfl, hX, hXX, d2⟩
  have HX := hid hX
  have HXX := hid hXX
  have hg := heap_alloc_new w2 (.cells led0.toArray 82)
  have b2 := b0.trans (d2.mono b0.size)
  have al := (Below.refl w2.heap.size w2).alloc (Nat.le_refl _) (.cells led0.toArray 82)
  have d3 : Below w1.heap.size w1 ((w2.alloc (.cells led0.toArray 82)).setRow w2.heap.size X.toArray) := below_setRow (d2.trans (al.mono d2.size)) d2.size X.toArray
  have z1 : w1.heap.size ≤ w2.heap.size := d2.size
  have HV3 : Hid (IfB b (∃ s, Rcv rs s ∧ LdV ((w2.alloc (.cells led0.toArray 82)).setRow w2.heap.size X.toArray) w1.heap.size X rs s)) := fun e => by
    obtain ⟨s, q1, q2⟩ := HXX.out e
    exact ⟨s, q1, (q2.below d2.size al).but (Nat.le_trans d2.size al.size) (but_setRow _ w2.heap.size X.toArray) d2.size hg (by decide)⟩
  have a3 : Arr4 ((w2.alloc (.cells led0.toArray 82)).setRow w2.heap.size X.toArray) w2.heap.size 82 X := setRow_heap _ _ _ X.toArray _ _ hg
  clear d2 hX hXX HXX CR y0 b2 al
  go_upto_region 2 with (refine wpList_store_rowTo rfl 82 _ _ rfl rfl w2.heap.size X.toArray rfl rfl 82 led0.toArray hg HX.out.info (led0_led.size.trans HX.out.size.symm) HX.out.2 ?_)
  change Code.wp _ _ _ _ ((w2.alloc (.cells led0.toArray 82)).setRow w2.heap.size X.toArray)
  obtain ⟨g, hgg⟩ : ∃ g, w2.heap.size = g := ⟨_, rfl⟩
  obtain ⟨w3, hw3⟩ : ∃ x, (w2.alloc (.cells led0.toArray 82)).setRow w2.heap.size X.toArray = x := ⟨_, rfl⟩
  rw [hw3] at d3 HV3 a3 ⊢
  rw [hgg] at a3 z1 ⊢
  clear hw3 hg hgg
  have b3 := b0.trans (d3.mono b0.size)
  replace x0 := x0.later d3
  replace s0 := s0.later d3
  have HZ0 := hid z0
  clear z0
  obtain ⟨y0, -⟩ := id x0.reads
  cases b with
  | false =>
    obtain ⟨rfl, rfl⟩ := HR.out.bad_ fun e => by have := HVS.out.2 e.1; cases this
    clear CT CC CX
    obtain ⟨t0, tf⟩ := id s0.reads
    have tf0 := tf 0
    obtain ⟨p0, -⟩ := (s0.set0 (.slice none 0 0)).reads
    have b9 := b3.setCell (p := ⟨w.heap.size + 1, 0, none⟩) (Nat.le_succ _) (.slice none 0 0)
    clear tf
    go_wp2
    exact bodyPost_ret (v := .tuple #[.agg #[.slice none 0 0], .bool false]) (by simp [results, Tryd.results27, go_sem, p0]) rfl ⟨_, rfl, OwnShF.mk_ (OwnRecF.nil_none _ _), b9⟩
  | true =>
    have HVld := hid (HVS.out.1 rfl)
    obtain ⟨s, q1, A5, c5, us5, hX, h5, -⟩ := HV3.out rfl
    have HQ := hid q1
    have HXX := hid hX
    clear HV3 q1 hX h5
    go_wp2_with fail
    refine (CT.out _).mono ?_
    rintro e w5 ⟨rfl, rfl⟩
    cases vt with
    | false =>
      obtain ⟨rfl, rfl⟩ := HR.out.bad_ fun e => by have := HVT.out.2 e.2; cases this
      clear CT CC CX
      obtain ⟨t0, tf⟩ := id s0.reads
      have tf0 := tf 0
      obtain ⟨p0, -⟩ := (s0.set0 (.slice none 0 0)).reads
      have b9 := b3.setCell (p := ⟨w.heap.size + 1, 0, none⟩) (Nat.le_succ _) (.slice none 0 0)
      clear tf
      go_wp2
      exact bodyPost_ret (v := .tuple #[.agg #[.slice none 0 0], .bool false]) (by simp [results, Tryd.results27, go_sem, p0]) rfl ⟨_, rfl, OwnShF.mk_ (OwnRecF.nil_none _ _), b9⟩
    | true =>
      have tv := HVT.out.1 rfl
      have HT := hid tv
      obtain ⟨m, rfl⟩ := Int.eq_ofNat_of_zero_le tv.1
      have hm12 : m < 12 := by have := tv.2; omega
      clear tv CT
      obtain ⟨z, hz⟩ : ∃ z, Sh.ask rs (m : Int) = z := ⟨_, rfl⟩
      have hx5 : X[5 + m]? = some (.int .i64 z) := by
        rw [HXX.out, ledC_state HQ.out.inv.refs.1 (stL_length rs) hm12]
        have := stL_get (rs := rs) hm12
        rw [List.getElem?_eq_getElem (by rw [stL_length]; exact hm12)] at this
        injection this with this
        rw [this, hz]
      have y5 := a3.get_ hx5
      have k0 : (0 : Int) ≤ (m : Int) := by omega
      have k1 : (m : Int) < 12 := by omega
      have HZ := hid hz
      have h30 : rs.length ≤ 30 := HVld.out.2
      clear hx5 hz
      by_cases h9 : z = k
      · obtain ⟨hxs, rfl⟩ := HR.out.known_ HVld.out HT.out (by rw [HZ.out]; exact h9)
        have HXS := hid hxs
        have e2 : cm = true → (z == 2) = true := fun e => by rw [h9, HK.out, if_pos e]; rfl
        have e3 : cm = false → (z == 3) = true := fun e => by rw [h9, HK.out, e]; rfl
        cases cm with
        | true =>
          have e9 := e2 rfl
          clear e2 e3 hxs CX HR h9
          go_wp2_with fail
          refine (CC.out _ b3).mono ?_
          rintro e w6 ⟨v6, rfl, ⟨A6, c6, rfl, o6, hc6⟩, d6⟩
          unfold shV
          have o6' := o6.base (B' := w.heap.size) b3.size
          replace x0 := x0.later d6
          replace s0 := s0.later d6
          replace a3 := a3.below d6 a3.lt
          replace b3 := b3.trans ((d6).mono b3.size)
          clear y0
          obtain ⟨y0, -⟩ := id x0.reads
          clear o6 d6 CC y5
          obtain ⟨t0, tf⟩ := id s0.reads
          have tf0 := tf 0
          clear tf
          have o9 := (o6').keptT (by decide) (by decide) (but_set w6 (w.heap.size + 1) 0 (.slice A6 rs.length c6)) (blk_type s0)
          have b9 := b3.setCell (p := ⟨w.heap.size + 1, 0, none⟩) (Nat.le_succ _) (.slice A6 rs.length c6)
          obtain ⟨p0, -⟩ := (s0.set0 (.slice A6 rs.length c6)).reads
          go_wp2
          refine bodyPost_ret (v := .tuple #[.agg #[.slice A6 rs.length c6], .bool true]) (by simp [results, Tryd.results27, go_sem, p0]) rfl ?_
          rw [HXS.out]
          exact ⟨_, rfl, OwnShF.mk_ o9, b9⟩
        | false =>
          have e9 := e3 rfl
          clear e2 e3 hxs CX HR h9
          go_wp2_with fail
          refine (CC.out _ b3).mono ?_
          rintro e w6 ⟨v6, rfl, ⟨A6, c6, rfl, o6, hc6⟩, d6⟩
          unfold shV
          have o6' := o6.base (B' := w.heap.size) b3.size
          replace x0 := x0.later d6
          replace s0 := s0.later d6
          replace a3 := a3.below d6 a3.lt
          replace b3 := b3.trans ((d6).mono b3.size)
          clear y0
          obtain ⟨y0, -⟩ := id x0.reads
          clear o6 d6 CC y5
          obtain ⟨t0, tf⟩ := id s0.reads
          have tf0 := tf 0
          clear tf
          have o9 := (o6').keptT (by decide) (by decide) (but_set w6 (w.heap.size + 1) 0 (.slice A6 rs.length c6)) (blk_type s0)
          have b9 := b3.setCell (p := ⟨w.heap.size + 1, 0, none⟩) (Nat.le_succ _) (.slice A6 rs.length c6)
          obtain ⟨p0, -⟩ := (s0.set0 (.slice A6 rs.length c6)).reads
          go_wp2
          refine bodyPost_ret (v := .tuple #[.agg #[.slice A6 rs.length c6], .bool true]) (by simp [results, Tryd.results27, go_sem, p0]) rfl ?_
          rw [HXS.out]
          exact ⟨_, rfl, OwnShF.mk_ o9, b9⟩
      · have hn := HR.out.new_ HVld.out HT.out (by rw [HZ.out]; exact h9)
        have CE := hid fun x hx => CX.out bo xs x hx h30 hn.1 hn.2
        have e2 : cm = true → (z == 2) = false := fun e => by
          rw [beq_eq_false_iff_ne]
          intro h
          exact h9 (by rw [h, HK.out, if_pos e])
        have e3 : cm = false → (z == 3) = false := fun e => by
          rw [beq_eq_false_iff_ne]
          intro h
          exact h9 (by rw [h, HK.out, e]; rfl)
        cases cm with
        | true =>
          have e9 := e2 rfl
          have ek : k = 2 := HK.out
          subst ek
          clear e2 e3 hn CX CC HR h9
          go_wp2_with fail
          refine (CE.out _ b3).mono ?_
          rintro e w6 ⟨v6, rfl, ⟨A6, c6, rfl, o6, hc6⟩, d6⟩
          unfold shV
          have o6' := o6.base (B' := w.heap.size) b3.size
          replace x0 := x0.later d6
          replace s0 := s0.later d6
          replace a3 := a3.below d6 a3.lt
          replace b3 := b3.trans ((d6).mono b3.size)
          clear y0
          obtain ⟨y0, -⟩ := id x0.reads
          clear o6 d6 CE y5
          obtain ⟨t0, tf⟩ := id s0.reads
          have tf0 := tf 0
          clear tf
          have o9 := (o6').keptT (by decide) (by decide) (but_set w6 (w.heap.size + 1) 0 (.slice A6 xs.length c6)) (blk_type s0)
          have b9 := b3.setCell (p := ⟨w.heap.size + 1, 0, none⟩) (Nat.le_succ _) (.slice A6 xs.length c6)
          obtain ⟨p0, -⟩ := (s0.set0 (.slice A6 xs.length c6)).reads
          go_wp2
          exact bodyPost_ret (v := .tuple #[.agg #[.slice A6 xs.length c6], .bool bo]) (by simp [results, Tryd.results27, go_sem, p0]) rfl ⟨_, rfl, OwnShF.mk_ o9, b9⟩
        | false =>
          have e9 := e3 rfl
          have ek : k = 3 := HK.out
          subst ek
          clear e2 e3 hn CX CC HR h9
          go_wp2_with fail
          refine (CE.out _ b3).mono ?_
          rintro e w6 ⟨v6, rfl, ⟨A6, c6, rfl, o6, hc6⟩, d6⟩
          unfold shV
          have o6' := o6.base (B' := w.heap.size) b3.size
          replace x0 := x0.later d6
          replace s0 := s0.later d6
          replace a3 := a3.below d6 a3.lt
          replace b3 := b3.trans ((d6).mono b3.size)
          clear y0
          obtain ⟨y0, -⟩ := id x0.reads
          clear o6 d6 CE y5
          obtain ⟨t0, tf⟩ := id s0.reads
          have tf0 := tf 0
          clear tf
          have o9 := (o6').keptT (by decide) (by decide) (but_set w6 (w.heap.size + 1) 0 (.slice A6 xs.length c6)) (blk_type s0)
          have b9 := b3.setCell (p := ⟨w.heap.size + 1, 0, none⟩) (Nat.le_succ _) (.slice A6 xs.length c6)
          obtain ⟨p0, -⟩ := (s0.set0 (.slice A6 xs.length c6)).reads
          go_wp2
          exact bodyPost_ret (v := .tuple #[.agg #[.slice A6 xs.length c6], .bool bo]) (by simp [results, Tryd.results27, go_sem, p0]) rfl ⟨_, rfl, OwnShF.mk_ o9, b9⟩
theorem implShardDecide_is (er0 er1 : Addr) (xs : List Rec) (b : Bool) (v : Value) (rs : List Rec) (t k : Int) (cm : Bool) (w : World) (h : Shd w w.heap.size v rs) (hE : Errs er0 er1 w) (hf : FitR rs) (hk : k = if cm then 2 else 3) (hV : Decided rs t k xs b) :
    Calls Tryd.prog 27 #[v, .int .i64 t, .bool cm] w (NewShB xs b w) := (implShardDecide_F er0 er1 xs b v rs t k cm w h hE hf hk hV).mono fun _ _ h => h.weak
theorem com_take {rs : List Rec} {k : Nat} (hk : k < rs.length) : Sh.com (rs.take (k + 1)) = Sh.com (rs.take k) ++ if rs[k].k = 2 then [rs[k].t] else [] := by
  rw [List.take_succ_eq_append_getElem hk, com_snoc]
set_option maxRecDepth 100000 in
set_option maxHeartbeats 4000000 in
theorem implShardCommitted_is (er0 er1 : Addr) (zs : List Int) (v : Value) (rs : List Rec) (w : World) (h : Shd w w.heap.size v rs) (hE : Errs er0 er1 w) (hf : FitR rs) (hz : ComOf rs zs) :
    Calls Tryd.prog 15 #[v] w (IntsOf zs w) := by
  obtain ⟨i0, hi, hz0, hz1, hz2⟩ := info_of info_int
  have HZ := hid hz
  clear hz
  obtain ⟨b, hb⟩ := bool_ofP (Vld rs)
  have HB := hid hb
  have CV : Hid (∀ x, Below w.heap.size w x → Calls Tryd.prog 36 #[v] x (Ret (.bool b) x)) := fun x hx => implShardValid_is er0 er1 b v rs x (h.on hx hx.size) (hE.below hx) hf hb
  have hf1 := hf.1
  obtain ⟨A, c, rfl, h0, hc⟩ := h
  unfold shV at *
  clear hb hE hf
  have b0 := ((Below.refl w.heap.size w).alloc (Nat.le_refl _) (.cells #[.slice A rs.length c] 25)).alloc (by simp) (.cells #[] 3)
  have x0 := (Blk1.new_ w 25 (.slice A rs.length c)).alloc (.cells #[] 3)
  have o0 : OwnI ((w.alloc (.cells #[.slice A rs.length c] 25)).alloc (.cells #[] 3)) w.heap.size (.slice (some ⟨w.heap.size + 1, 0, none⟩) 0 0) [] := by
    have := OwnI.nil_new (w := w.alloc (.cells #[.slice A rs.length c] 25)) (B := w.heap.size) (by simp)
    rw [World.size_alloc] at this
    exact this
  go_enter Tryd.func15, Tryd.ntmps15
  go_upto_region 2 with fail
  obtain ⟨w1, hw1⟩ : ∃ x, (w.alloc (.cells #[.slice A rs.length c] 25)).alloc (.cells #[] 3) = x := ⟨_, rfl⟩
  rw [hw1] at b0 x0 o0 ⊢
  clear hw1
  obtain ⟨y0, -⟩ := id x0.reads
  go_wp2_with fail
  refine (CV.out _ b0).mono ?_
  rintro e w2 ⟨rfl, d2⟩
  have b2 := b0.trans (d2.mono b0.size)
  have x2 := x0.later d2
  have o2 := o0.below d2 (Nat.le_refl _)
  clear b0 x0 o0 d2 y0 CV
  obtain ⟨y0, -⟩ := id x2.reads
  cases b with
  | false =>
    have ez : zs = [] := by
      rcases HZ.out with ⟨h1, -⟩ | ⟨-, h1⟩
      · have := HB.out.2 h1; cases this
      · exact h1
    subst ez
    go_wp2
    go_ret
    exact ⟨_, _, rfl, o2, b2⟩
  | true =>
    have hzs : zs = Sh.com rs := by
      rcases HZ.out with ⟨-, h1⟩ | ⟨h1, -⟩
      · exact h1
      · exact absurd (HB.out.1 rfl) h1
    have HZS := hid hzs
    clear hzs HZ HB
    go_wp2_with fail
    go_loopw [3, 14] (fun o i wr => ∃ (k n : Nat) (Ao : Option Addr) (co : Nat), k ≤ rs.length ∧ i = .int .i64 k ∧ o = .slice Ao n co ∧ n ≤ k ∧ Hid ((Sh.com (rs.take k)).length = n) ∧ OwnI wr w.heap.size (.slice Ao n co) (Sh.com (rs.take k)) ∧ Blk1 wr w.heap.size 25 (.slice A rs.length c) ∧ Below w.heap.size w wr) (fun _ i _ => rs.length - (intOf i).toNat)
    case atStart => exact ⟨0, 0, _, _, Nat.zero_le _, rfl, rfl, Nat.le_refl _, rfl, o2, x2, b2⟩
    case round =>
      obtain ⟨k, n, Ao, co, hk, rfl, rfl, hnk, HL, ho, hx, hb⟩ := hrel
      clear o2 x2 b2 y0
      have hz := hb.size
      obtain ⟨y0, -⟩ := id hx.reads
      by_cases hlt : k < rs.length
      · obtain ⟨r, ad, A', c', hr, rfl, ha, g0, g1, g2, -, -⟩ := (h0.below hb (Nat.le_refl _)).rec hlt
        have q0 : (0 : Int) ≤ (k : Int) := by omega
        have q1 : (k : Int) < (rs.length : Int) := by omega
        have HT := hid (com_take hlt)
        rw [hr] at HT
        have x3 := Blk3s.new_ wr 33 (.int .i64 r.k) (.int .i64 r.t) (.slice A' r.us.length c')
        have al := (Below.refl wr.heap.size wr).alloc (Nat.le_refl _) (.cells #[.int .i64 r.k, .int .i64 r.t, .slice A' r.us.length c'] 33)
        clear hr
        go_upto_region 7 with fail
        obtain ⟨w3, hw3⟩ : ∃ w3, wr.alloc (.cells #[.int .i64 r.k, .int .i64 r.t, .slice A' r.us.length c'] 33) = w3 := ⟨_, rfl⟩
        rw [hw3] at x3 al ⊢
        clear hw3 y0 g0 g1 g2
        obtain ⟨e0, e1, e2, -⟩ := id x3.reads
        have hb3 := hb.trans (al.mono hz)
        have hx3 := hx.later al
        have ho3 := ho.below al (Nat.le_refl _)
        clear hb hx ho
        by_cases h2 : r.k = 2
        · have e5 : (r.k == 2) = true := by rw [beq_iff_eq]; exact h2
          rw [if_pos h2] at HT
          have al4 := (Below.refl w3.heap.size w3).alloc (Nat.le_refl _) (.cells #[.int .i64 r.t] 3)
          have hb4 := hb3.trans (al4.mono hb3.size)
          have hx4 := hx3.later al4
          have ho4 := ho3.below al4 (Nat.le_refl _)
          have r4 : (w3.alloc (.cells #[.int .i64 r.t] 3)).ownsRow w.heap.size 3 1 (.slice Ao n co) n (ints (Sh.com (rs.take k))) := by
            unfold OwnI at ho4
            rwa [HL.out] at ho4
          have z4 := hb4.size
          have F : Hid (∀ (w7 : World) (v7 : Value), w7.ownsRow w.heap.size 3 1 v7 (n + 1) (ints (Sh.com (rs.take k)) ++ [.int .i64 r.t]) → (w3.alloc (.cells #[.int .i64 r.t] 3)).grownBy w7 (Value.slice Ao n co).ownBlock →
              ∃ A' c', v7 = .slice A' (n + 1) c' ∧ OwnI w7 w.heap.size (.slice A' (n + 1) c') (Sh.com (rs.take (k + 1))) ∧ Hid ((Sh.com (rs.take (k + 1))).length = n + 1) ∧ Blk1 w7 w.heap.size 25 (.slice (some ad) rs.length c) ∧ Below w.heap.size w w7) := fun w7 v7 hown hg => by
            have o7 : OwnI w7 w.heap.size v7 (Sh.com (rs.take k) ++ [r.t]) := by
              refine OwnI.app ?_
              rw [HL.out]
              exact hown
            rw [← HT.out] at o7
            have hl7 : (Sh.com (rs.take (k + 1))).length = n + 1 := by rw [HT.out, List.length_append, HL.out]; rfl
            obtain ⟨A', c', rfl, -, -⟩ := id o7.form
            rw [hl7] at o7 ⊢
            exact ⟨A', c', rfl, o7, rfl, hx4.grown hg (blk_ne_row hx4 r4 (by decide)), hb4.grown hg z4 fun j hj => (World.ownsRow.lt r4 j hj).1⟩
          clear h2 HT hx4 ho4 hb4 al4 hx3 ho3 hb3 x3 al
          go_wp2_with (at_builtin; go_must (refine wpList_append_row _ rfl _ _ 27 rfl w.heap.size 3 i0 (.int .i64 0) 1 8 Tryd.underlying27 hi hz0 hz1 hz2 rfl (by decide) _ n _ rfl r4 (w3.heap.size + 1) (some ⟨w3.heap.size, 0, none⟩) 1 1 [.int .i64 r.t] rfl (.inr ⟨_, rfl, Nat.lt_succ_self _, cell_one_new _ _ _⟩) rfl (one_int _) (by unfold maxLen; omega) (by omega) z4 ?_); intro v7 w7 hown hg; obtain ⟨A7, c7, rfl, o7, HL7, x7, b7⟩ := F.out _ _ hown hg)
          go_roundw
          case rel => exact ⟨k + 1, n + 1, A7, c7, hlt, by go_num, rfl, by omega, HL7, o7, x7, b7⟩
          case measure => simp [intOf]; omega
        · have e5 : (r.k == 2) = false := by rw [beq_eq_false_iff_ne]; exact h2
          rw [if_neg h2, List.append_nil] at HT
          rw [← HT.out] at ho3 HL
          clear h2 HT
          go_wp2
          go_roundw
          case rel => exact ⟨k + 1, n, Ao, co, hlt, by go_num, rfl, by omega, HL, ho3, hx3, hb3⟩
          case measure => simp [intOf]; omega
      · have hk' : k = rs.length := by omega
        subst hk'
        rw [List.take_length, ← HZS.out] at ho HL
        go_wp2
        go_ret
        have hl := HL.out
        subst hl
        exact ⟨Ao, co, rfl, ho, hb⟩
end Go.Proofs.YteeffchnbkkpfabDoor
