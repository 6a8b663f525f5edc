/-
  Walks of the laws on what is missing in quarantines.
-/
import Derived.Test.YtblknnifccmpkaaLawQu2
import Derived.Test.YtblknnifccmpkaaG8C
import Derived.Test.YtblknnifccmpkaaRchC
namespace Go.Proofs.Ytblknnifccmpkaa
open Go.RowKit Wo Pu Qu

theorem rowq_on {w w' : World} {A : Option Addr} {vs : List Value} (h : Row w w.heap.size A vs) (hb : Below w.heap.size w w') : Row w' w'.heap.size A vs := (h.below hb (Nat.le_refl _)).more hb.size
theorem Quar.main2 {w : World} {B n c n2 c2 : Nat} {A A2 : Option Addr} {q : Qr} (h : Quar w B (.agg #[.slice A n c, .slice A2 n2 c2]) q) : Objs w B A q.m := by
  obtain ⟨A', c', A2', c2', e, h1, _⟩ := h
  unfold qv at e
  injection e with e
  have e2 := congrArg (fun a : Array Value => a[0]?) e
  simp only [List.getElem?_toArray, List.getElem?_cons_zero, Option.some.injEq] at e2
  injection e2 with e2 _ _
  subst e2
  exact h1
theorem blk_store {w : World} {g : Nat} {t : TypeId} {v0 v1 v2 : Value} (_ : Blk w g t v0 v1 v2) {w0 : World} {B : Nat} (hb : Below B w0 w) (hB : B ≤ g) (u0 u1 u2 : Value) : Below B w0 (((w.setCell ⟨g, 0, none⟩ u0).setCell ⟨g, 1, none⟩ u1).setCell ⟨g, 2, none⟩ u2) :=
  ((hb.setCell (p := ⟨g, 0, none⟩) hB u0).setCell (p := ⟨g, 1, none⟩) hB u1).setCell (p := ⟨g, 2, none⟩) hB u2
theorem FnQuarMissing_no (A : Option Addr) (c : Nat) (bs : List Int) (w : World) (h : Code_ w A c bs) (hl : ¬ bs.length ≤ 1048576) :
    Calls Try.prog 9 #[.slice A bs.length c] w (Ret (.bool true) w) := by
  have hc := h.2.1
  have hm := h.2.2.1
  unfold maxLen at hm
  go_enter Try.func9, Try.ntmps9
  go_wp2
  go_ret
  exact .mk_ (Below.refl _ _)
set_option linter.unusedSimpArgs false in
set_option maxRecDepth 100000 in
set_option maxHeartbeats 16000000 in
theorem FnQuarMissing_yes (A : Option Addr) (c : Nat) (bs : List Int) (w : World) (h : Code_ w A c bs) (hl : bs.length ≤ 1048576) :
    Calls Try.prog 9 #[.slice A bs.length c] w (Ret (.bool true) w) := by
  go_enter Try.func9, Try.ntmps9
  go_wp2_with fail
  refine (DrawQuarantineMissing_any A c bs _ h).mono ?_
  rintro e w1 ⟨v1, q, t, A5, c5, fr, rfl, q1, f1, r1, hl1, bw⟩
  obtain ⟨A3, c3, A4, c4, rfl, -, -, -, -⟩ := id q1
  unfold qv at *
  have hfl : fr.length ≤ 1048576 := by omega
  obtain ⟨g1, hg⟩ : ∃ g, (w1).heap.size = g := ⟨_, rfl⟩
  have al := (Below.refl (w1).heap.size w1).alloc (Nat.le_refl _) (.cells #[.slice A3 q.m.length c3, .slice A4 q.rs.length c4] 26)
  have xn := BlkQ.new_ w1 26 (.slice A3 q.m.length c3) (.slice A4 q.rs.length c4)
  obtain ⟨w1', hw'⟩ : ∃ x, (w1).alloc (.cells #[.slice A3 q.m.length c3, .slice A4 q.rs.length c4] 26) = x := ⟨_, rfl⟩
  rw [hw'] at al xn
  rw [hg] at xn
  have x1 := xn
  clear xn
  replace r1 := rowq_on r1 al
  have zz := (al).size
  try (replace ob := objs_on ob al)
  replace q1 := q1.on al zz
  replace bw := bw.trans ((al).mono bw.size)
  clear zz
  clear al
  obtain ⟨y10, y11, -⟩ := id x1.reads
  go_wp2_with fail
  refine (implQuarantineMissing_is _ q t A5 c5 fr _ q1 f1 r1 hfl).mono ?_
  rintro e w3 ⟨M, hM, v2, rfl, o2, d⟩
  obtain ⟨A6, c6, rfl, rm⟩ := o2.form
  have HM := hid hM
  have hMl := hM.few
  clear y10 y11 hM o2
  replace x1 := x1.later d
  replace r1 := rowq_on r1 d
  have zz := (d).size
  try (replace ob := objs_on ob d)
  replace q1 := q1.on d zz
  replace bw := bw.trans ((d).mono bw.size)
  clear zz
  clear d
  obtain ⟨y10, y11, -⟩ := id x1.reads
  go_wp2_with fail
  refine (specQuarantineMissing_is _ q t A5 c5 fr _ q1 f1 r1 hfl).mono ?_
  rintro e w4 ⟨M', hM', v3, rfl, o3, d⟩
  obtain rfl := hM'.one HM.out
  obtain ⟨A7, c7, rfl, rn⟩ := o3.form
  clear y10 y11 hM' o3
  replace x1 := x1.later d
  replace r1 := rowq_on r1 d
  replace rm := rowq_on rm d
  have zz := (d).size
  try (replace ob := objs_on ob d)
  replace q1 := q1.on d zz
  replace bw := bw.trans ((d).mono bw.size)
  clear zz
  clear d
  obtain ⟨y10, y11, -⟩ := id x1.reads
  go_wp2_with fail
  refine (sameIntsQ_ret _ _ A6 A7 c6 c7 M' _ rm rn (by unfold maxLen; omega)).mono ?_
  rintro e w5 ⟨rfl, d⟩
  clear y10 y11
  replace x1 := x1.later d
  replace r1 := rowq_on r1 d
  replace rm := rowq_on rm d
  replace rn := rowq_on rn d
  have zz := (d).size
  try (replace ob := objs_on ob d)
  replace q1 := q1.on d zz
  replace bw := bw.trans ((d).mono bw.size)
  clear zz
  clear d
  obtain ⟨y10, y11, -⟩ := id x1.reads
  clear rn
  go_wp2_with fail
  go_loopw [8] (fun i wr => ∃ k : Nat, k ≤ M'.length ∧ i = .int .i64 k ∧ Below w5.heap.size w5 wr) (fun i _ => M'.length - (intOf i).toNat)
  case atStart => exact ⟨0, Nat.zero_le _, rfl, Below.refl _ _⟩
  case round =>
    obtain ⟨k, hk, rfl, hb⟩ := hrel
    clear y10 y11
    replace x1 := x1.later hb
    replace rm := rowq_on rm hb
    have zz := (hb).size
    try (replace ob := objs_on ob hb)
    replace q1 := q1.on hb zz
    replace bw := bw.trans ((hb).mono bw.size)
    clear zz
    obtain ⟨y10, y11, -⟩ := id x1.reads
    by_cases hlt : k < M'.length
    · have hne : M' ≠ [] := fun e => by rw [e] at hlt; simp at hlt
      obtain ⟨⟨hqv, htv, -⟩, hno⟩ := HM.out.ok hne
      obtain ⟨ad, rfl, hba, hc⟩ := rm.int_ hlt
      obtain ⟨x, hx⟩ : ∃ x, M'[k] = x := ⟨_, rfl⟩
      rw [hx] at hc
      have hxi := hno x (by rw [← hx]; exact List.getElem_mem hlt)
      have k0 : 0 ≤ (k : Int) := by omega
      have k1 : (k : Int) < (M'.length : Int) := by omega
      have HIN := hid hxi.1
      have HFQ := hid f1.2.2.1
      have HIA := hid hxi.2
      have HSm : Hid (storeB q.m = true) := hqv.1
      have HSa : Hid (storeB (arOf q.rs t) = true) := arOf_store hqv.2.1 t
      have HFm := hid (store_fit hqv.1)
      have HFa := hid (store_fit (arOf_store hqv.2.1 t))
      have hml : q.m.length ≤ maxLen := by have := (storeB_parts hqv.1).2; unfold maxLen; omega
      have hal : (arOf q.rs t).length ≤ maxLen := by have := (storeB_parts (arOf_store hqv.2.1 t)).2; unfold maxLen; omega
      have HOM : Hid (∀ y, Below wr.heap.size wr y → Objs y y.heap.size A3 q.m) := fun y hy => objs_on q1.main2 hy
      have HQQ : Hid (∀ y, Below wr.heap.size wr y → Quar y y.heap.size (.agg #[.slice A3 q.m.length c3, .slice A4 q.rs.length c4]) q) := fun y hy => q1.on hy hy.size
      have HK : Hid (∀ y, Below wr.heap.size wr y → y.cell? ⟨g1, 0, none⟩ = some (.slice A3 q.m.length c3) ∧ y.cell? ⟨g1, 1, none⟩ = some (.slice A4 q.rs.length c4) ∧ y.cell? (ad.add k) = some (.int .i64 x)) := fun y hy => ⟨(x1.later hy).reads.1, (x1.later hy).reads.2.1, (hy.cell (by rw [add_block]; exact hba)).trans hc⟩
      clear hx hxi hno hqv htv hne hc
      go_wp2_with fail
      have b0 := (Below.refl wr.heap.size wr).drew
      clear y10 y11
      refine wp_region_held_drew (S := fun y => y.cell? ⟨g1, 0, none⟩ = some (.slice A3 q.m.length c3) ∧ y.cell? ⟨g1, 1, none⟩ = some (.slice A4 q.rs.length c4) ∧ y.cell? (ad.add k) = some (.int .i64 x)) (by kernel_rfl) (HK.out _ b0) (fun hHeld => ?_)
      refine wpAnyH_take (i := 0) (oi := _) (v := ?_) rfl (by kernel_rfl) (by kernel_rfl) (by kernel_rfl) (fun _ _ _ h => h) (Or.inl ⟨by rfl, ?_⟩) hHeld ?_
      rotate_left
      · (intro w' hSw; (try dsimp only at hSw); go_simp <;> with_reducible rfl)
      try simp only [Act.put, List.getElem_toArray, List.getElem_cons_succ, List.getElem_cons_zero, List.setIfInBounds_toArray, List.set_cons_zero, List.set_cons_succ]
      refine wpAnyH_take (i := 1) (oi := _) (v := ?_) rfl (by kernel_rfl) (by kernel_rfl) (by kernel_rfl) (fun _ _ _ h => h) (Or.inl ⟨by rfl, ?_⟩) hHeld ?_
      rotate_left
      · (intro w' hSw; (try dsimp only at hSw); go_simp <;> with_reducible rfl)
      try simp only [Act.put, List.getElem_toArray, List.getElem_cons_succ, List.getElem_cons_zero, List.setIfInBounds_toArray, List.set_cons_zero, List.set_cons_succ]
      refine wpAnyH_take (i := 2) (oi := _) (v := ?_) rfl (by kernel_rfl) (by kernel_rfl) (by kernel_rfl) (fun _ _ _ h => h) (Or.inl ⟨by rfl, ?_⟩) hHeld ?_
      rotate_left
      · (intro w' hSw; (try dsimp only at hSw); go_simp <;> with_reducible rfl)
      try simp only [Act.put, List.getElem_toArray, List.getElem_cons_succ, List.getElem_cons_zero, List.setIfInBounds_toArray, List.set_cons_zero, List.set_cons_succ]
      refine wpAnyH_take (i := 3) (oi := _) (v := ?_) rfl (by kernel_rfl) (by kernel_rfl) (by kernel_rfl) (fun _ _ _ h => h) (Or.inl ⟨by rfl, ?_⟩) hHeld ?_
      rotate_left
      · (intro w' hSw; (try dsimp only at hSw); go_simp <;> with_reducible rfl)
      try simp only [Act.put, List.getElem_toArray, List.getElem_cons_succ, List.getElem_cons_zero, List.setIfInBounds_toArray, List.set_cons_zero, List.set_cons_succ]
      refine wpAnyH_take (i := 4) (oi := _) (v := ?_) rfl (by kernel_rfl) (by kernel_rfl) (by kernel_rfl) (fun _ _ _ h => h) (Or.inl ⟨by rfl, ?_⟩) hHeld ?_
      rotate_left
      · (intro w' hSw; (try dsimp only at hSw); go_simp <;> with_reducible rfl)
      try simp only [Act.put, List.getElem_toArray, List.getElem_cons_succ, List.getElem_cons_zero, List.setIfInBounds_toArray, List.set_cons_zero, List.set_cons_succ]
      refine wpAnyH_take (i := 5) (oi := _) (v := ?_) rfl (by kernel_rfl) (by kernel_rfl) (by kernel_rfl) (fun _ _ _ h => h) (Or.inl ⟨by rfl, ?_⟩) hHeld ?_
      rotate_left
      · (intro w' hSw; (try dsimp only at hSw); go_simp <;> with_reducible rfl)
      try simp only [Act.put, List.getElem_toArray, List.getElem_cons_succ, List.getElem_cons_zero, List.setIfInBounds_toArray, List.set_cons_zero, List.set_cons_succ]
      refine wpAnyH_ready (rs := [6, 10]) (by kernel_rfl) (by simp) (AllReadyH.cons (o := _) rfl (fun K hK => ?_) (AllReadyH.cons (o := _) rfl (fun K hK => ?_) AllReadyH.nil))
      · skip
        try simp only [Act.put, List.getElem_toArray, List.getElem_cons_succ, List.getElem_cons_zero, List.setIfInBounds_toArray, List.set_cons_zero, List.set_cons_succ]
        go_simp
        go_at_call 26
        refine (get_any A3 c3 q.m x _ (HOM.out _ b0) HFm.out hml HSm).mono ?_
        rintro e w8 ⟨A8, c8, o8, rfl, -, d8, -⟩
        rw [HIN.out]
        unfold ob
        have b8 := (b0).trans (d8.mono (b0).size)
        refine hK.out _ _ (HK.out _ b8) (fun hHeld => ?_)
        clear hK K
        try simp only [Act.put, List.getElem_toArray, List.getElem_cons_succ, List.getElem_cons_zero, List.setIfInBounds_toArray, List.set_cons_zero, List.set_cons_succ]
        refine wpAnyH_take (i := 7) (oi := _) (v := ?_) rfl (by kernel_rfl) (by kernel_rfl) (by kernel_rfl) (fun _ _ _ h => h) (Or.inl ⟨by rfl, ?_⟩) hHeld ?_
        rotate_left
        · (intro w' hSw; (try dsimp only at hSw); go_simp <;> with_reducible rfl)
        try simp only [Act.put, List.getElem_toArray, List.getElem_cons_succ, List.getElem_cons_zero, List.setIfInBounds_toArray, List.set_cons_zero, List.set_cons_succ]
        refine wpAnyH_take (i := 8) (oi := _) (v := ?_) rfl (by kernel_rfl) (by kernel_rfl) (by kernel_rfl) (fun _ _ _ h => h) (Or.inl ⟨by rfl, ?_⟩) hHeld ?_
        rotate_left
        · (intro w' hSw; (try dsimp only at hSw); go_simp <;> with_reducible rfl)
        try simp only [Act.put, List.getElem_toArray, List.getElem_cons_succ, List.getElem_cons_zero, List.setIfInBounds_toArray, List.set_cons_zero, List.set_cons_succ]
        refine wpAnyH_take (i := 9) (oi := _) (v := ?_) rfl (by kernel_rfl) (by kernel_rfl) (by kernel_rfl) (fun _ _ _ h => h) (Or.inl ⟨by rfl, ?_⟩) hHeld ?_
        rotate_left
        · (intro w' hSw; (try dsimp only at hSw); go_simp <;> with_reducible rfl)
        try simp only [Act.put, List.getElem_toArray, List.getElem_cons_succ, List.getElem_cons_zero, List.setIfInBounds_toArray, List.set_cons_zero, List.set_cons_succ]
        refine wpAnyH_ready (rs := [10]) (by kernel_rfl) (by simp) (AllReadyH.cons (o := _) rfl (fun K hK => ?_) AllReadyH.nil)
        try simp only [Act.put, List.getElem_toArray, List.getElem_cons_succ, List.getElem_cons_zero, List.setIfInBounds_toArray, List.set_cons_zero, List.set_cons_succ]
        try simp only [Act.put, List.getElem_toArray, List.getElem_cons_succ, List.getElem_cons_zero, List.setIfInBounds_toArray, List.set_cons_zero, List.set_cons_succ]
        go_simp
        have b9 := (b8).alloc (b8).size (.cells #[.int .i64 0, .slice none 0 0, .string ⟨#[]⟩] 38)
        have u9 := Blk.new_ w8 38 (.int .i64 0) (.slice none 0 0) (.string ⟨#[]⟩)
        have su9 : wr.heap.size ≤ (w8).heap.size := (b8).size
        have au9 := (Below.refl (w8).heap.size w8).alloc (Nat.le_refl _) (.cells #[.int .i64 0, .slice none 0 0, .string ⟨#[]⟩] 38)
        obtain ⟨W9, hWN⟩ : ∃ x, (w8).alloc (.cells #[.int .i64 0, .slice none 0 0, .string ⟨#[]⟩] 38) = x := ⟨_, rfl⟩
        rw [hWN] at b9 u9 au9 ⊢
        clear hWN
        refine hK.out _ _ (HK.out _ b9) (fun hHeld => ?_)
        clear hK K
        try simp only [Act.put, List.getElem_toArray, List.getElem_cons_succ, List.getElem_cons_zero, List.setIfInBounds_toArray, List.set_cons_zero, List.set_cons_succ]
        obtain ⟨z0, z1, z2, zf⟩ := id (u9).reads
        have f0 := zf 0
        have f1' := zf 1
        have f2 := zf 2
        clear zf
        refine wpAnyH_ready (rs := [11]) (by kernel_rfl) (by simp) (AllReadyH.cons (o := _) rfl (fun K hK => ?_) AllReadyH.nil)
        try simp only [Act.put, List.getElem_toArray, List.getElem_cons_succ, List.getElem_cons_zero, List.setIfInBounds_toArray, List.set_cons_zero, List.set_cons_succ]
        go_simp
        have b9' := blk_store u9 b9 su9 (.int .i64 o8.kd) (.slice A8 o8.zs.length c8) (.string o8.s)
        refine hK.out _ _ (HK.out _ b9') (fun hHeld => ?_)
        clear hK K
        try simp only [Act.put, List.getElem_toArray, List.getElem_cons_succ, List.getElem_cons_zero, List.setIfInBounds_toArray, List.set_cons_zero, List.set_cons_succ]
        clear z0 z1 z2 f0 f1' f2
        refine wpAnyH_take (i := 12) (oi := _) (v := ?_) rfl (by kernel_rfl) (by kernel_rfl) (by kernel_rfl) (fun _ _ _ h => h) (Or.inl ⟨by rfl, ?_⟩) hHeld ?_
        rotate_left
        · (intro w' hSw; (try dsimp only at hSw); go_simp <;> with_reducible rfl)
        try simp only [Act.put, List.getElem_toArray, List.getElem_cons_succ, List.getElem_cons_zero, List.setIfInBounds_toArray, List.set_cons_zero, List.set_cons_succ]
        refine wpAnyH_done (by kernel_rfl) ?_ _
        clear hHeld
        obtain ⟨V0, hV0⟩ : ∃ V0, ((W9.setCell ⟨w8.heap.size, 0, none⟩ (.int .i64 o8.kd)).setCell ⟨w8.heap.size, 1, none⟩ (.slice A8 o8.zs.length c8)).setCell ⟨w8.heap.size, 2, none⟩ (.string o8.s) = V0 := ⟨_, rfl⟩
        rw [hV0] at b9' ⊢
        clear u9 b9 d8 b8 su9 au9 hV0
        go_wp2_with fail
        have bd := (b9').drew
        refine wp_region_held_drew (S := fun y => y.cell? ⟨g1, 0, none⟩ = some (.slice A3 q.m.length c3) ∧ y.cell? ⟨g1, 1, none⟩ = some (.slice A4 q.rs.length c4) ∧ y.cell? (ad.add k) = some (.int .i64 x)) (by kernel_rfl) (HK.out _ bd) (fun hHeld => ?_)
        refine wpAnyH_take (i := 0) (oi := _) (v := ?_) rfl (by kernel_rfl) (by kernel_rfl) (by kernel_rfl) (fun _ _ _ h => h) (Or.inl ⟨by rfl, ?_⟩) hHeld ?_
        rotate_left
        · (intro w' hSw; (try dsimp only at hSw); go_simp <;> with_reducible rfl)
        try simp only [Act.put, List.getElem_toArray, List.getElem_cons_succ, List.getElem_cons_zero, List.setIfInBounds_toArray, List.set_cons_zero, List.set_cons_succ]
        refine wpAnyH_take (i := 1) (oi := _) (v := ?_) rfl (by kernel_rfl) (by kernel_rfl) (by kernel_rfl) (fun _ _ _ h => h) (Or.inl ⟨by rfl, ?_⟩) hHeld ?_
        rotate_left
        · (intro w' hSw; (try dsimp only at hSw); go_simp <;> with_reducible rfl)
        try simp only [Act.put, List.getElem_toArray, List.getElem_cons_succ, List.getElem_cons_zero, List.setIfInBounds_toArray, List.set_cons_zero, List.set_cons_succ]
        refine wpAnyH_take (i := 3) (oi := _) (v := ?_) rfl (by kernel_rfl) (by kernel_rfl) (by kernel_rfl) (fun _ _ _ h => h) (Or.inl ⟨by rfl, ?_⟩) hHeld ?_
        rotate_left
        · (intro w' hSw; (try dsimp only at hSw); go_simp <;> with_reducible rfl)
        try simp only [Act.put, List.getElem_toArray, List.getElem_cons_succ, List.getElem_cons_zero, List.setIfInBounds_toArray, List.set_cons_zero, List.set_cons_succ]
        refine wpAnyH_take (i := 4) (oi := _) (v := ?_) rfl (by kernel_rfl) (by kernel_rfl) (by kernel_rfl) (fun _ _ _ h => h) (Or.inl ⟨by rfl, ?_⟩) hHeld ?_
        rotate_left
        · (intro w' hSw; (try dsimp only at hSw); go_simp <;> with_reducible rfl)
        try simp only [Act.put, List.getElem_toArray, List.getElem_cons_succ, List.getElem_cons_zero, List.setIfInBounds_toArray, List.set_cons_zero, List.set_cons_succ]
        refine wpAnyH_take (i := 5) (oi := _) (v := ?_) rfl (by kernel_rfl) (by kernel_rfl) (by kernel_rfl) (fun _ _ _ h => h) (Or.inl ⟨by rfl, ?_⟩) hHeld ?_
        rotate_left
        · (intro w' hSw; (try dsimp only at hSw); go_simp <;> with_reducible rfl)
        try simp only [Act.put, List.getElem_toArray, List.getElem_cons_succ, List.getElem_cons_zero, List.setIfInBounds_toArray, List.set_cons_zero, List.set_cons_succ]
        refine wpAnyH_take (i := 6) (oi := _) (v := ?_) rfl (by kernel_rfl) (by kernel_rfl) (by kernel_rfl) (fun _ _ _ h => h) (Or.inl ⟨by rfl, ?_⟩) hHeld ?_
        rotate_left
        · (intro w' hSw; (try dsimp only at hSw); go_simp <;> with_reducible rfl)
        try simp only [Act.put, List.getElem_toArray, List.getElem_cons_succ, List.getElem_cons_zero, List.setIfInBounds_toArray, List.set_cons_zero, List.set_cons_succ]
        refine wpAnyH_ready (rs := [2, 11]) (by kernel_rfl) (by simp) (AllReadyH.cons (o := _) rfl (fun K hK => ?_) (AllReadyH.cons (o := _) rfl (fun K hK => ?_) AllReadyH.nil))
        · skip
          try simp only [Act.put, List.getElem_toArray, List.getElem_cons_succ, List.getElem_cons_zero, List.setIfInBounds_toArray, List.set_cons_zero, List.set_cons_succ]
          go_simp
          go_at_call 25
          refine (areaOf_any _ q t _ (HQQ.out _ bd) HFQ.out).mono ?_
          rintro e w10 ⟨A11, c11, rfl, -, ob11, d11⟩
          have b10 := (bd).trans (d11.mono (bd).size)
          refine hK.out _ _ (HK.out _ b10) (fun hHeld => ?_)
          clear hK K
          try simp only [Act.put, List.getElem_toArray, List.getElem_cons_succ, List.getElem_cons_zero, List.setIfInBounds_toArray, List.set_cons_zero, List.set_cons_succ]
          refine wpAnyH_ready (rs := [7, 11]) (by kernel_rfl) (by simp) (AllReadyH.cons (o := _) rfl (fun K hK => ?_) (AllReadyH.cons (o := _) rfl (fun K hK => ?_) AllReadyH.nil))
          · skip
            try simp only [Act.put, List.getElem_toArray, List.getElem_cons_succ, List.getElem_cons_zero, List.setIfInBounds_toArray, List.set_cons_zero, List.set_cons_succ]
            go_simp
            go_at_call 26
            refine (get_any A11 c11 (arOf q.rs t) x _ ob11 HFa.out hal HSa).mono ?_
            rintro e w11 ⟨A8, c8, o8, rfl, -, d12, -⟩
            rw [HIA.out]
            unfold ob
            have b11 := (b10).trans (d12.mono (b10).size)
            refine hK.out _ _ (HK.out _ b11) (fun hHeld => ?_)
            clear hK K
            try simp only [Act.put, List.getElem_toArray, List.getElem_cons_succ, List.getElem_cons_zero, List.setIfInBounds_toArray, List.set_cons_zero, List.set_cons_succ]
            refine wpAnyH_take (i := 8) (oi := _) (v := ?_) rfl (by kernel_rfl) (by kernel_rfl) (by kernel_rfl) (fun _ _ _ h => h) (Or.inl ⟨by rfl, ?_⟩) hHeld ?_
            rotate_left
            · (intro w' hSw; (try dsimp only at hSw); go_simp <;> with_reducible rfl)
            try simp only [Act.put, List.getElem_toArray, List.getElem_cons_succ, List.getElem_cons_zero, List.setIfInBounds_toArray, List.set_cons_zero, List.set_cons_succ]
            refine wpAnyH_take (i := 9) (oi := _) (v := ?_) rfl (by kernel_rfl) (by kernel_rfl) (by kernel_rfl) (fun _ _ _ h => h) (Or.inl ⟨by rfl, ?_⟩) hHeld ?_
            rotate_left
            · (intro w' hSw; (try dsimp only at hSw); go_simp <;> with_reducible rfl)
            try simp only [Act.put, List.getElem_toArray, List.getElem_cons_succ, List.getElem_cons_zero, List.setIfInBounds_toArray, List.set_cons_zero, List.set_cons_succ]
            refine wpAnyH_take (i := 10) (oi := _) (v := ?_) rfl (by kernel_rfl) (by kernel_rfl) (by kernel_rfl) (fun _ _ _ h => h) (Or.inl ⟨by rfl, ?_⟩) hHeld ?_
            rotate_left
            · (intro w' hSw; (try dsimp only at hSw); go_simp <;> with_reducible rfl)
            try simp only [Act.put, List.getElem_toArray, List.getElem_cons_succ, List.getElem_cons_zero, List.setIfInBounds_toArray, List.set_cons_zero, List.set_cons_succ]
            refine wpAnyH_ready (rs := [11]) (by kernel_rfl) (by simp) (AllReadyH.cons (o := _) rfl (fun K hK => ?_) AllReadyH.nil)
            try simp only [Act.put, List.getElem_toArray, List.getElem_cons_succ, List.getElem_cons_zero, List.setIfInBounds_toArray, List.set_cons_zero, List.set_cons_succ]
            try simp only [Act.put, List.getElem_toArray, List.getElem_cons_succ, List.getElem_cons_zero, List.setIfInBounds_toArray, List.set_cons_zero, List.set_cons_succ]
            go_simp
            have b12 := (b11).alloc (b11).size (.cells #[.int .i64 0, .slice none 0 0, .string ⟨#[]⟩] 38)
            have u12 := Blk.new_ w11 38 (.int .i64 0) (.slice none 0 0) (.string ⟨#[]⟩)
            have su12 : wr.heap.size ≤ (w11).heap.size := (b11).size
            have au12 := (Below.refl (w11).heap.size w11).alloc (Nat.le_refl _) (.cells #[.int .i64 0, .slice none 0 0, .string ⟨#[]⟩] 38)
            obtain ⟨W12, hWN⟩ : ∃ x, (w11).alloc (.cells #[.int .i64 0, .slice none 0 0, .string ⟨#[]⟩] 38) = x := ⟨_, rfl⟩
            rw [hWN] at b12 u12 au12 ⊢
            clear hWN
            refine hK.out _ _ (HK.out _ b12) (fun hHeld => ?_)
            clear hK K
            try simp only [Act.put, List.getElem_toArray, List.getElem_cons_succ, List.getElem_cons_zero, List.setIfInBounds_toArray, List.set_cons_zero, List.set_cons_succ]
            obtain ⟨z0, z1, z2, zf⟩ := id (u12).reads
            have f0 := zf 0
            have f1' := zf 1
            have f2 := zf 2
            clear zf
            refine wpAnyH_ready (rs := [12]) (by kernel_rfl) (by simp) (AllReadyH.cons (o := _) rfl (fun K hK => ?_) AllReadyH.nil)
            try simp only [Act.put, List.getElem_toArray, List.getElem_cons_succ, List.getElem_cons_zero, List.setIfInBounds_toArray, List.set_cons_zero, List.set_cons_succ]
            go_simp
            have b13 := blk_store u12 b12 su12 (.int .i64 o8.kd) (.slice A8 o8.zs.length c8) (.string o8.s)
            refine hK.out _ _ (HK.out _ b13) (fun hHeld => ?_)
            clear hK K
            try simp only [Act.put, List.getElem_toArray, List.getElem_cons_succ, List.getElem_cons_zero, List.setIfInBounds_toArray, List.set_cons_zero, List.set_cons_succ]
            clear z0 z1 z2 f0 f1' f2
            refine wpAnyH_take (i := 13) (oi := _) (v := ?_) rfl (by kernel_rfl) (by kernel_rfl) (by kernel_rfl) (fun _ _ _ h => h) (Or.inl ⟨by rfl, ?_⟩) hHeld ?_
            rotate_left
            · (intro w' hSw; (try dsimp only at hSw); go_simp <;> with_reducible rfl)
            try simp only [Act.put, List.getElem_toArray, List.getElem_cons_succ, List.getElem_cons_zero, List.setIfInBounds_toArray, List.set_cons_zero, List.set_cons_succ]
            refine wpAnyH_done (by kernel_rfl) ?_ _
            clear hHeld
            go_wp2
            go_roundw
            case rel => exact ⟨k + 1, by omega, by go_num, hb.trans ((b13).mono hb.size)⟩
            case measure => simp [intOf]; omega
          · skip
            try simp only [Act.put, List.getElem_toArray, List.getElem_cons_succ, List.getElem_cons_zero, List.setIfInBounds_toArray, List.set_cons_zero, List.set_cons_succ]
            go_simp
            have b12 := (b10).alloc (b10).size (.cells #[.int .i64 0, .slice none 0 0, .string ⟨#[]⟩] 38)
            have u12 := Blk.new_ w10 38 (.int .i64 0) (.slice none 0 0) (.string ⟨#[]⟩)
            have su12 : wr.heap.size ≤ (w10).heap.size := (b10).size
            have au12 := (Below.refl (w10).heap.size w10).alloc (Nat.le_refl _) (.cells #[.int .i64 0, .slice none 0 0, .string ⟨#[]⟩] 38)
            obtain ⟨W12, hWN⟩ : ∃ x, (w10).alloc (.cells #[.int .i64 0, .slice none 0 0, .string ⟨#[]⟩] 38) = x := ⟨_, rfl⟩
            rw [hWN] at b12 u12 au12 ⊢
            clear hWN
            refine hK.out _ _ (HK.out _ b12) (fun hHeld => ?_)
            clear hK K
            try simp only [Act.put, List.getElem_toArray, List.getElem_cons_succ, List.getElem_cons_zero, List.setIfInBounds_toArray, List.set_cons_zero, List.set_cons_succ]
            refine wpAnyH_ready (rs := [7]) (by kernel_rfl) (by simp) (AllReadyH.cons (o := _) rfl (fun K hK => ?_) AllReadyH.nil)
            try simp only [Act.put, List.getElem_toArray, List.getElem_cons_succ, List.getElem_cons_zero, List.setIfInBounds_toArray, List.set_cons_zero, List.set_cons_succ]
            try simp only [Act.put, List.getElem_toArray, List.getElem_cons_succ, List.getElem_cons_zero, List.setIfInBounds_toArray, List.set_cons_zero, List.set_cons_succ]
            go_simp
            go_at_call 26
            refine (get_any A11 c11 (arOf q.rs t) x _ (objs_on ob11 au12) HFa.out hal HSa).mono ?_
            rintro e w11 ⟨A8, c8, o8, rfl, -, d12, -⟩
            rw [HIA.out]
            unfold ob
            have b11 := (b12).trans (d12.mono (b12).size)
            refine hK.out _ _ (HK.out _ b11) (fun hHeld => ?_)
            clear hK K
            try simp only [Act.put, List.getElem_toArray, List.getElem_cons_succ, List.getElem_cons_zero, List.setIfInBounds_toArray, List.set_cons_zero, List.set_cons_succ]
            have u13 := u12.below d12 u12.lt
            have su13 := su12
            refine wpAnyH_take (i := 8) (oi := _) (v := ?_) rfl (by kernel_rfl) (by kernel_rfl) (by kernel_rfl) (fun _ _ _ h => h) (Or.inl ⟨by rfl, ?_⟩) hHeld ?_
            rotate_left
            · (intro w' hSw; (try dsimp only at hSw); go_simp <;> with_reducible rfl)
            try simp only [Act.put, List.getElem_toArray, List.getElem_cons_succ, List.getElem_cons_zero, List.setIfInBounds_toArray, List.set_cons_zero, List.set_cons_succ]
            refine wpAnyH_take (i := 9) (oi := _) (v := ?_) rfl (by kernel_rfl) (by kernel_rfl) (by kernel_rfl) (fun _ _ _ h => h) (Or.inl ⟨by rfl, ?_⟩) hHeld ?_
            rotate_left
            · (intro w' hSw; (try dsimp only at hSw); go_simp <;> with_reducible rfl)
            try simp only [Act.put, List.getElem_toArray, List.getElem_cons_succ, List.getElem_cons_zero, List.setIfInBounds_toArray, List.set_cons_zero, List.set_cons_succ]
            refine wpAnyH_take (i := 10) (oi := _) (v := ?_) rfl (by kernel_rfl) (by kernel_rfl) (by kernel_rfl) (fun _ _ _ h => h) (Or.inl ⟨by rfl, ?_⟩) hHeld ?_
            rotate_left
            · (intro w' hSw; (try dsimp only at hSw); go_simp <;> with_reducible rfl)
            try simp only [Act.put, List.getElem_toArray, List.getElem_cons_succ, List.getElem_cons_zero, List.setIfInBounds_toArray, List.set_cons_zero, List.set_cons_succ]
            obtain ⟨z0, z1, z2, zf⟩ := id (u13).reads
            have f0 := zf 0
            have f1' := zf 1
            have f2 := zf 2
            clear zf
            refine wpAnyH_ready (rs := [12]) (by kernel_rfl) (by simp) (AllReadyH.cons (o := _) rfl (fun K hK => ?_) AllReadyH.nil)
            try simp only [Act.put, List.getElem_toArray, List.getElem_cons_succ, List.getElem_cons_zero, List.setIfInBounds_toArray, List.set_cons_zero, List.set_cons_succ]
            go_simp
            have b13 := blk_store u13 b11 su13 (.int .i64 o8.kd) (.slice A8 o8.zs.length c8) (.string o8.s)
            refine hK.out _ _ (HK.out _ b13) (fun hHeld => ?_)
            clear hK K
            try simp only [Act.put, List.getElem_toArray, List.getElem_cons_succ, List.getElem_cons_zero, List.setIfInBounds_toArray, List.set_cons_zero, List.set_cons_succ]
            clear z0 z1 z2 f0 f1' f2
            refine wpAnyH_take (i := 13) (oi := _) (v := ?_) rfl (by kernel_rfl) (by kernel_rfl) (by kernel_rfl) (fun _ _ _ h => h) (Or.inl ⟨by rfl, ?_⟩) hHeld ?_
            rotate_left
            · (intro w' hSw; (try dsimp only at hSw); go_simp <;> with_reducible rfl)
            try simp only [Act.put, List.getElem_toArray, List.getElem_cons_succ, List.getElem_cons_zero, List.setIfInBounds_toArray, List.set_cons_zero, List.set_cons_succ]
            refine wpAnyH_done (by kernel_rfl) ?_ _
            clear hHeld
            go_wp2
            go_roundw
            case rel => exact ⟨k + 1, by omega, by go_num, hb.trans ((b13).mono hb.size)⟩
            case measure => simp [intOf]; omega
        · skip
          try simp only [Act.put, List.getElem_toArray, List.getElem_cons_succ, List.getElem_cons_zero, List.setIfInBounds_toArray, List.set_cons_zero, List.set_cons_succ]
          go_simp
          have b12 := ((b9').alloc (b9').size (.cells #[.int .i64 0, .slice none 0 0, .string ⟨#[]⟩] 38)).drew
          have u12 : Blk ((V0).alloc (.cells #[.int .i64 0, .slice none 0 0, .string ⟨#[]⟩] 38)).drew (V0).heap.size 38 (.int .i64 0) (.slice none 0 0) (.string ⟨#[]⟩) := Blk.new_ V0 38 (.int .i64 0) (.slice none 0 0) (.string ⟨#[]⟩)
          have su12 : wr.heap.size ≤ (V0).heap.size := (b9').size
          obtain ⟨W12, hWN⟩ : ∃ x, ((V0).alloc (.cells #[.int .i64 0, .slice none 0 0, .string ⟨#[]⟩] 38)).drew = x := ⟨_, rfl⟩
          rw [hWN] at b12 u12 ⊢
          clear hWN
          refine hK.out _ _ (HK.out _ b12) (fun hHeld => ?_)
          clear hK K
          try simp only [Act.put, List.getElem_toArray, List.getElem_cons_succ, List.getElem_cons_zero, List.setIfInBounds_toArray, List.set_cons_zero, List.set_cons_succ]
          refine wpAnyH_ready (rs := [2]) (by kernel_rfl) (by simp) (AllReadyH.cons (o := _) rfl (fun K hK => ?_) AllReadyH.nil)
          try simp only [Act.put, List.getElem_toArray, List.getElem_cons_succ, List.getElem_cons_zero, List.setIfInBounds_toArray, List.set_cons_zero, List.set_cons_succ]
          try simp only [Act.put, List.getElem_toArray, List.getElem_cons_succ, List.getElem_cons_zero, List.setIfInBounds_toArray, List.set_cons_zero, List.set_cons_succ]
          go_simp
          go_at_call 25
          refine (areaOf_any _ q t _ (HQQ.out _ b12) HFQ.out).mono ?_
          rintro e w10 ⟨A11, c11, rfl, -, ob11, d11⟩
          have b10 := (b12).trans (d11.mono (b12).size)
          refine hK.out _ _ (HK.out _ b10) (fun hHeld => ?_)
          clear hK K
          try simp only [Act.put, List.getElem_toArray, List.getElem_cons_succ, List.getElem_cons_zero, List.setIfInBounds_toArray, List.set_cons_zero, List.set_cons_succ]
          have u13 := u12.below d11 u12.lt
          have su13 := su12
          refine wpAnyH_ready (rs := [7]) (by kernel_rfl) (by simp) (AllReadyH.cons (o := _) rfl (fun K hK => ?_) AllReadyH.nil)
          try simp only [Act.put, List.getElem_toArray, List.getElem_cons_succ, List.getElem_cons_zero, List.setIfInBounds_toArray, List.set_cons_zero, List.set_cons_succ]
          try simp only [Act.put, List.getElem_toArray, List.getElem_cons_succ, List.getElem_cons_zero, List.setIfInBounds_toArray, List.set_cons_zero, List.set_cons_succ]
          go_simp
          go_at_call 26
          refine (get_any A11 c11 (arOf q.rs t) x _ ob11 HFa.out hal HSa).mono ?_
          rintro e w11 ⟨A8, c8, o8, rfl, -, d12, -⟩
          rw [HIA.out]
          unfold ob
          have b11 := (b10).trans (d12.mono (b10).size)
          refine hK.out _ _ (HK.out _ b11) (fun hHeld => ?_)
          clear hK K
          try simp only [Act.put, List.getElem_toArray, List.getElem_cons_succ, List.getElem_cons_zero, List.setIfInBounds_toArray, List.set_cons_zero, List.set_cons_succ]
          have u14 := u13.below d12 u13.lt
          have su14 := su12
          refine wpAnyH_take (i := 8) (oi := _) (v := ?_) rfl (by kernel_rfl) (by kernel_rfl) (by kernel_rfl) (fun _ _ _ h => h) (Or.inl ⟨by rfl, ?_⟩) hHeld ?_
          rotate_left
          · (intro w' hSw; (try dsimp only at hSw); go_simp <;> with_reducible rfl)
          try simp only [Act.put, List.getElem_toArray, List.getElem_cons_succ, List.getElem_cons_zero, List.setIfInBounds_toArray, List.set_cons_zero, List.set_cons_succ]
          refine wpAnyH_take (i := 9) (oi := _) (v := ?_) rfl (by kernel_rfl) (by kernel_rfl) (by kernel_rfl) (fun _ _ _ h => h) (Or.inl ⟨by rfl, ?_⟩) hHeld ?_
          rotate_left
          · (intro w' hSw; (try dsimp only at hSw); go_simp <;> with_reducible rfl)
          try simp only [Act.put, List.getElem_toArray, List.getElem_cons_succ, List.getElem_cons_zero, List.setIfInBounds_toArray, List.set_cons_zero, List.set_cons_succ]
          refine wpAnyH_take (i := 10) (oi := _) (v := ?_) rfl (by kernel_rfl) (by kernel_rfl) (by kernel_rfl) (fun _ _ _ h => h) (Or.inl ⟨by rfl, ?_⟩) hHeld ?_
          rotate_left
          · (intro w' hSw; (try dsimp only at hSw); go_simp <;> with_reducible rfl)
          try simp only [Act.put, List.getElem_toArray, List.getElem_cons_succ, List.getElem_cons_zero, List.setIfInBounds_toArray, List.set_cons_zero, List.set_cons_succ]
          obtain ⟨z0, z1, z2, zf⟩ := id (u14).reads
          have f0 := zf 0
          have f1' := zf 1
          have f2 := zf 2
          clear zf
          refine wpAnyH_ready (rs := [12]) (by kernel_rfl) (by simp) (AllReadyH.cons (o := _) rfl (fun K hK => ?_) AllReadyH.nil)
          try simp only [Act.put, List.getElem_toArray, List.getElem_cons_succ, List.getElem_cons_zero, List.setIfInBounds_toArray, List.set_cons_zero, List.set_cons_succ]
          go_simp
          have b13 := blk_store u14 b11 su14 (.int .i64 o8.kd) (.slice A8 o8.zs.length c8) (.string o8.s)
          refine hK.out _ _ (HK.out _ b13) (fun hHeld => ?_)
          clear hK K
          try simp only [Act.put, List.getElem_toArray, List.getElem_cons_succ, List.getElem_cons_zero, List.setIfInBounds_toArray, List.set_cons_zero, List.set_cons_succ]
          clear z0 z1 z2 f0 f1' f2
          refine wpAnyH_take (i := 13) (oi := _) (v := ?_) rfl (by kernel_rfl) (by kernel_rfl) (by kernel_rfl) (fun _ _ _ h => h) (Or.inl ⟨by rfl, ?_⟩) hHeld ?_
          rotate_left
          · (intro w' hSw; (try dsimp only at hSw); go_simp <;> with_reducible rfl)
          try simp only [Act.put, List.getElem_toArray, List.getElem_cons_succ, List.getElem_cons_zero, List.setIfInBounds_toArray, List.set_cons_zero, List.set_cons_succ]
          refine wpAnyH_done (by kernel_rfl) ?_ _
          clear hHeld
          go_wp2
          go_roundw
          case rel => exact ⟨k + 1, by omega, by go_num, hb.trans ((b13).mono hb.size)⟩
          case measure => simp [intOf]; omega
      · skip
        try simp only [Act.put, List.getElem_toArray, List.getElem_cons_succ, List.getElem_cons_zero, List.setIfInBounds_toArray, List.set_cons_zero, List.set_cons_succ]
        go_simp
        have b9 := (((Below.refl wr.heap.size wr)).alloc ((Below.refl wr.heap.size wr)).size (.cells #[.int .i64 0, .slice none 0 0, .string ⟨#[]⟩] 38)).drew
        have u9 : Blk ((wr).alloc (.cells #[.int .i64 0, .slice none 0 0, .string ⟨#[]⟩] 38)).drew (wr).heap.size 38 (.int .i64 0) (.slice none 0 0) (.string ⟨#[]⟩) := Blk.new_ wr 38 (.int .i64 0) (.slice none 0 0) (.string ⟨#[]⟩)
        have su9 : wr.heap.size ≤ (wr).heap.size := ((Below.refl wr.heap.size wr)).size
        obtain ⟨W9, hWN⟩ : ∃ x, ((wr).alloc (.cells #[.int .i64 0, .slice none 0 0, .string ⟨#[]⟩] 38)).drew = x := ⟨_, rfl⟩
        rw [hWN] at b9 u9 ⊢
        clear hWN
        refine hK.out _ _ (HK.out _ b9) (fun hHeld => ?_)
        clear hK K
        try simp only [Act.put, List.getElem_toArray, List.getElem_cons_succ, List.getElem_cons_zero, List.setIfInBounds_toArray, List.set_cons_zero, List.set_cons_succ]
        refine wpAnyH_ready (rs := [6]) (by kernel_rfl) (by simp) (AllReadyH.cons (o := _) rfl (fun K hK => ?_) AllReadyH.nil)
        try simp only [Act.put, List.getElem_toArray, List.getElem_cons_succ, List.getElem_cons_zero, List.setIfInBounds_toArray, List.set_cons_zero, List.set_cons_succ]
        try simp only [Act.put, List.getElem_toArray, List.getElem_cons_succ, List.getElem_cons_zero, List.setIfInBounds_toArray, List.set_cons_zero, List.set_cons_succ]
        go_simp
        go_at_call 26
        refine (get_any A3 c3 q.m x _ (HOM.out _ b9) HFm.out hml HSm).mono ?_
        rintro e w8 ⟨A8, c8, o8, rfl, -, d8, -⟩
        rw [HIN.out]
        unfold ob
        have b8 := (b9).trans (d8.mono (b9).size)
        refine hK.out _ _ (HK.out _ b8) (fun hHeld => ?_)
        clear hK K
        try simp only [Act.put, List.getElem_toArray, List.getElem_cons_succ, List.getElem_cons_zero, List.setIfInBounds_toArray, List.set_cons_zero, List.set_cons_succ]
        have u8 := u9.below d8 u9.lt
        have su8 := su9
        refine wpAnyH_take (i := 7) (oi := _) (v := ?_) rfl (by kernel_rfl) (by kernel_rfl) (by kernel_rfl) (fun _ _ _ h => h) (Or.inl ⟨by rfl, ?_⟩) hHeld ?_
        rotate_left
        · (intro w' hSw; (try dsimp only at hSw); go_simp <;> with_reducible rfl)
        try simp only [Act.put, List.getElem_toArray, List.getElem_cons_succ, List.getElem_cons_zero, List.setIfInBounds_toArray, List.set_cons_zero, List.set_cons_succ]
        refine wpAnyH_take (i := 8) (oi := _) (v := ?_) rfl (by kernel_rfl) (by kernel_rfl) (by kernel_rfl) (fun _ _ _ h => h) (Or.inl ⟨by rfl, ?_⟩) hHeld ?_
        rotate_left
        · (intro w' hSw; (try dsimp only at hSw); go_simp <;> with_reducible rfl)
        try simp only [Act.put, List.getElem_toArray, List.getElem_cons_succ, List.getElem_cons_zero, List.setIfInBounds_toArray, List.set_cons_zero, List.set_cons_succ]
        refine wpAnyH_take (i := 9) (oi := _) (v := ?_) rfl (by kernel_rfl) (by kernel_rfl) (by kernel_rfl) (fun _ _ _ h => h) (Or.inl ⟨by rfl, ?_⟩) hHeld ?_
        rotate_left
        · (intro w' hSw; (try dsimp only at hSw); go_simp <;> with_reducible rfl)
        try simp only [Act.put, List.getElem_toArray, List.getElem_cons_succ, List.getElem_cons_zero, List.setIfInBounds_toArray, List.set_cons_zero, List.set_cons_succ]
        obtain ⟨z0, z1, z2, zf⟩ := id (u8).reads
        have f0 := zf 0
        have f1' := zf 1
        have f2 := zf 2
        clear zf
        refine wpAnyH_ready (rs := [11]) (by kernel_rfl) (by simp) (AllReadyH.cons (o := _) rfl (fun K hK => ?_) AllReadyH.nil)
        try simp only [Act.put, List.getElem_toArray, List.getElem_cons_succ, List.getElem_cons_zero, List.setIfInBounds_toArray, List.set_cons_zero, List.set_cons_succ]
        go_simp
        have b9' := blk_store u8 b8 su8 (.int .i64 o8.kd) (.slice A8 o8.zs.length c8) (.string o8.s)
        refine hK.out _ _ (HK.out _ b9') (fun hHeld => ?_)
        clear hK K
        try simp only [Act.put, List.getElem_toArray, List.getElem_cons_succ, List.getElem_cons_zero, List.setIfInBounds_toArray, List.set_cons_zero, List.set_cons_succ]
        clear z0 z1 z2 f0 f1' f2
        refine wpAnyH_take (i := 12) (oi := _) (v := ?_) rfl (by kernel_rfl) (by kernel_rfl) (by kernel_rfl) (fun _ _ _ h => h) (Or.inl ⟨by rfl, ?_⟩) hHeld ?_
        rotate_left
        · (intro w' hSw; (try dsimp only at hSw); go_simp <;> with_reducible rfl)
        try simp only [Act.put, List.getElem_toArray, List.getElem_cons_succ, List.getElem_cons_zero, List.setIfInBounds_toArray, List.set_cons_zero, List.set_cons_succ]
        refine wpAnyH_done (by kernel_rfl) ?_ _
        clear hHeld
        obtain ⟨V0, hV0⟩ : ∃ V0, ((w8.setCell ⟨wr.heap.size, 0, none⟩ (.int .i64 o8.kd)).setCell ⟨wr.heap.size, 1, none⟩ (.slice A8 o8.zs.length c8)).setCell ⟨wr.heap.size, 2, none⟩ (.string o8.s) = V0 := ⟨_, rfl⟩
        rw [hV0] at b9' ⊢
        clear u9 b9 d8 b8 su9 u8 su8 hV0
        go_wp2_with fail
        have bd := (b9').drew
        refine wp_region_held_drew (S := fun y => y.cell? ⟨g1, 0, none⟩ = some (.slice A3 q.m.length c3) ∧ y.cell? ⟨g1, 1, none⟩ = some (.slice A4 q.rs.length c4) ∧ y.cell? (ad.add k) = some (.int .i64 x)) (by kernel_rfl) (HK.out _ bd) (fun hHeld => ?_)
        refine wpAnyH_take (i := 0) (oi := _) (v := ?_) rfl (by kernel_rfl) (by kernel_rfl) (by kernel_rfl) (fun _ _ _ h => h) (Or.inl ⟨by rfl, ?_⟩) hHeld ?_
        rotate_left
        · (intro w' hSw; (try dsimp only at hSw); go_simp <;> with_reducible rfl)
        try simp only [Act.put, List.getElem_toArray, List.getElem_cons_succ, List.getElem_cons_zero, List.setIfInBounds_toArray, List.set_cons_zero, List.set_cons_succ]
        refine wpAnyH_take (i := 1) (oi := _) (v := ?_) rfl (by kernel_rfl) (by kernel_rfl) (by kernel_rfl) (fun _ _ _ h => h) (Or.inl ⟨by rfl, ?_⟩) hHeld ?_
        rotate_left
        · (intro w' hSw; (try dsimp only at hSw); go_simp <;> with_reducible rfl)
        try simp only [Act.put, List.getElem_toArray, List.getElem_cons_succ, List.getElem_cons_zero, List.setIfInBounds_toArray, List.set_cons_zero, List.set_cons_succ]
        refine wpAnyH_take (i := 3) (oi := _) (v := ?_) rfl (by kernel_rfl) (by kernel_rfl) (by kernel_rfl) (fun _ _ _ h => h) (Or.inl ⟨by rfl, ?_⟩) hHeld ?_
        rotate_left
        · (intro w' hSw; (try dsimp only at hSw); go_simp <;> with_reducible rfl)
        try simp only [Act.put, List.getElem_toArray, List.getElem_cons_succ, List.getElem_cons_zero, List.setIfInBounds_toArray, List.set_cons_zero, List.set_cons_succ]
        refine wpAnyH_take (i := 4) (oi := _) (v := ?_) rfl (by kernel_rfl) (by kernel_rfl) (by kernel_rfl) (fun _ _ _ h => h) (Or.inl ⟨by rfl, ?_⟩) hHeld ?_
        rotate_left
        · (intro w' hSw; (try dsimp only at hSw); go_simp <;> with_reducible rfl)
        try simp only [Act.put, List.getElem_toArray, List.getElem_cons_succ, List.getElem_cons_zero, List.setIfInBounds_toArray, List.set_cons_zero, List.set_cons_succ]
        refine wpAnyH_take (i := 5) (oi := _) (v := ?_) rfl (by kernel_rfl) (by kernel_rfl) (by kernel_rfl) (fun _ _ _ h => h) (Or.inl ⟨by rfl, ?_⟩) hHeld ?_
        rotate_left
        · (intro w' hSw; (try dsimp only at hSw); go_simp <;> with_reducible rfl)
        try simp only [Act.put, List.getElem_toArray, List.getElem_cons_succ, List.getElem_cons_zero, List.setIfInBounds_toArray, List.set_cons_zero, List.set_cons_succ]
        refine wpAnyH_take (i := 6) (oi := _) (v := ?_) rfl (by kernel_rfl) (by kernel_rfl) (by kernel_rfl) (fun _ _ _ h => h) (Or.inl ⟨by rfl, ?_⟩) hHeld ?_
        rotate_left
        · (intro w' hSw; (try dsimp only at hSw); go_simp <;> with_reducible rfl)
        try simp only [Act.put, List.getElem_toArray, List.getElem_cons_succ, List.getElem_cons_zero, List.setIfInBounds_toArray, List.set_cons_zero, List.set_cons_succ]
        refine wpAnyH_ready (rs := [2, 11]) (by kernel_rfl) (by simp) (AllReadyH.cons (o := _) rfl (fun K hK => ?_) (AllReadyH.cons (o := _) rfl (fun K hK => ?_) AllReadyH.nil))
        · skip
          try simp only [Act.put, List.getElem_toArray, List.getElem_cons_succ, List.getElem_cons_zero, List.setIfInBounds_toArray, List.set_cons_zero, List.set_cons_succ]
          go_simp
          go_at_call 25
          refine (areaOf_any _ q t _ (HQQ.out _ bd) HFQ.out).mono ?_
          rintro e w10 ⟨A11, c11, rfl, -, ob11, d11⟩
          have b10 := (bd).trans (d11.mono (bd).size)
          refine hK.out _ _ (HK.out _ b10) (fun hHeld => ?_)
          clear hK K
          try simp only [Act.put, List.getElem_toArray, List.getElem_cons_succ, List.getElem_cons_zero, List.setIfInBounds_toArray, List.set_cons_zero, List.set_cons_succ]
          refine wpAnyH_ready (rs := [7, 11]) (by kernel_rfl) (by simp) (AllReadyH.cons (o := _) rfl (fun K hK => ?_) (AllReadyH.cons (o := _) rfl (fun K hK => ?_) AllReadyH.nil))
          · skip
            try simp only [Act.put, List.getElem_toArray, List.getElem_cons_succ, List.getElem_cons_zero, List.setIfInBounds_toArray, List.set_cons_zero, List.set_cons_succ]
            go_simp
            go_at_call 26
            refine (get_any A11 c11 (arOf q.rs t) x _ ob11 HFa.out hal HSa).mono ?_
            rintro e w11 ⟨A8, c8, o8, rfl, -, d12, -⟩
            rw [HIA.out]
            unfold ob
            have b11 := (b10).trans (d12.mono (b10).size)
            refine hK.out _ _ (HK.out _ b11) (fun hHeld => ?_)
            clear hK K
            try simp only [Act.put, List.getElem_toArray, List.getElem_cons_succ, List.getElem_cons_zero, List.setIfInBounds_toArray, List.set_cons_zero, List.set_cons_succ]
            refine wpAnyH_take (i := 8) (oi := _) (v := ?_) rfl (by kernel_rfl) (by kernel_rfl) (by kernel_rfl) (fun _ _ _ h => h) (Or.inl ⟨by rfl, ?_⟩) hHeld ?_
            rotate_left
            · (intro w' hSw; (try dsimp only at hSw); go_simp <;> with_reducible rfl)
            try simp only [Act.put, List.getElem_toArray, List.getElem_cons_succ, List.getElem_cons_zero, List.setIfInBounds_toArray, List.set_cons_zero, List.set_cons_succ]
            refine wpAnyH_take (i := 9) (oi := _) (v := ?_) rfl (by kernel_rfl) (by kernel_rfl) (by kernel_rfl) (fun _ _ _ h => h) (Or.inl ⟨by rfl, ?_⟩) hHeld ?_
            rotate_left
            · (intro w' hSw; (try dsimp only at hSw); go_simp <;> with_reducible rfl)
            try simp only [Act.put, List.getElem_toArray, List.getElem_cons_succ, List.getElem_cons_zero, List.setIfInBounds_toArray, List.set_cons_zero, List.set_cons_succ]
            refine wpAnyH_take (i := 10) (oi := _) (v := ?_) rfl (by kernel_rfl) (by kernel_rfl) (by kernel_rfl) (fun _ _ _ h => h) (Or.inl ⟨by rfl, ?_⟩) hHeld ?_
            rotate_left
            · (intro w' hSw; (try dsimp only at hSw); go_simp <;> with_reducible rfl)
            try simp only [Act.put, List.getElem_toArray, List.getElem_cons_succ, List.getElem_cons_zero, List.setIfInBounds_toArray, List.set_cons_zero, List.set_cons_succ]
            refine wpAnyH_ready (rs := [11]) (by kernel_rfl) (by simp) (AllReadyH.cons (o := _) rfl (fun K hK => ?_) AllReadyH.nil)
            try simp only [Act.put, List.getElem_toArray, List.getElem_cons_succ, List.getElem_cons_zero, List.setIfInBounds_toArray, List.set_cons_zero, List.set_cons_succ]
            try simp only [Act.put, List.getElem_toArray, List.getElem_cons_succ, List.getElem_cons_zero, List.setIfInBounds_toArray, List.set_cons_zero, List.set_cons_succ]
            go_simp
            have b12 := (b11).alloc (b11).size (.cells #[.int .i64 0, .slice none 0 0, .string ⟨#[]⟩] 38)
            have u12 := Blk.new_ w11 38 (.int .i64 0) (.slice none 0 0) (.string ⟨#[]⟩)
            have su12 : wr.heap.size ≤ (w11).heap.size := (b11).size
            have au12 := (Below.refl (w11).heap.size w11).alloc (Nat.le_refl _) (.cells #[.int .i64 0, .slice none 0 0, .string ⟨#[]⟩] 38)
            obtain ⟨W12, hWN⟩ : ∃ x, (w11).alloc (.cells #[.int .i64 0, .slice none 0 0, .string ⟨#[]⟩] 38) = x := ⟨_, rfl⟩
            rw [hWN] at b12 u12 au12 ⊢
            clear hWN
            refine hK.out _ _ (HK.out _ b12) (fun hHeld => ?_)
            clear hK K
            try simp only [Act.put, List.getElem_toArray, List.getElem_cons_succ, List.getElem_cons_zero, List.setIfInBounds_toArray, List.set_cons_zero, List.set_cons_succ]
            obtain ⟨z0, z1, z2, zf⟩ := id (u12).reads
            have f0 := zf 0
            have f1' := zf 1
            have f2 := zf 2
            clear zf
            refine wpAnyH_ready (rs := [12]) (by kernel_rfl) (by simp) (AllReadyH.cons (o := _) rfl (fun K hK => ?_) AllReadyH.nil)
            try simp only [Act.put, List.getElem_toArray, List.getElem_cons_succ, List.getElem_cons_zero, List.setIfInBounds_toArray, List.set_cons_zero, List.set_cons_succ]
            go_simp
            have b13 := blk_store u12 b12 su12 (.int .i64 o8.kd) (.slice A8 o8.zs.length c8) (.string o8.s)
            refine hK.out _ _ (HK.out _ b13) (fun hHeld => ?_)
            clear hK K
            try simp only [Act.put, List.getElem_toArray, List.getElem_cons_succ, List.getElem_cons_zero, List.setIfInBounds_toArray, List.set_cons_zero, List.set_cons_succ]
            clear z0 z1 z2 f0 f1' f2
            refine wpAnyH_take (i := 13) (oi := _) (v := ?_) rfl (by kernel_rfl) (by kernel_rfl) (by kernel_rfl) (fun _ _ _ h => h) (Or.inl ⟨by rfl, ?_⟩) hHeld ?_
            rotate_left
            · (intro w' hSw; (try dsimp only at hSw); go_simp <;> with_reducible rfl)
            try simp only [Act.put, List.getElem_toArray, List.getElem_cons_succ, List.getElem_cons_zero, List.setIfInBounds_toArray, List.set_cons_zero, List.set_cons_succ]
            refine wpAnyH_done (by kernel_rfl) ?_ _
            clear hHeld
            go_wp2
            go_roundw
            case rel => exact ⟨k + 1, by omega, by go_num, hb.trans ((b13).mono hb.size)⟩
            case measure => simp [intOf]; omega
          · skip
            try simp only [Act.put, List.getElem_toArray, List.getElem_cons_succ, List.getElem_cons_zero, List.setIfInBounds_toArray, List.set_cons_zero, List.set_cons_succ]
            go_simp
            have b12 := (b10).alloc (b10).size (.cells #[.int .i64 0, .slice none 0 0, .string ⟨#[]⟩] 38)
            have u12 := Blk.new_ w10 38 (.int .i64 0) (.slice none 0 0) (.string ⟨#[]⟩)
            have su12 : wr.heap.size ≤ (w10).heap.size := (b10).size
            have au12 := (Below.refl (w10).heap.size w10).alloc (Nat.le_refl _) (.cells #[.int .i64 0, .slice none 0 0, .string ⟨#[]⟩] 38)
            obtain ⟨W12, hWN⟩ : ∃ x, (w10).alloc (.cells #[.int .i64 0, .slice none 0 0, .string ⟨#[]⟩] 38) = x := ⟨_, rfl⟩
            rw [hWN] at b12 u12 au12 ⊢
            clear hWN
            refine hK.out _ _ (HK.out _ b12) (fun hHeld => ?_)
            clear hK K
            try simp only [Act.put, List.getElem_toArray, List.getElem_cons_succ, List.getElem_cons_zero, List.setIfInBounds_toArray, List.set_cons_zero, List.set_cons_succ]
            refine wpAnyH_ready (rs := [7]) (by kernel_rfl) (by simp) (AllReadyH.cons (o := _) rfl (fun K hK => ?_) AllReadyH.nil)
            try simp only [Act.put, List.getElem_toArray, List.getElem_cons_succ, List.getElem_cons_zero, List.setIfInBounds_toArray, List.set_cons_zero, List.set_cons_succ]
            try simp only [Act.put, List.getElem_toArray, List.getElem_cons_succ, List.getElem_cons_zero, List.setIfInBounds_toArray, List.set_cons_zero, List.set_cons_succ]
            go_simp
            go_at_call 26
            refine (get_any A11 c11 (arOf q.rs t) x _ (objs_on ob11 au12) HFa.out hal HSa).mono ?_
            rintro e w11 ⟨A8, c8, o8, rfl, -, d12, -⟩
            rw [HIA.out]
            unfold ob
            have b11 := (b12).trans (d12.mono (b12).size)
            refine hK.out _ _ (HK.out _ b11) (fun hHeld => ?_)
            clear hK K
            try simp only [Act.put, List.getElem_toArray, List.getElem_cons_succ, List.getElem_cons_zero, List.setIfInBounds_toArray, List.set_cons_zero, List.set_cons_succ]
            have u13 := u12.below d12 u12.lt
            have su13 := su12
            refine wpAnyH_take (i := 8) (oi := _) (v := ?_) rfl (by kernel_rfl) (by kernel_rfl) (by kernel_rfl) (fun _ _ _ h => h) (Or.inl ⟨by rfl, ?_⟩) hHeld ?_
            rotate_left
            · (intro w' hSw; (try dsimp only at hSw); go_simp <;> with_reducible rfl)
            try simp only [Act.put, List.getElem_toArray, List.getElem_cons_succ, List.getElem_cons_zero, List.setIfInBounds_toArray, List.set_cons_zero, List.set_cons_succ]
            refine wpAnyH_take (i := 9) (oi := _) (v := ?_) rfl (by kernel_rfl) (by kernel_rfl) (by kernel_rfl) (fun _ _ _ h => h) (Or.inl ⟨by rfl, ?_⟩) hHeld ?_
            rotate_left
            · (intro w' hSw; (try dsimp only at hSw); go_simp <;> with_reducible rfl)
            try simp only [Act.put, List.getElem_toArray, List.getElem_cons_succ, List.getElem_cons_zero, List.setIfInBounds_toArray, List.set_cons_zero, List.set_cons_succ]
            refine wpAnyH_take (i := 10) (oi := _) (v := ?_) rfl (by kernel_rfl) (by kernel_rfl) (by kernel_rfl) (fun _ _ _ h => h) (Or.inl ⟨by rfl, ?_⟩) hHeld ?_
            rotate_left
            · (intro w' hSw; (try dsimp only at hSw); go_simp <;> with_reducible rfl)
            try simp only [Act.put, List.getElem_toArray, List.getElem_cons_succ, List.getElem_cons_zero, List.setIfInBounds_toArray, List.set_cons_zero, List.set_cons_succ]
            obtain ⟨z0, z1, z2, zf⟩ := id (u13).reads
            have f0 := zf 0
            have f1' := zf 1
            have f2 := zf 2
            clear zf
            refine wpAnyH_ready (rs := [12]) (by kernel_rfl) (by simp) (AllReadyH.cons (o := _) rfl (fun K hK => ?_) AllReadyH.nil)
            try simp only [Act.put, List.getElem_toArray, List.getElem_cons_succ, List.getElem_cons_zero, List.setIfInBounds_toArray, List.set_cons_zero, List.set_cons_succ]
            go_simp
            have b13 := blk_store u13 b11 su13 (.int .i64 o8.kd) (.slice A8 o8.zs.length c8) (.string o8.s)
            refine hK.out _ _ (HK.out _ b13) (fun hHeld => ?_)
            clear hK K
            try simp only [Act.put, List.getElem_toArray, List.getElem_cons_succ, List.getElem_cons_zero, List.setIfInBounds_toArray, List.set_cons_zero, List.set_cons_succ]
            clear z0 z1 z2 f0 f1' f2
            refine wpAnyH_take (i := 13) (oi := _) (v := ?_) rfl (by kernel_rfl) (by kernel_rfl) (by kernel_rfl) (fun _ _ _ h => h) (Or.inl ⟨by rfl, ?_⟩) hHeld ?_
            rotate_left
            · (intro w' hSw; (try dsimp only at hSw); go_simp <;> with_reducible rfl)
            try simp only [Act.put, List.getElem_toArray, List.getElem_cons_succ, List.getElem_cons_zero, List.setIfInBounds_toArray, List.set_cons_zero, List.set_cons_succ]
            refine wpAnyH_done (by kernel_rfl) ?_ _
            clear hHeld
            go_wp2
            go_roundw
            case rel => exact ⟨k + 1, by omega, by go_num, hb.trans ((b13).mono hb.size)⟩
            case measure => simp [intOf]; omega
        · skip
          try simp only [Act.put, List.getElem_toArray, List.getElem_cons_succ, List.getElem_cons_zero, List.setIfInBounds_toArray, List.set_cons_zero, List.set_cons_succ]
          go_simp
          have b12 := ((b9').alloc (b9').size (.cells #[.int .i64 0, .slice none 0 0, .string ⟨#[]⟩] 38)).drew
          have u12 : Blk ((V0).alloc (.cells #[.int .i64 0, .slice none 0 0, .string ⟨#[]⟩] 38)).drew (V0).heap.size 38 (.int .i64 0) (.slice none 0 0) (.string ⟨#[]⟩) := Blk.new_ V0 38 (.int .i64 0) (.slice none 0 0) (.string ⟨#[]⟩)
          have su12 : wr.heap.size ≤ (V0).heap.size := (b9').size
          obtain ⟨W12, hWN⟩ : ∃ x, ((V0).alloc (.cells #[.int .i64 0, .slice none 0 0, .string ⟨#[]⟩] 38)).drew = x := ⟨_, rfl⟩
          rw [hWN] at b12 u12 ⊢
          clear hWN
          refine hK.out _ _ (HK.out _ b12) (fun hHeld => ?_)
          clear hK K
          try simp only [Act.put, List.getElem_toArray, List.getElem_cons_succ, List.getElem_cons_zero, List.setIfInBounds_toArray, List.set_cons_zero, List.set_cons_succ]
          refine wpAnyH_ready (rs := [2]) (by kernel_rfl) (by simp) (AllReadyH.cons (o := _) rfl (fun K hK => ?_) AllReadyH.nil)
          try simp only [Act.put, List.getElem_toArray, List.getElem_cons_succ, List.getElem_cons_zero, List.setIfInBounds_toArray, List.set_cons_zero, List.set_cons_succ]
          try simp only [Act.put, List.getElem_toArray, List.getElem_cons_succ, List.getElem_cons_zero, List.setIfInBounds_toArray, List.set_cons_zero, List.set_cons_succ]
          go_simp
          go_at_call 25
          refine (areaOf_any _ q t _ (HQQ.out _ b12) HFQ.out).mono ?_
          rintro e w10 ⟨A11, c11, rfl, -, ob11, d11⟩
          have b10 := (b12).trans (d11.mono (b12).size)
          refine hK.out _ _ (HK.out _ b10) (fun hHeld => ?_)
          clear hK K
          try simp only [Act.put, List.getElem_toArray, List.getElem_cons_succ, List.getElem_cons_zero, List.setIfInBounds_toArray, List.set_cons_zero, List.set_cons_succ]
          have u13 := u12.below d11 u12.lt
          have su13 := su12
          refine wpAnyH_ready (rs := [7]) (by kernel_rfl) (by simp) (AllReadyH.cons (o := _) rfl (fun K hK => ?_) AllReadyH.nil)
          try simp only [Act.put, List.getElem_toArray, List.getElem_cons_succ, List.getElem_cons_zero, List.setIfInBounds_toArray, List.set_cons_zero, List.set_cons_succ]
          try simp only [Act.put, List.getElem_toArray, List.getElem_cons_succ, List.getElem_cons_zero, List.setIfInBounds_toArray, List.set_cons_zero, List.set_cons_succ]
          go_simp
          go_at_call 26
          refine (get_any A11 c11 (arOf q.rs t) x _ ob11 HFa.out hal HSa).mono ?_
          rintro e w11 ⟨A8, c8, o8, rfl, -, d12, -⟩
          rw [HIA.out]
          unfold ob
          have b11 := (b10).trans (d12.mono (b10).size)
          refine hK.out _ _ (HK.out _ b11) (fun hHeld => ?_)
          clear hK K
          try simp only [Act.put, List.getElem_toArray, List.getElem_cons_succ, List.getElem_cons_zero, List.setIfInBounds_toArray, List.set_cons_zero, List.set_cons_succ]
          have u14 := u13.below d12 u13.lt
          have su14 := su12
          refine wpAnyH_take (i := 8) (oi := _) (v := ?_) rfl (by kernel_rfl) (by kernel_rfl) (by kernel_rfl) (fun _ _ _ h => h) (Or.inl ⟨by rfl, ?_⟩) hHeld ?_
          rotate_left
          · (intro w' hSw; (try dsimp only at hSw); go_simp <;> with_reducible rfl)
          try simp only [Act.put, List.getElem_toArray, List.getElem_cons_succ, List.getElem_cons_zero, List.setIfInBounds_toArray, List.set_cons_zero, List.set_cons_succ]
          refine wpAnyH_take (i := 9) (oi := _) (v := ?_) rfl (by kernel_rfl) (by kernel_rfl) (by kernel_rfl) (fun _ _ _ h => h) (Or.inl ⟨by rfl, ?_⟩) hHeld ?_
          rotate_left
          · (intro w' hSw; (try dsimp only at hSw); go_simp <;> with_reducible rfl)
          try simp only [Act.put, List.getElem_toArray, List.getElem_cons_succ, List.getElem_cons_zero, List.setIfInBounds_toArray, List.set_cons_zero, List.set_cons_succ]
          refine wpAnyH_take (i := 10) (oi := _) (v := ?_) rfl (by kernel_rfl) (by kernel_rfl) (by kernel_rfl) (fun _ _ _ h => h) (Or.inl ⟨by rfl, ?_⟩) hHeld ?_
          rotate_left
          · (intro w' hSw; (try dsimp only at hSw); go_simp <;> with_reducible rfl)
          try simp only [Act.put, List.getElem_toArray, List.getElem_cons_succ, List.getElem_cons_zero, List.setIfInBounds_toArray, List.set_cons_zero, List.set_cons_succ]
          obtain ⟨z0, z1, z2, zf⟩ := id (u14).reads
          have f0 := zf 0
          have f1' := zf 1
          have f2 := zf 2
          clear zf
          refine wpAnyH_ready (rs := [12]) (by kernel_rfl) (by simp) (AllReadyH.cons (o := _) rfl (fun K hK => ?_) AllReadyH.nil)
          try simp only [Act.put, List.getElem_toArray, List.getElem_cons_succ, List.getElem_cons_zero, List.setIfInBounds_toArray, List.set_cons_zero, List.set_cons_succ]
          go_simp
          have b13 := blk_store u14 b11 su14 (.int .i64 o8.kd) (.slice A8 o8.zs.length c8) (.string o8.s)
          refine hK.out _ _ (HK.out _ b13) (fun hHeld => ?_)
          clear hK K
          try simp only [Act.put, List.getElem_toArray, List.getElem_cons_succ, List.getElem_cons_zero, List.setIfInBounds_toArray, List.set_cons_zero, List.set_cons_succ]
          clear z0 z1 z2 f0 f1' f2
          refine wpAnyH_take (i := 13) (oi := _) (v := ?_) rfl (by kernel_rfl) (by kernel_rfl) (by kernel_rfl) (fun _ _ _ h => h) (Or.inl ⟨by rfl, ?_⟩) hHeld ?_
          rotate_left
          · (intro w' hSw; (try dsimp only at hSw); go_simp <;> with_reducible rfl)
          try simp only [Act.put, List.getElem_toArray, List.getElem_cons_succ, List.getElem_cons_zero, List.setIfInBounds_toArray, List.set_cons_zero, List.set_cons_succ]
          refine wpAnyH_done (by kernel_rfl) ?_ _
          clear hHeld
          go_wp2
          go_roundw
          case rel => exact ⟨k + 1, by omega, by go_num, hb.trans ((b13).mono hb.size)⟩
          case measure => simp [intOf]; omega
    · have hk' : k = M'.length := by omega
      subst hk'
      go_wp2_with fail
      refine (ascending_yes _ A6 c6 M' wr rm (by omega) HM.out.1).mono ?_
      rintro e w6 ⟨rfl, d⟩
      replace bw := bw.trans (d.mono bw.size)
      go_wp2
      go_ret
      exact .mk_ bw
theorem FnQuarMissing_any (A : Option Addr) (c : Nat) (bs : List Int) (w : World) (f1 : Row w w.heap.size A (bs.map (Value.int .u8))) (f2 : bs.length ≤ c) (f3 : c ≤ maxLen) (f4 : ∀ n ∈ bs, 0 ≤ n ∧ n < 256) :
    Calls Try.prog 9 #[.slice A bs.length c] w (Ret (.bool true) w) := by
  by_cases hl : bs.length ≤ 1048576
  · exact FnQuarMissing_yes A c bs w ⟨f1, f2, f3, f4⟩ hl
  · exact FnQuarMissing_no A c bs w ⟨f1, f2, f3, f4⟩ hl
theorem FnQuarMissingPromote_no (A : Option Addr) (c : Nat) (bs : List Int) (w : World) (h : Code_ w A c bs) (hl : ¬ bs.length ≤ 1048576) :
    Calls Try.prog 10 #[.slice A bs.length c] w (Ret (.bool true) w) := by
  have hc := h.2.1
  have hm := h.2.2.1
  unfold maxLen at hm
  go_enter Try.func10, Try.ntmps10
  go_wp2
  go_ret
  exact .mk_ (Below.refl _ _)
set_option maxRecDepth 100000 in
set_option maxHeartbeats 8000000 in
theorem FnQuarMissingPromote_yes (A : Option Addr) (c : Nat) (bs : List Int) (w : World) (h : Code_ w A c bs) (hl : bs.length ≤ 1048576) :
    Calls Try.prog 10 #[.slice A bs.length c] w (Ret (.bool true) w) := by
  go_enter Try.func10, Try.ntmps10
  go_wp2_with fail
  refine (DrawQuarantineMissing_any A c bs _ h).mono ?_
  rintro e w1 ⟨v1, q, t, A5, c5, fr, rfl, q1, f1, r1, hl1, bw⟩
  obtain ⟨A3, c3, A4, c4, rfl, -, -, -, -⟩ := id q1
  unfold qv at *
  have hfl : fr.length ≤ 1048576 := by omega
  obtain ⟨g1, hg⟩ : ∃ g, (w1).heap.size = g := ⟨_, rfl⟩
  have al := (Below.refl (w1).heap.size w1).alloc (Nat.le_refl _) (.cells #[.slice A3 q.m.length c3, .slice A4 q.rs.length c4] 26)
  have xn := BlkQ.new_ w1 26 (.slice A3 q.m.length c3) (.slice A4 q.rs.length c4)
  obtain ⟨w1', hw'⟩ : ∃ x, (w1).alloc (.cells #[.slice A3 q.m.length c3, .slice A4 q.rs.length c4] 26) = x := ⟨_, rfl⟩
  rw [hw'] at al xn
  rw [hg] at xn
  have x1 := xn
  clear xn
  replace r1 := rowq_on r1 al
  have zz := (al).size
  try (replace ob := objs_on ob al)
  replace q1 := q1.on al zz
  replace bw := bw.trans ((al).mono bw.size)
  clear zz
  clear al
  obtain ⟨y10, y11, -⟩ := id x1.reads
  go_wp2_with fail
  refine (implQuarantineMissing_is _ q t A5 c5 fr _ q1 f1 r1 hfl).mono ?_
  rintro e w3 ⟨M, hM, v2, rfl, o2, d⟩
  obtain ⟨A6, c6, rfl, rm⟩ := o2.form
  have HM := hid hM
  have hMl := hM.few
  clear y10 y11 hM o2
  replace x1 := x1.later d
  replace r1 := rowq_on r1 d
  have zz := (d).size
  try (replace ob := objs_on ob d)
  replace q1 := q1.on d zz
  replace bw := bw.trans ((d).mono bw.size)
  clear zz
  clear d
  obtain ⟨y10, y11, -⟩ := id x1.reads
  go_wp2_with fail
  refine (specQuarantineMissing_is _ q t A5 c5 fr _ q1 f1 r1 hfl).mono ?_
  rintro e w4 ⟨M', hM', v3, rfl, o3, d⟩
  obtain rfl := hM'.one HM.out
  obtain ⟨A7, c7, rfl, rn⟩ := o3.form
  clear y10 y11 hM' o3
  replace x1 := x1.later d
  replace r1 := rowq_on r1 d
  replace rm := rowq_on rm d
  have zz := (d).size
  try (replace ob := objs_on ob d)
  replace q1 := q1.on d zz
  replace bw := bw.trans ((d).mono bw.size)
  clear zz
  clear d
  obtain ⟨y10, y11, -⟩ := id x1.reads
  go_wp2_with fail
  refine (sameIntsQ_ret _ _ A6 A7 c6 c7 M' _ rm rn (by unfold maxLen; omega)).mono ?_
  rintro e w5 ⟨rfl, d⟩
  clear y10 y11
  replace x1 := x1.later d
  replace r1 := rowq_on r1 d
  replace rm := rowq_on rm d
  replace rn := rowq_on rn d
  have zz := (d).size
  try (replace ob := objs_on ob d)
  replace q1 := q1.on d zz
  replace bw := bw.trans ((d).mono bw.size)
  clear zz
  clear d
  obtain ⟨y10, y11, -⟩ := id x1.reads
  obtain ⟨bq, hbq⟩ := bool_of' (QV q)
  go_wp2_with fail
  refine (specQuarantineValid_is bq _ q _ q1 f1 hbq).mono ?_
  rintro e w6 ⟨rfl, d⟩
  clear y10 y11
  replace x1 := x1.later d
  replace r1 := rowq_on r1 d
  replace rm := rowq_on rm d
  replace rn := rowq_on rn d
  have zz := (d).size
  try (replace ob := objs_on ob d)
  replace q1 := q1.on d zz
  replace bw := bw.trans ((d).mono bw.size)
  clear zz
  clear d
  obtain ⟨y10, y11, -⟩ := id x1.reads
  cases bq with
  | false =>
    clear hbq
    go_wp2_with fail
    refine (sameIntsQ_ret _ _ A6 A7 c6 c7 M' _ rm rn (by unfold maxLen; omega)).mono ?_
    rintro e w7 ⟨rfl, d⟩
    replace bw := bw.trans (d.mono bw.size)
    go_wp2
    go_ret
    exact .mk_ bw
  | true =>
    have HQV := hid (hbq.1 rfl)
    clear hbq
    by_cases h0 : fr.length = 0
    · have e0 : ((fr.length : Int) == 0) = true := by rw [beq_iff_eq]; omega
      clear h0
      go_wp2_with fail
      refine (sameIntsQ_ret _ _ A6 A7 c6 c7 M' _ rm rn (by unfold maxLen; omega)).mono ?_
      rintro e w7 ⟨rfl, d⟩
      replace bw := bw.trans (d.mono bw.size)
      go_wp2
      go_ret
      exact .mk_ bw
    · have e0 : ((fr.length : Int) == 0) = false := by rw [beq_eq_false_iff_ne]; omega
      obtain ⟨y, hy⟩ := pro_way q t
      have HY := hid hy
      clear h0 rn hy
      go_wp2_with fail
      refine (implQuarantinePromote_is y _ q t _ q1 f1 HY.out).mono ?_
      rintro e w7 o4
      obtain ⟨q', hq'⟩ : ∃ q', y.q q = q' := ⟨_, rfl⟩
      unfold Changed at o4
      rw [hq'] at o4
      obtain ⟨v4, rfl, o4, d⟩ := o4
      have q4 := o4.quar
      obtain ⟨A8, c8, A9, c9, rfl, -, -, -, -⟩ := id o4
      unfold qv at *
      have HQ' := hid hq'
      clear y10 y11 o4 x1 hq'
      replace r1 := rowq_on r1 d
      replace rm := rowq_on rm d
      replace bw := bw.trans (d.mono bw.size)
      obtain ⟨g4, hg⟩ : ∃ g, (w7).heap.size = g := ⟨_, rfl⟩
      have al := (Below.refl (w7).heap.size w7).alloc (Nat.le_refl _) (.cells #[.slice A8 q'.m.length c8, .slice A9 q'.rs.length c9] 26)
      have xn := BlkQ.new_ w7 26 (.slice A8 q'.m.length c8) (.slice A9 q'.rs.length c9)
      obtain ⟨w7', hw'⟩ : ∃ x, (w7).alloc (.cells #[.slice A8 q'.m.length c8, .slice A9 q'.rs.length c9] 26) = x := ⟨_, rfl⟩
      rw [hw'] at al xn
      rw [hg] at xn
      have x4 := xn
      clear xn d
      replace r1 := rowq_on r1 al
      replace rm := rowq_on rm al
      replace q4 := q4.on al al.size
      replace bw := bw.trans (al.mono bw.size)
      clear al
      obtain ⟨y40, y41, -⟩ := id x4.reads
      cases y with
      | bad =>
        unfold QWay.ok
        go_wp2
        go_ret
        exact .mk_ bw
      | no =>
        unfold QWay.ok
        go_wp2
        go_ret
        exact .mk_ bw
      | yes q0 =>
        unfold QWay.ok
        have hE : q0 = q' := HQ'.out
        subst hE
        obtain ⟨⟨hqv, htv⟩, z, hh, hu, hq0⟩ := HY.out
        have hzm : q0.m = z := by rw [hq0]
        have om := q4.main2
        have CM : Hid (Calls Try.prog 41 #[.slice A8 q0.m.length c8, .slice A5 fr.length c5] w7' (NewOwn M' w7')) := by
          rw [hzm] at om ⊢
          refine (implStoreMissing_any A8 A5 c8 c5 z fr w7' om (store_fit hu.1) (by have := (storeB_parts hu.1).2; unfold maxLen; omega) r1 (by unfold maxLen; omega)).mono ?_
          rintro e w' ⟨L, ha, v, he, o, hb⟩
          have := isM_one ha.ismiss (mis_promote HM.out hqv htv hu)
          exact ⟨v, he, by rw [← this]; exact o, hb⟩
        clear hqv htv hh hu hq0 hzm om HY HQ'
        go_wp2_with fail
        refine CM.out.mono ?_
        rintro e w9 ⟨v9, rfl, o9, d⟩
        obtain ⟨A10, c10, rfl, r10⟩ := o9.form
        replace rm := rowq_on rm d
        replace bw := bw.trans (d.mono bw.size)
        clear o9 d CM y40 y41 x4
        go_wp2_with fail
        refine (sameIntsQ_ret _ _ A10 A6 c10 c6 M' _ r10 rm (by unfold maxLen; omega)).mono ?_
        rintro e w10 ⟨rfl, d⟩
        replace bw := bw.trans (d.mono bw.size)
        go_wp2
        go_ret
        exact .mk_ bw
theorem FnQuarMissingPromote_any (A : Option Addr) (c : Nat) (bs : List Int) (w : World) (f1 : Row w w.heap.size A (bs.map (Value.int .u8))) (f2 : bs.length ≤ c) (f3 : c ≤ maxLen) (f4 : ∀ n ∈ bs, 0 ≤ n ∧ n < 256) :
    Calls Try.prog 10 #[.slice A bs.length c] w (Ret (.bool true) w) := by
  by_cases hl : bs.length ≤ 1048576
  · exact FnQuarMissingPromote_yes A c bs w ⟨f1, f2, f3, f4⟩ hl
  · exact FnQuarMissingPromote_no A c bs w ⟨f1, f2, f3, f4⟩ hl
end Go.Proofs.Ytblknnifccmpkaa
