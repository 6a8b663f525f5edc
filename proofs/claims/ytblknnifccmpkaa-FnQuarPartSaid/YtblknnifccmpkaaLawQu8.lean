/-
  Walk of the law on a quarantine without one area.
-/
import Derived.Test.YtblknnifccmpkaaLawQu2
import Derived.Test.YtblknnifccmpkaaRowsQ
import Derived.Test.YtblknnifccmpkaaQuarC
namespace Go.Proofs.Ytblknnifccmpkaa
open Go.RowKit Wo Pu Qu

theorem FnQuarPart_no (A : Option Addr) (c : Nat) (bs : List Int) (A' : Option Addr) (c' : Nat) (bs' : List Int) (w : World) (h : Code_ w A c bs) (h' : Code_ w A' c' bs') (hl : ¬ (bs.length ≤ 1048576 ∧ bs'.length ≤ 1048576)) :
    Calls Try.prog 11 #[.slice A bs.length c, .slice A' bs'.length c'] w (Ret (.bool true) w) := by
  have hc := h.2.1
  have hm := h.2.2.1
  have hc' := h'.2.1
  have hm' := h'.2.2.1
  unfold maxLen at hm hm'
  by_cases h1 : bs.length ≤ 1048576
  · have h2 : ¬ bs'.length ≤ 1048576 := fun e => hl ⟨h1, e⟩
    clear hl
    go_enter Try.func11, Try.ntmps11
    go_wp2
    go_ret
    exact .mk_ (Below.refl _ _)
  · clear hl
    go_enter Try.func11, Try.ntmps11
    go_wp2
    go_ret
    exact .mk_ (Below.refl _ _)
set_option linter.unusedSimpArgs false in
set_option maxRecDepth 100000 in
set_option maxHeartbeats 8000000 in
theorem FnQuarPart_yes (A : Option Addr) (c : Nat) (bs : List Int) (A' : Option Addr) (c' : Nat) (bs' : List Int) (w : World) (h : Code_ w A c bs) (_ : Code_ w A' c' bs') (hl : bs.length ≤ 1048576) (hl' : bs'.length ≤ 1048576) :
    Calls Try.prog 11 #[.slice A bs.length c, .slice A' bs'.length c'] w (Ret (.bool true) w) := by
  go_enter Try.func11, Try.ntmps11
  go_wp2_with fail
  refine (DrawQuarantineValid_any A c bs _ h).mono ?_
  rintro e w1 ⟨v1, q, rfl, q1, f1, bw⟩
  obtain ⟨A3, c3, A4, c4, rfl, -, -, -, hcz⟩ := id q1
  unfold qv at *
  obtain ⟨g1, hg⟩ : ∃ g, (w1).heap.size = g := ⟨_, rfl⟩
  have al := (Below.refl (w1).heap.size w1).alloc (Nat.le_refl _) (.cells #[.slice A3 q.m.length c3, .slice A4 q.rs.length c4] 26)
  have xn := BlkQ.new_ w1 26 (.slice A3 q.m.length c3) (.slice A4 q.rs.length c4)
  obtain ⟨w1', hw'⟩ : ∃ x, (w1).alloc (.cells #[.slice A3 q.m.length c3, .slice A4 q.rs.length c4] 26) = x := ⟨_, rfl⟩
  rw [hw'] at al xn
  rw [hg] at xn
  have x1 := xn
  clear xn
  have zz := (al).size
  try (replace ob := objs_on ob al)
  replace q1 := q1.on al zz
  replace bw := bw.trans ((al).mono bw.size)
  clear zz
  clear al
  obtain ⟨y10, y11, -⟩ := id x1.reads
  obtain ⟨bq, hbq⟩ := bool_of' (QV q)
  go_wp2_with fail
  refine (implQuarantineValid_is bq _ q _ q1 f1 hbq).mono ?_
  rintro e w3 ⟨rfl, d⟩
  clear y10 y11
  replace x1 := x1.later d
  have zz := (d).size
  try (replace ob := objs_on ob d)
  replace q1 := q1.on d zz
  replace bw := bw.trans ((d).mono bw.size)
  clear zz
  clear d
  obtain ⟨y10, y11, -⟩ := id x1.reads
  go_wp2_with fail
  refine (specQuarantineValid_is bq _ q _ q1 f1 hbq).mono ?_
  rintro e w4 ⟨rfl, d⟩
  clear y10 y11
  replace x1 := x1.later d
  have zz := (d).size
  try (replace ob := objs_on ob d)
  replace q1 := q1.on d zz
  replace bw := bw.trans ((d).mono bw.size)
  clear zz
  clear d
  obtain ⟨y10, y11, -⟩ := id x1.reads
  cases bq with
  | false =>
    clear hbq
    go_wp2
    go_ret
    exact .mk_ bw
  | true =>
    have hqv := hbq.1 rfl
    clear hbq
    by_cases h0 : q.rs.length = 0
    · have e0 : ((q.rs.length : Int) == 0) = true := by rw [beq_iff_eq]; omega
      clear h0
      go_wp2
      go_ret
      exact .mk_ bw
    · have e0 : ((q.rs.length : Int) == 0) = false := by rw [beq_eq_false_iff_ne]; omega
      obtain ⟨k, hk⟩ : ∃ k : Nat, (bs'.length : Int) % (q.rs.length : Int) = (k : Int) := ⟨bs'.length % q.rs.length, by simp⟩
      have hkl : k < q.rs.length := by have := Int.emod_lt_of_pos (bs'.length : Int) (show (0 : Int) < q.rs.length by omega); omega
      obtain ⟨-, -, om, hcm, oa, -⟩ := q1.areas
      obtain ⟨xs, hxr, hxc, hx1⟩ := oa.cellsA
      have hxl := hxc.1
      obtain ⟨i0, hi, hz0, hz1, hz2⟩ := info_of info_ar
      obtain ⟨ad, hA⟩ : ∃ ad, A4 = some ad := by
        obtain ⟨_, ad, _, _, _, e, _⟩ := oa.ar hkl
        exact ⟨ad, e⟩
      subst hA
      have few := hqv.2.2
      obtain ⟨g9, hg⟩ : ∃ g, (w4).heap.size = g := ⟨_, rfl⟩
      have al := (Below.refl (w4).heap.size w4).alloc (Nat.le_refl _) (.cells #[.slice A3 q.m.length c3, .slice (some ad) q.rs.length c4] 26)
      have xn := BlkQ.new_ w4 26 (.slice A3 q.m.length c3) (.slice (some ad) q.rs.length c4)
      obtain ⟨w4', hw'⟩ : ∃ x, (w4).alloc (.cells #[.slice A3 q.m.length c3, .slice (some ad) q.rs.length c4] 26) = x := ⟨_, rfl⟩
      rw [hw'] at al xn
      rw [hg] at xn
      have x9 := xn
      clear xn h0 oa
      have x1' := x1.later al
      go_wp2_with fail
      rw [hk]
      clear hk y10 y11
      have k0 : (0 : Int) ≤ (k : Int) := by omega
      have k1 : (k : Int) < (q.rs.length : Int) := by omega
      have k2 : (k : Int) + 1 ≤ (q.rs.length : Int) := by omega
      have k3 : (q.rs.length : Int) ≤ (c4 : Int) := by omega
      have k4 : (k : Int) ≤ (c4 : Int) := by omega
      have k5 : (k : Int) + 1 ≤ (c4 : Int) := by omega
      have k6 : (0 : Int) ≤ (k : Int) + 1 := by omega
      have k7 : (k : Int) ≤ (k : Int) + 1 := by omega
      have tn : ((k : Int) + 1).toNat = k + 1 := by omega
      have k8 : (k : Int) ≤ (q.rs.length : Int) := by omega
      have kw : IntKind.i64.wrap ((k : Int) + 1) = (k : Int) + 1 := IntWalk.i64_in _ (by omega)
      have hck : ¬ c4 = k := by omega
      have HK : Hid (∀ y, Below w4'.heap.size w4' y → y.cell? ⟨g1, 1, none⟩ = some (.slice (some ad) q.rs.length c4)) := fun y hy => (x1'.later hy).reads.2.1
      by_cases hcap : c4 = k + 1
      all_goals
        have pnil : c4 = k + 1 → xs.drop ((k + 1) * 2) = [] := fun e => List.drop_eq_nil_of_le (by rw [hxl]; omega)
        have pxt : (xs.take (k * 2)).length = k * 2 := by rw [List.length_take, hxl]; omega
        have pxd : (xs.drop ((k + 1) * 2)).length = (q.rs.length - (k + 1)) * 2 := by rw [List.length_drop, hxl]; omega
        have px2 : ∀ u ∈ xs.take (k * 2), u.oneCell' = true := fun u hu => hx1 u (List.mem_of_mem_take hu)
        have px3 : ∀ u ∈ xs.drop ((k + 1) * 2), u.oneCell' = true := fun u hu => hx1 u (List.mem_of_mem_drop hu)
        have b0 := (Below.refl w4'.heap.size w4').drew
        refine wp_region_held_drew (S := fun y => y.cell? ⟨g1, 1, none⟩ = some (.slice (some ad) q.rs.length c4)) (by kernel_rfl) (HK.out _ b0) (fun hHeld => ?_)
        refine wpAnyH_take (i := 1) (oi := _) (v := ?_) rfl (by kernel_rfl) (by kernel_rfl) (by kernel_rfl) (fun _ _ _ h => h) (Or.inl ⟨by rfl, ?_⟩) hHeld ?_
        rotate_left
        · (intro w' hSw; (try dsimp only at hSw); go_simp <;> with_reducible rfl)
        try simp only [Act.put, List.getElem_toArray, List.getElem_cons_succ, List.getElem_cons_zero, List.setIfInBounds_toArray, List.set_cons_zero, List.set_cons_succ]
        refine wpAnyH_take (i := 2) (oi := _) (v := ?_) rfl (by kernel_rfl) (by kernel_rfl) (by kernel_rfl) (fun _ _ _ h => h) (Or.inl ⟨by rfl, ?_⟩) hHeld ?_
        rotate_left
        · (intro w' hSw; (try dsimp only at hSw); go_simp <;> with_reducible rfl)
        try simp only [Act.put, List.getElem_toArray, List.getElem_cons_succ, List.getElem_cons_zero, List.setIfInBounds_toArray, List.set_cons_zero, List.set_cons_succ]
        refine wpAnyH_take (i := 3) (oi := _) (v := ?_) rfl (by kernel_rfl) (by kernel_rfl) (by kernel_rfl) (fun _ _ _ h => h) (Or.inl ⟨by rfl, ?_⟩) hHeld ?_
        rotate_left
        · (intro w' hSw; (try dsimp only at hSw); go_simp <;> with_reducible rfl)
        try simp only [Act.put, List.getElem_toArray, List.getElem_cons_succ, List.getElem_cons_zero, List.setIfInBounds_toArray, List.set_cons_zero, List.set_cons_succ]
        refine wpAnyH_take (i := 4) (oi := _) (v := ?_) rfl (by kernel_rfl) (by kernel_rfl) (by kernel_rfl) (fun _ _ _ h => h) (Or.inl ⟨by rfl, ?_⟩) hHeld ?_
        rotate_left
        · (intro w' hSw; (try dsimp only at hSw); go_simp <;> with_reducible rfl)
        try simp only [Act.put, List.getElem_toArray, List.getElem_cons_succ, List.getElem_cons_zero, List.setIfInBounds_toArray, List.set_cons_zero, List.set_cons_succ]
        refine wpAnyH_take (i := 6) (oi := _) (v := ?_) rfl (by kernel_rfl) (by kernel_rfl) (by kernel_rfl) (fun _ _ _ h => h) (Or.inl ⟨by rfl, ?_⟩) hHeld ?_
        rotate_left
        · (intro w' hSw; (try dsimp only at hSw); go_simp <;> with_reducible rfl)
        try simp only [Act.put, List.getElem_toArray, List.getElem_cons_succ, List.getElem_cons_zero, List.setIfInBounds_toArray, List.set_cons_zero, List.set_cons_succ]
        refine wpAnyH_take (i := 7) (oi := _) (v := ?_) rfl (by kernel_rfl) (by kernel_rfl) (by kernel_rfl) (fun _ _ _ h => h) (Or.inl ⟨by rfl, ?_⟩) hHeld ?_
        rotate_left
        · (intro w' hSw; (try dsimp only at hSw); go_simp <;> with_reducible rfl)
        try simp only [Act.put, List.getElem_toArray, List.getElem_cons_succ, List.getElem_cons_zero, List.setIfInBounds_toArray, List.set_cons_zero, List.set_cons_succ]
        refine wpAnyH_take (i := 8) (oi := _) (v := ?_) rfl (by kernel_rfl) (by kernel_rfl) (by kernel_rfl) (fun _ _ _ h => h) (Or.inl ⟨by rfl, ?_⟩) hHeld ?_
        rotate_left
        · (intro w' hSw; (try dsimp only at hSw); go_simp <;> with_reducible rfl)
        try simp only [Act.put, List.getElem_toArray, List.getElem_cons_succ, List.getElem_cons_zero, List.setIfInBounds_toArray, List.set_cons_zero, List.set_cons_succ]
        refine wpAnyH_take (i := 9) (oi := _) (v := ?_) rfl (by kernel_rfl) (by kernel_rfl) (by kernel_rfl) (fun _ _ _ h => h) (Or.inl ⟨by rfl, ?_⟩) hHeld ?_
        rotate_left
        · (intro w' hSw; (try dsimp only at hSw); go_simp <;> with_reducible rfl)
        try simp only [Act.put, List.getElem_toArray, List.getElem_cons_succ, List.getElem_cons_zero, List.setIfInBounds_toArray, List.set_cons_zero, List.set_cons_succ]
        refine wpAnyH_take (i := 10) (oi := _) (v := ?_) rfl (by kernel_rfl) (by kernel_rfl) (by kernel_rfl) (fun _ _ _ h => h) (Or.inl ⟨by rfl, ?_⟩) hHeld ?_
        rotate_left
        · (intro w' hSw; (try dsimp only at hSw); go_simp <;> with_reducible rfl)
        try simp only [Act.put, List.getElem_toArray, List.getElem_cons_succ, List.getElem_cons_zero, List.setIfInBounds_toArray, List.set_cons_zero, List.set_cons_succ]
        refine wpAnyH_ready (rs := [0]) (by kernel_rfl) (by simp) (AllReadyH.cons (o := _) rfl (fun K hK => ?_) AllReadyH.nil)
        try simp only [Act.put, List.getElem_toArray, List.getElem_cons_succ, List.getElem_cons_zero, List.setIfInBounds_toArray, List.set_cons_zero, List.set_cons_succ]
        go_simp
        have pN : (w4'.alloc (.cells #[] 84)).drew.ownsRow w4'.heap.size 84 2 (.slice (some ⟨w4'.heap.size, 0, none⟩) 0 0) 0 [] := nil_own (w := w4') (B := w4'.heap.size) (Nat.le_refl _) 84 2
        have pB := ((Below.refl w4'.heap.size w4').alloc (Nat.le_refl _) (.cells #[] 84)).drew
        obtain ⟨W0, hW0⟩ : ∃ x, (w4'.alloc (.cells #[] 84)).drew = x := ⟨_, rfl⟩
        rw [hW0] at pN pB ⊢
        clear hW0
        have bA := al.trans (pB.mono al.size)
        refine hK.out _ _ (HK.out _ pB) (fun hHeld => ?_)
        clear hK K
        try simp only [Act.put, List.getElem_toArray, List.getElem_cons_succ, List.getElem_cons_zero, List.setIfInBounds_toArray, List.set_cons_zero, List.set_cons_succ]
        refine wpAnyH_ready (rs := [5]) (by kernel_rfl) (by simp) (AllReadyH.cons (o := _) rfl (fun K hK => ?_) AllReadyH.nil)
        try simp only [Act.put, List.getElem_toArray, List.getElem_cons_succ, List.getElem_cons_zero, List.setIfInBounds_toArray, List.set_cons_zero, List.set_cons_succ]
        rw [if_pos (by rfl)]
        refine op_append_row _ (by rfl) _ _ 24 (by rfl) w4'.heap.size 84 i0 (.agg #[.int .i64 0, .slice none 0 0]) 2 32 Try.underlying24 hi hz0 hz1 hz2 rfl (by decide) (.slice (some ⟨w4'.heap.size, 0, none⟩) 0 0) 0 [] (by rfl) pN w4.heap.size (some ad) k _ (xs.take (k * 2)) (by rfl) ((hxr.take_ (k * 2)).below bA (Nat.le_refl _)) pxt px2 (by unfold maxLen; omega) (by omega) pB.size ?_
        intro pv pw pho phg
        have pb : Below w4'.heap.size w4' pw := pB.grown phg pB.size (fun j hj => by have hj' : some (w4'.heap.size) = some j := hj; injection hj' with hj'; omega)
        have pl := World.ownsRow.lt pho
        have bA2 := al.trans (pb.mono al.size)
        refine hK.out _ _ (HK.out _ pb) (fun hHeld => ?_)
        clear hK K
        try simp only [Act.put, List.getElem_toArray, List.getElem_cons_succ, List.getElem_cons_zero, List.setIfInBounds_toArray, List.set_cons_zero, List.set_cons_succ]
        refine wpAnyH_ready (rs := [11]) (by kernel_rfl) (by simp) (AllReadyH.cons (o := _) rfl (fun K hK => ?_) AllReadyH.nil)
        try simp only [Act.put, List.getElem_toArray, List.getElem_cons_succ, List.getElem_cons_zero, List.setIfInBounds_toArray, List.set_cons_zero, List.set_cons_succ]
        rw [if_pos (by rfl)]
        first
        | refine op_append_row _ (by rfl) _ _ 24 (by rfl) w4'.heap.size 84 i0 (.agg #[.int .i64 0, .slice none 0 0]) 2 32 Try.underlying24 hi hz0 hz1 hz2 rfl (by decide) pv (0 + k) ([] ++ xs.take (k * 2)) (by rfl) pho w4.heap.size (some ad) (q.rs.length - (k + 1)) _ (xs.drop ((k + 1) * 2)) (by rfl) (.inl (pnil hcap)) pxd px3 (by unfold maxLen; omega) (by omega) pb.size ?_
        | refine op_append_row _ (by rfl) _ _ 24 (by rfl) w4'.heap.size 84 i0 (.agg #[.int .i64 0, .slice none 0 0]) 2 32 Try.underlying24 hi hz0 hz1 hz2 rfl (by decide) pv (0 + k) ([] ++ xs.take (k * 2)) (by rfl) pho w4.heap.size (some (ad.add ((k + 1) * 2))) (q.rs.length - (k + 1)) _ (xs.drop ((k + 1) * 2)) (by rfl) ((hxr.drop_ ((k + 1) * 2)).below bA2 (Nat.le_refl _)) pxd px3 (by unfold maxLen; omega) (by omega) pb.size ?_
        intro pv2 pw2 pho2 phg2
        have pb2 : Below w4'.heap.size w4' pw2 := pb.grown phg2 pb.size (fun j hj => (pl j hj).1)
        have bA3 := al.trans (pb2.mono al.size)
        obtain ⟨ol, hol⟩ : ∃ ol, Hid (ol = q.rs.take k ++ q.rs.drop (k + 1)) := ⟨_, rfl⟩
        obtain ⟨AN, cN, rfl, hcN⟩ : ∃ (A : Option Addr) (c : Nat), pv2 = .slice A ol.length c ∧ ol.length ≤ c := by
          rw [hol.out]
          obtain ⟨A, c, e, hc, -⟩ := (((hxc.take_ k).app (hxc.drop_ (k + 1))).below bA3 (Nat.le_refl _)).ars bA3.size pho2 (by simp; omega)
          exact ⟨A, c, e, hc⟩
        have x9p := x9.later pb2
        have x1p := x1'.later pb2
        refine hK.out _ _ (HK.out _ pb2) (fun hHeld => ?_)
        clear hK K
        try simp only [Act.put, List.getElem_toArray, List.getElem_cons_succ, List.getElem_cons_zero, List.setIfInBounds_toArray, List.set_cons_zero, List.set_cons_succ]
        refine wpAnyH_take (i := 12) (oi := _) (v := ?_) rfl (by kernel_rfl) (by kernel_rfl) (by kernel_rfl) (fun _ _ _ h => h) (Or.inl ⟨by rfl, ?_⟩) hHeld ?_
        rotate_left
        · (intro w' hSw; (try dsimp only at hSw); go_simp <;> with_reducible rfl)
        try simp only [Act.put, List.getElem_toArray, List.getElem_cons_succ, List.getElem_cons_zero, List.setIfInBounds_toArray, List.set_cons_zero, List.set_cons_succ]
        obtain ⟨z0, z1, zf⟩ := id x9p.reads
        have zf1 := zf 1
        clear zf
        refine wpAnyH_ready (rs := [13]) (by kernel_rfl) (by simp) (AllReadyH.cons (o := _) rfl (fun K hK => ?_) AllReadyH.nil)
        try simp only [Act.put, List.getElem_toArray, List.getElem_cons_succ, List.getElem_cons_zero, List.setIfInBounds_toArray, List.set_cons_zero, List.set_cons_succ]
        go_simp
        have hne : g1 ≠ g9 := by have := x1.lt; omega
        have x1v := x1p.far (p := ⟨g9, 1, none⟩) hne (.slice AN ol.length cN)
        refine hK.out _ _ (x1v.reads.2.1) (fun hHeld => ?_)
        clear hK K
        try simp only [Act.put, List.getElem_toArray, List.getElem_cons_succ, List.getElem_cons_zero, List.setIfInBounds_toArray, List.set_cons_zero, List.set_cons_succ]
        refine wpAnyH_done (by kernel_rfl) ?_ _
        clear hHeld z0 z1 zf1
        have bV := bA3.setCell (p := ⟨g9, 1, none⟩) (by show w4.heap.size ≤ g9; omega) (.slice AN ol.length cN)
        have rV := row_kept pho2 (by decide) (but_set pw2 g9 1 (.slice AN ol.length cN)) x9p.row_type
        have x9v := x9p.set1 (.slice AN ol.length cN)
        obtain ⟨V0, hV0⟩ : ∃ x, pw2.setCell ⟨g9, 1, none⟩ (.slice AN ol.length cN) = x := ⟨_, rfl⟩
        rw [hV0] at bV rV x9v ⊢
        clear hV0 x1v x1p x9p
        have hoN : Ars V0 V0.heap.size AN ol := by
          obtain ⟨A, c, e, -, ho⟩ := (((hxc.take_ k).app (hxc.drop_ (k + 1))).below bV (Nat.le_refl _)).ars bV.size rV (by simp; omega)
          injection e with e _ _
          rw [e, hol.out]
          exact ho
        have hqp : QV ⟨q.m, ol⟩ := by rw [hol.out]; exact part_valid hqv k hkl
        have qN : Quar V0 V0.heap.size (.agg #[.slice A3 q.m.length c3, .slice AN ol.length cN]) ⟨q.m, ol⟩ := ⟨A3, c3, AN, cN, rfl, (om.below bV (Nat.le_refl _)).more bV.size, hcm, hoN, hcN⟩
        have CV : Hid (Calls Try.prog 29 #[.agg #[.slice A3 q.m.length c3, .slice AN ol.length cN]] V0 (Ret (.bool true) V0)) := implQuarantineValid_is true _ ⟨q.m, ol⟩ _ qN (qv_sf hqp).2 ⟨fun _ => hqp, fun _ => rfl⟩
        obtain ⟨y90, y91, -⟩ := id x9v.reads
        replace bw := bw.trans (bV.mono bw.size)
        clear hqp qN hoN rV pho2 phg2 pho phg pb pb2 pl pN pB bA bA2 bA3 pxt pxd px2 px3 pnil hol
        go_wp2_with fail
        refine CV.out.mono ?_
        rintro e w9 ⟨rfl, d⟩
        replace bw := bw.trans (d.mono bw.size)
        go_wp2
        go_ret
        exact .mk_ bw
theorem FnQuarPart_any (A : Option Addr) (c : Nat) (bs : List Int) (A' : Option Addr) (c' : Nat) (bs' : List Int) (w : World) (f1 : Row w w.heap.size A (bs.map (Value.int .u8))) (f2 : bs.length ≤ c) (f3 : c ≤ maxLen) (f4 : ∀ n ∈ bs, 0 ≤ n ∧ n < 256) (g1 : Row w w.heap.size A' (bs'.map (Value.int .u8))) (g2 : bs'.length ≤ c') (g3 : c' ≤ maxLen) (g4 : ∀ n ∈ bs', 0 ≤ n ∧ n < 256) :
    Calls Try.prog 11 #[.slice A bs.length c, .slice A' bs'.length c'] w (Ret (.bool true) w) := by
  by_cases hl : bs.length ≤ 1048576 ∧ bs'.length ≤ 1048576
  · exact FnQuarPart_yes A c bs A' c' bs' w ⟨f1, f2, f3, f4⟩ ⟨g1, g2, g3, g4⟩ hl.1 hl.2
  · exact FnQuarPart_no A c bs A' c' bs' w ⟨f1, f2, f3, f4⟩ ⟨g1, g2, g3, g4⟩ hl
end Go.Proofs.Ytblknnifccmpkaa
