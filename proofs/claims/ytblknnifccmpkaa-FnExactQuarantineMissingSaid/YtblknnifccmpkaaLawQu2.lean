/-
  Walks of the laws on areas discarded.
-/
import Derived.Test.YtblknnifccmpkaaLawQu1
import Derived.Test.YtblknnifccmpkaaG7C
namespace Go.Proofs.Ytblknnifccmpkaa
open Go.RowKit Wo Pu Qu

theorem ar_nodup {q : Qr} (hq : QV q) (t : Int) : (arOf q.rs t).Nodup := by
  obtain ⟨r, h⟩ := idx_ex q.rs t
  rcases h with ⟨_, _, e⟩ | ⟨k, hk, _, _, _, e⟩
  · rw [e]; exact List.nodup_nil
  · rw [e]; exact stB_nodup (storeB_parts (hq.2.1.mem _ (List.getElem_mem hk)).2.2.1).1
theorem FnDiscardPut_no (A : Option Addr) (c : Nat) (bs : List Int) (w : World) (h : Code_ w A c bs) (hl : ¬ bs.length ≤ 1048576) :
    Calls Try.prog 8 #[.slice A bs.length c] w (Ret (.bool true) w) := by
  have hc := h.2.1
  have hm := h.2.2.1
  unfold maxLen at hm
  go_enter Try.func8, Try.ntmps8
  go_wp2
  go_ret
  exact .mk_ (Below.refl _ _)
set_option linter.unusedSimpArgs false in
set_option maxRecDepth 100000 in
set_option maxHeartbeats 4000000 in
theorem FnDiscardPut_yes (A : Option Addr) (c : Nat) (bs : List Int) (w : World) (h : Code_ w A c bs) (hl : bs.length ≤ 1048576) :
    Calls Try.prog 8 #[.slice A bs.length c] w (Ret (.bool true) w) := by
  go_enter Try.func8, Try.ntmps8
  go_wp2_with fail
  refine (DrawQuarantinePut_any A c bs _ h).mono ?_
  rintro e w1 ⟨v1, q, t, AL, cL, os, rfl, q1, f1, ob, hol, -, hov, bw⟩
  have FO := fit_of hov
  have hol' : os.length ≤ 1048576 := by omega
  obtain ⟨A3, c3, A4, c4, rfl, -, -, -, -⟩ := id q1
  obtain ⟨y, hy⟩ := put_way q t os
  have HSF := put_sf hy
  obtain ⟨q', hq'⟩ : ∃ q', y.q q = q' := ⟨_, rfl⟩
  rw [hq'] at HSF
  obtain ⟨HSM, HFT⟩ := HSF
  have HY := hid hy
  have HQ := hid hq'
  clear hy hq'
  unfold qv at *
  obtain ⟨g1, hg⟩ : ∃ g, (w1).heap.size = g := ⟨_, rfl⟩
  have al := (Below.refl (w1).heap.size w1).alloc (Nat.le_refl _) (.cells #[.slice A3 q.m.length c3, .slice A4 q.rs.length c4] 26)
  have xn := BlkQ.new_ w1 26 (.slice A3 q.m.length c3) (.slice A4 q.rs.length c4)
  obtain ⟨w1', hw'⟩ : ∃ x, (w1).alloc (.cells #[.slice A3 q.m.length c3, .slice A4 q.rs.length c4] 26) = x := ⟨_, rfl⟩
  rw [hw'] at al xn
  rw [hg] at xn
  have x1 := xn
  clear xn
  have zz := (al).size
  try (replace ob := objs_on ob al)
  replace q1 := q1.on al zz
  replace bw := bw.trans ((al).mono bw.size)
  clear zz
  clear al
  obtain ⟨y10, y11, -⟩ := id x1.reads
  go_wp2_with fail
  refine (implQuarantinePut_is y _ q t AL cL os _ q1 f1 ob FO hol' HY.out).mono ?_
  rintro e w3 o2
  unfold Changed at o2
  rw [HQ.out] at o2
  obtain ⟨v2, rfl, o2, d2⟩ := o2
  have q2 := o2.quar
  obtain ⟨A5, c5, A6, c6, rfl, -, -, -, -⟩ := id o2
  clear o2 y10 y11
  unfold qv at *
  replace x1 := x1.later d2
  have zz := (d2).size
  try (replace ob := objs_on ob d2)
  replace q1 := q1.on d2 zz
  replace bw := bw.trans ((d2).mono bw.size)
  clear zz
  obtain ⟨g2, hg⟩ : ∃ g, (w3).heap.size = g := ⟨_, rfl⟩
  have al := (Below.refl (w3).heap.size w3).alloc (Nat.le_refl _) (.cells #[.slice A5 q'.m.length c5, .slice A6 q'.rs.length c6] 26)
  have xn := BlkQ.new_ w3 26 (.slice A5 q'.m.length c5) (.slice A6 q'.rs.length c6)
  obtain ⟨w3', hw'⟩ : ∃ x, (w3).alloc (.cells #[.slice A5 q'.m.length c5, .slice A6 q'.rs.length c6] 26) = x := ⟨_, rfl⟩
  rw [hw'] at al xn
  rw [hg] at xn
  have x2 := xn
  clear xn d2
  replace x1 := x1.later al
  have zz := (al).size
  try (replace ob := objs_on ob al)
  replace q1 := q1.on al zz
  replace bw := bw.trans ((al).mono bw.size)
  clear zz
  replace q2 := q2.on al al.size
  clear al
  obtain ⟨y10, y11, -⟩ := id x1.reads
  obtain ⟨y20, y21, -⟩ := id x2.reads
  go_wp2_with fail
  refine (specQuarantinePut_is y _ q t AL cL os _ q1 f1 ob FO hol' HY.out).mono ?_
  rintro e w5 o3
  unfold Changed at o3
  rw [HQ.out] at o3
  obtain ⟨v3, rfl, o3, d3⟩ := o3
  have q3 := o3.quar
  obtain ⟨A7, c7, A8, c8, rfl, -, -, -, -⟩ := id o3
  clear o3 y10 y11 y20 y21
  unfold qv at *
  replace x2 := x2.later d3
  replace q2 := q2.on d3 (d3).size
  replace x1 := x1.later d3
  have zz := (d3).size
  try (replace ob := objs_on ob d3)
  replace q1 := q1.on d3 zz
  replace bw := bw.trans ((d3).mono bw.size)
  clear zz
  obtain ⟨g3, hg⟩ : ∃ g, (w5).heap.size = g := ⟨_, rfl⟩
  have al := (Below.refl (w5).heap.size w5).alloc (Nat.le_refl _) (.cells #[.slice A7 q'.m.length c7, .slice A8 q'.rs.length c8] 26)
  have xn := BlkQ.new_ w5 26 (.slice A7 q'.m.length c7) (.slice A8 q'.rs.length c8)
  obtain ⟨w5', hw'⟩ : ∃ x, (w5).alloc (.cells #[.slice A7 q'.m.length c7, .slice A8 q'.rs.length c8] 26) = x := ⟨_, rfl⟩
  rw [hw'] at al xn
  rw [hg] at xn
  have x3 := xn
  clear xn d3
  replace x2 := x2.later al
  replace q2 := q2.on al (al).size
  replace x1 := x1.later al
  have zz := (al).size
  try (replace ob := objs_on ob al)
  replace q1 := q1.on al zz
  replace bw := bw.trans ((al).mono bw.size)
  clear zz
  replace q3 := q3.on al al.size
  clear al
  obtain ⟨y10, y11, -⟩ := id x1.reads
  obtain ⟨y20, y21, -⟩ := id x2.reads
  obtain ⟨y30, y31, -⟩ := id x3.reads
  cases y with
  | bad =>
    unfold QWay.ok
    go_wp2_with fail
    refine (sameQuarantine_is _ _ q' _ q2 q3 HSM).mono ?_
    rintro e w7 ⟨rfl, d⟩
    clear y10 y11 y20 y21 y30 y31
    replace x3 := x3.later d
    replace q3 := q3.on d (d).size
    replace x2 := x2.later d
    replace q2 := q2.on d (d).size
    replace x1 := x1.later d
    have zz := (d).size
    try (replace ob := objs_on ob d)
    replace q1 := q1.on d zz
    replace bw := bw.trans ((d).mono bw.size)
    clear zz
    clear d
    obtain ⟨y10, y11, -⟩ := id x1.reads
    obtain ⟨y20, y21, -⟩ := id x2.reads
    obtain ⟨y30, y31, -⟩ := id x3.reads
    go_wp2_with fail
    refine (sameQuarantine_is _ _ q' _ q2 q3 HSM).mono ?_
    rintro e w8 ⟨rfl, d⟩
    clear y10 y11 y20 y21 y30 y31
    replace x3 := x3.later d
    replace q3 := q3.on d (d).size
    replace x2 := x2.later d
    replace q2 := q2.on d (d).size
    replace x1 := x1.later d
    have zz := (d).size
    try (replace ob := objs_on ob d)
    replace q1 := q1.on d zz
    replace bw := bw.trans ((d).mono bw.size)
    clear zz
    clear d
    obtain ⟨y10, y11, -⟩ := id x1.reads
    obtain ⟨y20, y21, -⟩ := id x2.reads
    obtain ⟨y30, y31, -⟩ := id x3.reads
    go_wp2
    go_ret
    exact .mk_ bw
  | no =>
    unfold QWay.ok
    go_wp2_with fail
    refine (sameQuarantine_is _ _ q' _ q2 q3 HSM).mono ?_
    rintro e w7 ⟨rfl, d⟩
    clear y10 y11 y20 y21 y30 y31
    replace x3 := x3.later d
    replace q3 := q3.on d (d).size
    replace x2 := x2.later d
    replace q2 := q2.on d (d).size
    replace x1 := x1.later d
    have zz := (d).size
    try (replace ob := objs_on ob d)
    replace q1 := q1.on d zz
    replace bw := bw.trans ((d).mono bw.size)
    clear zz
    clear d
    obtain ⟨y10, y11, -⟩ := id x1.reads
    obtain ⟨y20, y21, -⟩ := id x2.reads
    obtain ⟨y30, y31, -⟩ := id x3.reads
    go_wp2_with fail
    refine (sameQuarantine_is _ _ q' _ q2 q3 HSM).mono ?_
    rintro e w8 ⟨rfl, d⟩
    clear y10 y11 y20 y21 y30 y31
    replace x3 := x3.later d
    replace q3 := q3.on d (d).size
    replace x2 := x2.later d
    replace q2 := q2.on d (d).size
    replace x1 := x1.later d
    have zz := (d).size
    try (replace ob := objs_on ob d)
    replace q1 := q1.on d zz
    replace bw := bw.trans ((d).mono bw.size)
    clear zz
    clear d
    obtain ⟨y10, y11, -⟩ := id x1.reads
    obtain ⟨y20, y21, -⟩ := id x2.reads
    obtain ⟨y30, y31, -⟩ := id x3.reads
    go_wp2
    go_ret
    exact .mk_ bw
  | yes q0 =>
    unfold QWay.ok
    have HV : Hid ((arOf q.rs t = [] → IsDis q' t (.yes q)) ∧ (arOf q.rs t).length ≤ (arOf q'.rs t).length ∧ QV q) := by
      obtain ⟨⟨hq, ht, hl, hn⟩, x, z, hc, e⟩ := HY.out
      have e' : q0 = q' := HQ.out
      have hv := put_valid hq ht hn hc
      rw [← e', e]
      refine ⟨fun h0 => ⟨⟨hv.1, ht⟩, hv.2.2, ?_⟩, ?_, hq⟩
      · show q = ⟨q.m, setA (setA q.rs t x) t []⟩
        rw [del_put hq ht hn hc h0]
      · show _ ≤ (arOf (setA q.rs t x) t).length
        rw [hv.2.1, if_pos rfl]
        exact sub_length (ar_nodup hq t) fun o ho => (hc.1.2 o).2 (.inl ho)
    go_wp2_with fail
    refine (sameQuarantine_is _ _ q' _ q2 q3 HSM).mono ?_
    rintro e w7 ⟨rfl, d⟩
    clear y10 y11 y20 y21 y30 y31
    replace x3 := x3.later d
    replace q3 := q3.on d (d).size
    replace x2 := x2.later d
    replace q2 := q2.on d (d).size
    replace x1 := x1.later d
    have zz := (d).size
    try (replace ob := objs_on ob d)
    replace q1 := q1.on d zz
    replace bw := bw.trans ((d).mono bw.size)
    clear zz
    clear d
    obtain ⟨y10, y11, -⟩ := id x1.reads
    obtain ⟨y20, y21, -⟩ := id x2.reads
    obtain ⟨y30, y31, -⟩ := id x3.reads
    go_wp2_with fail
    refine (areaOf_any _ q t _ q1 f1.2.2.1).mono ?_
    rintro e w8 ⟨AA, cA, rfl, hcA, obA, d⟩
    clear y10 y11 y20 y21 y30 y31
    replace x3 := x3.later d
    replace q3 := q3.on d (d).size
    replace x2 := x2.later d
    replace q2 := q2.on d (d).size
    replace x1 := x1.later d
    have zz := (d).size
    try (replace ob := objs_on ob d)
    replace q1 := q1.on d zz
    replace bw := bw.trans ((d).mono bw.size)
    clear zz
    clear d
    obtain ⟨y10, y11, -⟩ := id x1.reads
    obtain ⟨y20, y21, -⟩ := id x2.reads
    obtain ⟨y30, y31, -⟩ := id x3.reads
    by_cases hz : (arOf q.rs t).length = 0
    · have W2 := hid (HV.out.1 (List.length_eq_zero_iff.1 hz))
      go_wp2_with fail
      refine (implQuarantineDiscard_is (.yes q) _ q' t w8 q2 HFT W2.out).mono ?_
      rintro e w9 o4
      replace o4 : NewQB q _ w8 e w9 := o4
      obtain ⟨v4, rfl, o4, d4⟩ := o4
      have q4 := o4.quar
      obtain ⟨A9, c9, A10, c10, rfl, -, -, -, -⟩ := id o4
      clear o4 y10 y11 y20 y21 y30 y31
      unfold qv at *
      replace x3 := x3.later d4
      replace q3 := q3.on d4 (d4).size
      replace x2 := x2.later d4
      replace q2 := q2.on d4 (d4).size
      replace x1 := x1.later d4
      have zz := (d4).size
      try (replace ob := objs_on ob d4)
      replace q1 := q1.on d4 zz
      replace bw := bw.trans ((d4).mono bw.size)
      clear zz
      obtain ⟨g4, hg⟩ : ∃ g, (w9).heap.size = g := ⟨_, rfl⟩
      have al := (Below.refl (w9).heap.size w9).alloc (Nat.le_refl _) (.cells #[.slice A9 (q).m.length c9, .slice A10 (q).rs.length c10] 26)
      have xn := BlkQ.new_ w9 26 (.slice A9 (q).m.length c9) (.slice A10 (q).rs.length c10)
      obtain ⟨w9', hw'⟩ : ∃ x, (w9).alloc (.cells #[.slice A9 (q).m.length c9, .slice A10 (q).rs.length c10] 26) = x := ⟨_, rfl⟩
      rw [hw'] at al xn
      rw [hg] at xn
      have x4 := xn
      clear xn d4
      replace x3 := x3.later al
      replace q3 := q3.on al (al).size
      replace x2 := x2.later al
      replace q2 := q2.on al (al).size
      replace x1 := x1.later al
      have zz := (al).size
      try (replace ob := objs_on ob al)
      replace q1 := q1.on al zz
      replace bw := bw.trans ((al).mono bw.size)
      clear zz
      replace q4 := q4.on al al.size
      clear al
      obtain ⟨y10, y11, -⟩ := id x1.reads
      obtain ⟨y20, y21, -⟩ := id x2.reads
      obtain ⟨y40, y41, -⟩ := id x4.reads
      unfold QWay.ok
      go_wp2_with fail
      refine (sameQuarantine_is _ _ q _ q4 q1 HV.out.2.2.small).mono ?_
      rintro e w10 ⟨rfl, d⟩
      replace bw := bw.trans (d.mono bw.size)
      go_wp2
      go_ret
      exact .mk_ bw
    · go_wp2_with fail
      have dr := (Below.refl w8.heap.size w8).drew
      clear y10 y11 y20 y21 y30 y31
      replace x2 := x2.later dr
      replace q2 := q2.on dr (dr).size
      replace x1 := x1.later dr
      have zz := (dr).size
      try (replace ob := objs_on ob dr)
      replace q1 := q1.on dr zz
      replace bw := bw.trans ((dr).mono bw.size)
      clear zz
      clear dr
      have HX : Hid (∀ {x : World} {u0 u1 v0 v1 : Value}, BlkQ x g1 26 u0 u1 → BlkQ x g2 26 v0 v1 → x.cell? ⟨g1, 0, none⟩ = some u0 ∧ x.cell? ⟨g1, 1, none⟩ = some u1 ∧ x.cell? ⟨g2, 0, none⟩ = some v0 ∧ x.cell? ⟨g2, 1, none⟩ = some v1) := fun h k => ⟨h.reads.1, h.reads.2.1, k.reads.1, k.reads.2.1⟩
      refine wp_region_held_drew (S := fun x => x.cell? ⟨g1, 0, none⟩ = some (.slice A3 q.m.length c3) ∧ x.cell? ⟨g1, 1, none⟩ = some (.slice A4 q.rs.length c4) ∧ x.cell? ⟨g2, 0, none⟩ = some (.slice A5 q'.m.length c5) ∧ x.cell? ⟨g2, 1, none⟩ = some (.slice A6 q'.rs.length c6)) (by kernel_rfl) (HX.out x1 x2) (fun hHeld => ?_)
      refine wpAnyH_take (i := 0) (oi := _) (v := ?_) rfl (by kernel_rfl) (by kernel_rfl) (by kernel_rfl) (fun _ _ _ h => h) (Or.inl ⟨by rfl, ?_⟩) hHeld ?_
      rotate_left
      · (intro w' hSw; (try dsimp only at hSw); go_simp <;> with_reducible rfl)
      try simp only [Act.put, List.getElem_toArray, List.getElem_cons_succ, List.getElem_cons_zero, List.setIfInBounds_toArray, List.set_cons_zero, List.set_cons_succ]
      refine wpAnyH_take (i := 1) (oi := _) (v := ?_) rfl (by kernel_rfl) (by kernel_rfl) (by kernel_rfl) (fun _ _ _ h => h) (Or.inl ⟨by rfl, ?_⟩) hHeld ?_
      rotate_left
      · (intro w' hSw; (try dsimp only at hSw); go_simp <;> with_reducible rfl)
      try simp only [Act.put, List.getElem_toArray, List.getElem_cons_succ, List.getElem_cons_zero, List.setIfInBounds_toArray, List.set_cons_zero, List.set_cons_succ]
      refine wpAnyH_take (i := 4) (oi := _) (v := ?_) rfl (by kernel_rfl) (by kernel_rfl) (by kernel_rfl) (fun _ _ _ h => h) (Or.inl ⟨by rfl, ?_⟩) hHeld ?_
      rotate_left
      · (intro w' hSw; (try dsimp only at hSw); go_simp <;> with_reducible rfl)
      try simp only [Act.put, List.getElem_toArray, List.getElem_cons_succ, List.getElem_cons_zero, List.setIfInBounds_toArray, List.set_cons_zero, List.set_cons_succ]
      refine wpAnyH_take (i := 5) (oi := _) (v := ?_) rfl (by kernel_rfl) (by kernel_rfl) (by kernel_rfl) (fun _ _ _ h => h) (Or.inl ⟨by rfl, ?_⟩) hHeld ?_
      rotate_left
      · (intro w' hSw; (try dsimp only at hSw); go_simp <;> with_reducible rfl)
      try simp only [Act.put, List.getElem_toArray, List.getElem_cons_succ, List.getElem_cons_zero, List.setIfInBounds_toArray, List.set_cons_zero, List.set_cons_succ]
      refine wpAnyH_ready (rs := [2]) (by kernel_rfl) (by simp) (AllReadyH.cons (o := _) rfl (fun K hK => ?_) AllReadyH.nil)
      try simp only [Act.put, List.getElem_toArray, List.getElem_cons_succ, List.getElem_cons_zero, List.setIfInBounds_toArray, List.set_cons_zero, List.set_cons_succ]
      go_simp
      go_at_call 25
      refine (areaOf_any _ q' t _ q2 HFT.2.2.1).mono ?_
      rintro e w9 ⟨A9, c9, rfl, -, -, d⟩
      replace x2 := x2.later d
      replace q2 := q2.on d (d).size
      replace x1 := x1.later d
      have zz := (d).size
      try (replace ob := objs_on ob d)
      replace q1 := q1.on d zz
      replace bw := bw.trans ((d).mono bw.size)
      clear zz
      clear d
      refine hK.out _ _ (HX.out x1 x2) (fun hHeld => ?_)
      clear hK K
      try simp only [Act.put, List.getElem_toArray, List.getElem_cons_succ, List.getElem_cons_zero, List.setIfInBounds_toArray, List.set_cons_zero, List.set_cons_succ]
      refine wpAnyH_take (i := 3) (oi := _) (v := ?_) rfl (by kernel_rfl) (by kernel_rfl) (by kernel_rfl) (fun _ _ _ h => h) (Or.inl ⟨by rfl, ?_⟩) hHeld ?_
      rotate_left
      · (intro w' hSw; (try dsimp only at hSw); go_simp <;> with_reducible rfl)
      try simp only [Act.put, List.getElem_toArray, List.getElem_cons_succ, List.getElem_cons_zero, List.setIfInBounds_toArray, List.set_cons_zero, List.set_cons_succ]
      refine wpAnyH_ready (rs := [6]) (by kernel_rfl) (by simp) (AllReadyH.cons (o := _) rfl (fun K hK => ?_) AllReadyH.nil)
      try simp only [Act.put, List.getElem_toArray, List.getElem_cons_succ, List.getElem_cons_zero, List.setIfInBounds_toArray, List.set_cons_zero, List.set_cons_succ]
      go_simp
      go_at_call 25
      refine (areaOf_any _ q t _ q1 f1.2.2.1).mono ?_
      rintro e w10 ⟨A10, c10, rfl, -, -, d⟩
      replace x2 := x2.later d
      replace q2 := q2.on d (d).size
      replace x1 := x1.later d
      have zz := (d).size
      try (replace ob := objs_on ob d)
      replace q1 := q1.on d zz
      replace bw := bw.trans ((d).mono bw.size)
      clear zz
      clear d
      refine hK.out _ _ (HX.out x1 x2) (fun hHeld => ?_)
      clear hK K
      try simp only [Act.put, List.getElem_toArray, List.getElem_cons_succ, List.getElem_cons_zero, List.setIfInBounds_toArray, List.set_cons_zero, List.set_cons_succ]
      refine wpAnyH_take (i := 7) (oi := _) (v := ?_) rfl (by kernel_rfl) (by kernel_rfl) (by kernel_rfl) (fun _ _ _ h => h) (Or.inl ⟨by rfl, ?_⟩) hHeld ?_
      rotate_left
      · (intro w' hSw; (try dsimp only at hSw); go_simp <;> with_reducible rfl)
      try simp only [Act.put, List.getElem_toArray, List.getElem_cons_succ, List.getElem_cons_zero, List.setIfInBounds_toArray, List.set_cons_zero, List.set_cons_succ]
      refine wpAnyH_take (i := 8) (oi := _) (v := ?_) rfl (by kernel_rfl) (by kernel_rfl) (by kernel_rfl) (fun _ _ _ h => h) (Or.inl ⟨by rfl, ?_⟩) hHeld ?_
      rotate_left
      · (intro w' hSw; (try dsimp only at hSw); go_simp <;> with_reducible rfl)
      try simp only [Act.put, List.getElem_toArray, List.getElem_cons_succ, List.getElem_cons_zero, List.setIfInBounds_toArray, List.set_cons_zero, List.set_cons_succ]
      refine wpAnyH_take (i := 9) (oi := _) (v := ?_) rfl (by kernel_rfl) (by kernel_rfl) (by kernel_rfl) (fun _ _ _ h => h) (Or.inl ⟨by rfl, ?_⟩) hHeld ?_
      rotate_left
      · (intro w' hSw; (try dsimp only at hSw); go_simp <;> with_reducible rfl)
      try simp only [Act.put, List.getElem_toArray, List.getElem_cons_succ, List.getElem_cons_zero, List.setIfInBounds_toArray, List.set_cons_zero, List.set_cons_succ]
      refine wpAnyH_done (by kernel_rfl) ?_ _
      have ge : decide ((arOf q.rs t).length ≤ (arOf q'.rs t).length) = true := by have := HV.out.2.1; simpa using this
      clear hHeld
      rw [ge]
      go_wp2
      go_ret
      exact .mk_ bw
theorem FnDiscardPut_any (A : Option Addr) (c : Nat) (bs : List Int) (w : World) (f1 : Row w w.heap.size A (bs.map (Value.int .u8))) (f2 : bs.length ≤ c) (f3 : c ≤ maxLen) (f4 : ∀ n ∈ bs, 0 ≤ n ∧ n < 256) :
    Calls Try.prog 8 #[.slice A bs.length c] w (Ret (.bool true) w) := by
  by_cases hl : bs.length ≤ 1048576
  · exact FnDiscardPut_yes A c bs w ⟨f1, f2, f3, f4⟩ hl
  · exact FnDiscardPut_no A c bs w ⟨f1, f2, f3, f4⟩ hl
end Go.Proofs.Ytblknnifccmpkaa
