/- The coordinator with the slices $SA and $SB is stored as the answer, with the word $BB. -/
/- Laws on coordinators: a coordinator is boxed. -/
/- On to the world behind D. -/
/- An exact law begins: the argument's box, its size, a copy for the model. -/
/- The program's own copy of the argument is boxed. -/
/- The program's copy is as the argument; the region draws. -/
/- Laws on functions that answer numbers. -/
/- What the boxes hold is read again. -/
/- The coordinator with the slices P4 and P5 is boxed as P6, in block P7, behind it the world P3; ahead of region P1. -/
/- The draw, the program's answer, the model's, and that they are the same: behind it w5, all facts on it by way of dx. -/
/-
  Walk: the refs of a shard after the first transactions of the order, by the program.
-/
import Derived.Test.YtjplondblkkpmaaSetI
import Derived.Test.YtjplondblkkpmaaValK
namespace Go.Proofs.Ytjplondblkkpmaa
open Go.RowKit Wo Pu Rf Co

/- The array is loaded. -/
/- The updates for the shard. -/
/- The new array is made and stored. -/
set_option linter.unusedSimpArgs false in
set_option linter.unusedVariables false in
set_option maxRecDepth 100000 in
set_option maxHeartbeats 16000000 in
theorem refsAfter_is (v : Value) (q : Crd) (s : Int) (m : Nat) (w : World) (h : Crdd w w.heap.size v q) (hf : FitC q) (hv : CV q) (hm : m ≤ q.os.length) :
    Calls Try.prog 38 #[v, .int .i64 s, .int .i64 m] w (RefsA (refsC q s m) w) := by
  have HF := hid hf
  have HVq := hid hv
  have hf1 := hf.ts
  have hf2 := hf.os
  obtain ⟨A, c, A2, c2, rfl, hT, hc, hO, hc2⟩ := h
  clear hf hv
  unfold crV at *
  have b1 := ((Below.refl w.heap.size w).alloc (Nat.le_refl _) (.cells #[.slice A q.ts.length c, .slice A2 q.os.length c2] 26)).alloc (by simp) (.cells (ints [0, 0, 0, 0]).toArray 61)
  have x0 := (Blk2s.new_ w 26 (.slice A q.ts.length c) (.slice A2 q.os.length c2)).alloc (.cells (ints [0, 0, 0, 0]).toArray 61)
  have z0 := Arr4.new_ (w.alloc (.cells #[.slice A q.ts.length c, .slice A2 q.os.length c2] 26)) 61 (ints [0, 0, 0, 0])
  rw [World.size_alloc] at z0
  go_enter Try.func38, Try.ntmps38
  go_upto_region 1 with fail
  obtain ⟨w1, hw1⟩ : ∃ x, (w.alloc (.cells #[.slice A q.ts.length c, .slice A2 q.os.length c2] 26)).alloc (.cells (ints [0, 0, 0, 0]).toArray 61) = x := ⟨_, rfl⟩
  have hw1' : (w.alloc (.cells #[.slice A q.ts.length c, .slice A2 q.os.length c2] 26)).alloc (.cells #[.int .i64 0, .int .i64 0, .int .i64 0, .int .i64 0] 61) = w1 := hw1
  try rw [hw1']
  try rw [hw1]
  rw [hw1] at b1 x0 z0
  clear hw1 hw1'
  go_wp2_with fail
  refine (newRefs_is _).mono ?_
  rintro e w3 ⟨rfl, d⟩
  have b3 := b1.trans (d.mono b1.size)
  have x3 := x0.later d
  have z3 := z0.below d z0.lt
  have hs3 : (w3.alloc (.cells (ints [0, 0, 0, 0]).toArray 61)).heap[w3.heap.size]? = some (.cells (ints [0, 0, 0, 0]).toArray 61 (0, 0)) := heap_alloc_new w3 _
  have d4 := (Below.refl w3.heap.size w3).alloc (Nat.le_refl _) (.cells (ints [0, 0, 0, 0]).toArray 61)
  have d5 := below_setRow d4 (Nat.le_refl _) (ints [-1, -1, -1, -1]).toArray
  have x5 := x3.later d5
  have z5 := z3.below d5 z3.lt
  have b5 := b3.trans (d5.mono b3.size)
  have a5 : Arr4 ((w3.alloc (.cells (ints [0, 0, 0, 0]).toArray 61)).setRow w3.heap.size (ints [-1, -1, -1, -1]).toArray) w3.heap.size 61 (ints [-1, -1, -1, -1]) := setRow_heap _ _ _ _ _ _ hs3
  have hg3 : w.heap.size + 1 < w3.heap.size := z3.lt
  clear d d4 d5 x0 b1 x3 b3 z0 z3
  go_upto_region 2 with (refine wpList_store_rowTo rfl 61 _ _ rfl rfl w3.heap.size (ints [-1, -1, -1, -1]).toArray rfl rfl 61 (ints [0, 0, 0, 0]).toArray hs3 info_ra rfl (ints_ones _) ?_)
  clear hs3
  obtain ⟨w5, hw5⟩ : ∃ x, (w3.alloc (.cells (ints [0, 0, 0, 0]).toArray 61)).setRow w3.heap.size (ints [-1, -1, -1, -1]).toArray = x := ⟨_, rfl⟩
  obtain ⟨g, hgg⟩ : ∃ x, w3.heap.size = x := ⟨_, rfl⟩
  have hw5' : (w3.alloc (.cells #[.int .i64 0, .int .i64 0, .int .i64 0, .int .i64 0] 61)).setRow w3.heap.size (ints [-1, -1, -1, -1]).toArray = w5 := hw5
  try rw [hw5']
  try rw [hw5]
  rw [hw5] at a5 x5 b5 z5
  rw [hgg] at a5 hg3
  try rw [hgg]
  clear hw5 hw5' hgg
  obtain ⟨y0, y1, -⟩ := id x5.reads
  have i0 : (0 : Int) ≤ (m : Int) := by omega
  have i1 : (m : Int) ≤ (c2 : Int) := by omega
  go_wp2_with fail
  go_loopw [16] (fun i wr => ∃ j : Nat, j ≤ m ∧ i = .int .i64 j ∧ Arr4 wr g 61 (ints (refsC q s j)) ∧ Arr4 wr (w.heap.size + 1) 61 (ints [0, 0, 0, 0]) ∧ Blk2s wr w.heap.size 26 (.slice A q.ts.length c) (.slice A2 q.os.length c2) ∧ Below w.heap.size w wr) (fun i _ => m - (intOf i).toNat)
  case atStart => exact ⟨0, Nat.zero_le _, rfl, a5, z5, x5, b5⟩
  case round =>
    clear a5 x5 b5 y0 y1 z5
    obtain ⟨j, hj, rfl, a, z, x0, hb⟩ := hrel
    have hz := hb.size
    have hl4 := refsC_len q s j
    obtain ⟨y0, y1, -⟩ := id x0.reads
    by_cases hlt : j < m
    · have hko : j < q.os.length := by omega
      obtain ⟨n, hn, eo, -⟩ := HVq.out.order.2 _ (List.getElem_mem hko)
      obtain ⟨ad2, rfl, hbl2, hc9⟩ := (hO.below hb (Nat.le_refl _)).int_ hko
      rw [eo] at hc9
      obtain ⟨t, ad, A', c', A9, c9, ho, rfl, had, g0, g1, g2, -, -, g5, -⟩ := (hT.below hb (Nat.le_refl _)).tx hn
      have htv := HVq.out.txs t (by rw [← ho]; exact List.getElem_mem hn)
      have hps := (HF.out.ps t (by rw [← ho]; exact List.getElem_mem hn)).1
      have q0 : (0 : Int) ≤ (j : Int) := by omega
      have q1 : (j : Int) < (m : Int) := by omega
      have q2 : (0 : Int) ≤ (n : Int) := by omega
      have q3 : (n : Int) < (q.ts.length : Int) := by omega
      have HSU : Hid (refsC q s (j + 1) = setR (refsC q s j) (usAt t.ps s)) := by show _ = _; rw [refsC_succ hko hn eo, ho]
      have H4 := hid (usAt_valid (s := s) htv.parts)
      have hul : (usAt t.ps s).length ≤ 4 := by
        unfold usAt
        rcases hf : t.ps.find? (fun p => p.s == s) with _ | p
        · rw [hf]; simp
        · rw [hf]; exact (pv_few htv.parts).2 p (List.mem_of_find?_eq_some hf)
      have CU := hid fun (x : World) (hx : Below w.heap.size wr x) => updatesFor_is w.heap.size A' c' A9 c9 t s x (Nat.le_trans hz hx.size) (g5.below hx (Nat.le_refl _)) hps
      obtain ⟨us, hus⟩ : ∃ us, usAt t.ps s = us := ⟨_, rfl⟩
      rw [hus] at HSU H4 hul CU
      obtain ⟨rs, hrs⟩ : ∃ rs, refsC q s j = rs := ⟨_, rfl⟩
      rw [hrs] at a HSU hl4
      have HI := hid (ra_info hl4)
      have HSZ := hid (ra_size hl4)
      have HL4 := hid hl4
      have hl5 : (setR rs us).length = 4 := by rw [setR_length]; exact hl4
      have HI5 := hid (ra_info hl5)
      have HSZ5 := hid (ra_size hl5)
      clear htv hps g5 ho eo hus hrs hl4 hl5
      go_upto_region 5 with fail
      have HG : Hid (∀ x, Below w.heap.size wr x → x.cell? (ad.add (n * 3)) = some (.slice A' t.ps.length c') ∧ x.cell? ⟨(ad.add (n * 3)).block, (ad.add (n * 3)).off + 1, none⟩ = some (.slice A9 t.vs.length c9) ∧ x.cell? ⟨(ad.add (n * 3)).block, (ad.add (n * 3)).off + 2, none⟩ = some (.int .i64 t.d)) := fun x hx => ⟨(hx.cell had).trans g0, (hx.cell (p := ⟨(ad.add (n * 3)).block, (ad.add (n * 3)).off + 1, none⟩) had).trans g1, (hx.cell (p := ⟨(ad.add (n * 3)).block, (ad.add (n * 3)).off + 2, none⟩) had).trans g2⟩
      refine wp_region_held_drew (S := fun x => x.cell? ⟨w.heap.size, 0, none⟩ = some (.slice (some ad) q.ts.length c) ∧ x.cell? (ad.add (n * 3)) = some (.slice A' t.ps.length c') ∧ x.cell? ⟨(ad.add (n * 3)).block, (ad.add (n * 3)).off + 1, none⟩ = some (.slice A9 t.vs.length c9) ∧ x.cell? ⟨(ad.add (n * 3)).block, (ad.add (n * 3)).off + 2, none⟩ = some (.int .i64 t.d)) (by kernel_rfl) ⟨y0, g0, g1, g2⟩ (fun hHeld => ?_)
      have dr : Below wr.heap.size wr wr.drew := (Below.refl _ _).drew
      obtain ⟨w7, hW⟩ : ∃ x, wr.drew = x := ⟨_, rfl⟩
      rw [hW] at dr hHeld ⊢
      have dx := dr.mono hz
      have hg7 : g < w7.heap.size := Nat.lt_of_lt_of_le a.lt dr.size
      replace a := a.below dr a.lt
      replace z := z.below dr z.lt
      replace x0 := x0.below dr x0.lt
      replace hb := hb.trans (dr.mono hz)
      replace hz := hb.size
      clear hW y0 y1 g0 g1 g2 hc9 dr
      try simp only [Act.put, List.getElem_toArray, List.getElem_cons_succ, List.getElem_cons_zero, List.setIfInBounds_toArray, List.set_cons_zero, List.set_cons_succ]
      refine wpAnyH_take (i := 1) (oi := _) (v := ?_) rfl (by kernel_rfl) (by kernel_rfl) (by kernel_rfl) (fun _ _ _ h => h) (Or.inl ⟨by rfl, ?_⟩) hHeld ?_
      rotate_left
      · (intro w' hSw; (try dsimp only at hSw); go_simp <;> with_reducible rfl)
      try simp only [Act.put, List.getElem_toArray, List.getElem_cons_succ, List.getElem_cons_zero, List.setIfInBounds_toArray, List.set_cons_zero, List.set_cons_succ]
      refine wpAnyH_take (i := 2) (oi := _) (v := ?_) rfl (by kernel_rfl) (by kernel_rfl) (by kernel_rfl) (fun _ _ _ h => h) (Or.inl ⟨by rfl, ?_⟩) hHeld ?_
      rotate_left
      · (intro w' hSw; (try dsimp only at hSw); go_simp <;> with_reducible rfl)
      try simp only [Act.put, List.getElem_toArray, List.getElem_cons_succ, List.getElem_cons_zero, List.setIfInBounds_toArray, List.set_cons_zero, List.set_cons_succ]
      refine wpAnyH_take (i := 3) (oi := _) (v := ?_) rfl (by kernel_rfl) (by kernel_rfl) (by kernel_rfl) (fun _ _ _ h => h) (Or.inl ⟨by rfl, ?_⟩) hHeld ?_
      rotate_left
      · (intro w' hSw; (try dsimp only at hSw); go_simp <;> with_reducible rfl)
      try simp only [Act.put, List.getElem_toArray, List.getElem_cons_succ, List.getElem_cons_zero, List.setIfInBounds_toArray, List.set_cons_zero, List.set_cons_succ]
      refine wpAnyH_take (i := 4) (oi := _) (v := ?_) rfl (by kernel_rfl) (by kernel_rfl) (by kernel_rfl) (fun _ _ _ h => h) (Or.inl ⟨by rfl, ?_⟩) hHeld ?_
      rotate_left
      · (intro w' hSw; (try dsimp only at hSw); go_simp <;> with_reducible rfl)
      try simp only [Act.put, List.getElem_toArray, List.getElem_cons_succ, List.getElem_cons_zero, List.setIfInBounds_toArray, List.set_cons_zero, List.set_cons_succ]
      refine wpAnyH_take (i := 5) (oi := _) (v := ?_) rfl (by kernel_rfl) (by kernel_rfl) (by kernel_rfl) (fun _ _ _ h => h) (Or.inl ⟨by rfl, ?_⟩) hHeld ?_
      rotate_left
      · (intro w' hSw; (try dsimp only at hSw); go_simp <;> with_reducible rfl)
      try simp only [Act.put, List.getElem_toArray, List.getElem_cons_succ, List.getElem_cons_zero, List.setIfInBounds_toArray, List.set_cons_zero, List.set_cons_succ]
      refine wpAnyH_take (i := 6) (oi := _) (v := ?_) rfl (by kernel_rfl) (by kernel_rfl) (by kernel_rfl) (fun _ _ _ h => h) (Or.inl ⟨by rfl, ?_⟩) hHeld ?_
      rotate_left
      · (intro w' hSw; (try dsimp only at hSw); go_simp <;> with_reducible rfl)
      try simp only [Act.put, List.getElem_toArray, List.getElem_cons_succ, List.getElem_cons_zero, List.setIfInBounds_toArray, List.set_cons_zero, List.set_cons_succ]
      refine wpAnyH_ready (rs := [0, 7]) (by kernel_rfl) (by simp) (AllReadyH.cons (o := _) rfl (fun K hK => ?_) (AllReadyH.cons (o := _) rfl (fun K hK => ?_) AllReadyH.nil))
      · skip
        try simp only [Act.put, List.getElem_toArray, List.getElem_cons_succ, List.getElem_cons_zero, List.setIfInBounds_toArray, List.set_cons_zero, List.set_cons_succ]
        refine wp_load_row 61 _ rfl g rfl 61 (ints rs).toArray (0, 0) _ a Try.underlying61 rfl HI.out ?_
        obtain ⟨q4, q5, q6⟩ := HG.out _ dx
        refine hK.out _ _ ⟨x0.reads.1, q4, q5, q6⟩ (fun hHeld => ?_)
        clear hK K
        try simp only [Act.put, List.getElem_toArray, List.getElem_cons_succ, List.getElem_cons_zero, List.setIfInBounds_toArray, List.set_cons_zero, List.set_cons_succ]
        clear q4 q5 q6
        refine wpAnyH_ready (rs := [7]) (by kernel_rfl) (by simp) (AllReadyH.cons (o := _) rfl (fun K hK => ?_) AllReadyH.nil)
        try simp only [Act.put, List.getElem_toArray, List.getElem_cons_succ, List.getElem_cons_zero, List.setIfInBounds_toArray, List.set_cons_zero, List.set_cons_succ]
        go_simp
        go_at_call 64
        refine (CU.out w7 dx).mono ?_
        rintro e w8 ⟨Au, cu, rfl, ru, d⟩
        have hg8 := Nat.lt_of_lt_of_le hg7 d.size
        replace a := a.below d a.lt
        replace z := z.below d z.lt
        replace x0 := x0.below d x0.lt
        replace hb := hb.trans (d.mono hz)
        have hz8 := hb.size
        replace dx := dx.trans (d.mono hz)
        obtain ⟨q4, q5, q6⟩ := HG.out _ dx
        clear CU d
        refine hK.out _ _ ⟨x0.reads.1, q4, q5, q6⟩ (fun hHeld => ?_)
        clear hK K
        try simp only [Act.put, List.getElem_toArray, List.getElem_cons_succ, List.getElem_cons_zero, List.setIfInBounds_toArray, List.set_cons_zero, List.set_cons_succ]
        clear q4 q5 q6
        refine wpAnyH_ready (rs := [8]) (by kernel_rfl) (by simp) (AllReadyH.cons (o := _) rfl (fun K hK => ?_) AllReadyH.nil)
        try simp only [Act.put, List.getElem_toArray, List.getElem_cons_succ, List.getElem_cons_zero, List.setIfInBounds_toArray, List.set_cons_zero, List.set_cons_succ]
        go_simp
        go_at_call 63
        refine (raSet_is Au cu rs us w8 w.heap.size HL4.out ru hz8 H4.out (by omega)).mono ?_
        rintro e w9 ⟨rfl, d⟩
        have hg9 := Nat.lt_of_lt_of_le hg8 d.size
        replace a := a.below d a.lt
        replace z := z.below d z.lt
        replace x0 := x0.below d x0.lt
        replace hb := hb.trans (d.mono hz8)
        replace dx := dx.trans (d.mono hz8)
        have hz9 := hb.size
        obtain ⟨q4, q5, q6⟩ := HG.out _ dx
        clear d ru
        refine hK.out _ _ ⟨x0.reads.1, q4, q5, q6⟩ (fun hHeld => ?_)
        clear hK K
        try simp only [Act.put, List.getElem_toArray, List.getElem_cons_succ, List.getElem_cons_zero, List.setIfInBounds_toArray, List.set_cons_zero, List.set_cons_succ]
        clear q4 q5 q6
        refine wpAnyH_ready (rs := [9]) (by kernel_rfl) (by simp) (AllReadyH.cons (o := _) rfl (fun K hK => ?_) AllReadyH.nil)
        try simp only [Act.put, List.getElem_toArray, List.getElem_cons_succ, List.getElem_cons_zero, List.setIfInBounds_toArray, List.set_cons_zero, List.set_cons_succ]
        refine wp_store_row 61 _ _ rfl g (ints (setR rs us)).toArray rfl rfl 61 (ints rs).toArray a HI5.out (by rw [HSZ.out, HSZ5.out]) (ints_ones _) ?_
        have b9 := below_setRow (g := g) (Below.refl g w9) (Nat.le_refl _) (ints (setR rs us)).toArray
        have a9 : Arr4 (w9.setRow g (ints (setR rs us)).toArray) g 61 (ints (setR rs us)) := setRow_heap w9 _ _ _ _ _ a
        have z9 := z.below b9 hg3
        have x9 := x0.below b9 (by omega)
        have hb9 := hb.trans (b9.mono (by omega))
        have dx9 := dx.trans (b9.mono (by omega))
        obtain ⟨q4, q5, q6⟩ := HG.out _ dx9
        refine hK.out _ _ ⟨x9.reads.1, q4, q5, q6⟩ (fun hHeld => ?_)
        clear hK K
        try simp only [Act.put, List.getElem_toArray, List.getElem_cons_succ, List.getElem_cons_zero, List.setIfInBounds_toArray, List.set_cons_zero, List.set_cons_succ]
        refine wpAnyH_done (by kernel_rfl) ?_ _
        clear hHeld q4 q5 q6 a b9
        go_wp2
        go_roundw
        case rel => exact ⟨j + 1, by omega, by go_num, by rw [HSU.out]; exact a9, z9, x9, hb9⟩
        case measure => simp [intOf]; omega
      · skip
        try simp only [Act.put, List.getElem_toArray, List.getElem_cons_succ, List.getElem_cons_zero, List.setIfInBounds_toArray, List.set_cons_zero, List.set_cons_succ]
        go_simp
        go_at_call 64
        refine (CU.out w7 dx).mono ?_
        rintro e w8 ⟨Au, cu, rfl, ru, d⟩
        have hg8 := Nat.lt_of_lt_of_le hg7 d.size
        replace a := a.below d a.lt
        replace z := z.below d z.lt
        replace x0 := x0.below d x0.lt
        replace hb := hb.trans (d.mono hz)
        have hz8 := hb.size
        replace dx := dx.trans (d.mono hz)
        obtain ⟨q4, q5, q6⟩ := HG.out _ dx
        clear CU d
        refine hK.out _ _ ⟨x0.reads.1, q4, q5, q6⟩ (fun hHeld => ?_)
        clear hK K
        try simp only [Act.put, List.getElem_toArray, List.getElem_cons_succ, List.getElem_cons_zero, List.setIfInBounds_toArray, List.set_cons_zero, List.set_cons_succ]
        clear q4 q5 q6
        refine wpAnyH_ready (rs := [0]) (by kernel_rfl) (by simp) (AllReadyH.cons (o := _) rfl (fun K hK => ?_) AllReadyH.nil)
        try simp only [Act.put, List.getElem_toArray, List.getElem_cons_succ, List.getElem_cons_zero, List.setIfInBounds_toArray, List.set_cons_zero, List.set_cons_succ]
        refine wp_load_row 61 _ rfl g rfl 61 (ints rs).toArray (0, 0) _ a Try.underlying61 rfl HI.out ?_
        obtain ⟨q4, q5, q6⟩ := HG.out _ dx
        refine hK.out _ _ ⟨x0.reads.1, q4, q5, q6⟩ (fun hHeld => ?_)
        clear hK K
        try simp only [Act.put, List.getElem_toArray, List.getElem_cons_succ, List.getElem_cons_zero, List.setIfInBounds_toArray, List.set_cons_zero, List.set_cons_succ]
        clear q4 q5 q6
        refine wpAnyH_ready (rs := [8]) (by kernel_rfl) (by simp) (AllReadyH.cons (o := _) rfl (fun K hK => ?_) AllReadyH.nil)
        try simp only [Act.put, List.getElem_toArray, List.getElem_cons_succ, List.getElem_cons_zero, List.setIfInBounds_toArray, List.set_cons_zero, List.set_cons_succ]
        go_simp
        go_at_call 63
        refine (raSet_is Au cu rs us w8 w.heap.size HL4.out ru hz8 H4.out (by omega)).mono ?_
        rintro e w9 ⟨rfl, d⟩
        have hg9 := Nat.lt_of_lt_of_le hg8 d.size
        replace a := a.below d a.lt
        replace z := z.below d z.lt
        replace x0 := x0.below d x0.lt
        replace hb := hb.trans (d.mono hz8)
        replace dx := dx.trans (d.mono hz8)
        have hz9 := hb.size
        obtain ⟨q4, q5, q6⟩ := HG.out _ dx
        clear d ru
        refine hK.out _ _ ⟨x0.reads.1, q4, q5, q6⟩ (fun hHeld => ?_)
        clear hK K
        try simp only [Act.put, List.getElem_toArray, List.getElem_cons_succ, List.getElem_cons_zero, List.setIfInBounds_toArray, List.set_cons_zero, List.set_cons_succ]
        clear q4 q5 q6
        refine wpAnyH_ready (rs := [9]) (by kernel_rfl) (by simp) (AllReadyH.cons (o := _) rfl (fun K hK => ?_) AllReadyH.nil)
        try simp only [Act.put, List.getElem_toArray, List.getElem_cons_succ, List.getElem_cons_zero, List.setIfInBounds_toArray, List.set_cons_zero, List.set_cons_succ]
        refine wp_store_row 61 _ _ rfl g (ints (setR rs us)).toArray rfl rfl 61 (ints rs).toArray a HI5.out (by rw [HSZ.out, HSZ5.out]) (ints_ones _) ?_
        have b9 := below_setRow (g := g) (Below.refl g w9) (Nat.le_refl _) (ints (setR rs us)).toArray
        have a9 : Arr4 (w9.setRow g (ints (setR rs us)).toArray) g 61 (ints (setR rs us)) := setRow_heap w9 _ _ _ _ _ a
        have z9 := z.below b9 hg3
        have x9 := x0.below b9 (by omega)
        have hb9 := hb.trans (b9.mono (by omega))
        have dx9 := dx.trans (b9.mono (by omega))
        obtain ⟨q4, q5, q6⟩ := HG.out _ dx9
        refine hK.out _ _ ⟨x9.reads.1, q4, q5, q6⟩ (fun hHeld => ?_)
        clear hK K
        try simp only [Act.put, List.getElem_toArray, List.getElem_cons_succ, List.getElem_cons_zero, List.setIfInBounds_toArray, List.set_cons_zero, List.set_cons_succ]
        refine wpAnyH_done (by kernel_rfl) ?_ _
        clear hHeld q4 q5 q6 a b9
        go_wp2
        go_roundw
        case rel => exact ⟨j + 1, by omega, by go_num, by rw [HSU.out]; exact a9, z9, x9, hb9⟩
        case measure => simp [intOf]; omega
    · have hj' : j = m := by omega
      subst hj'
      have HI := hid (ra_info hl4)
      have HSZ := hid (ra_size hl4)
      obtain ⟨rs, hrs⟩ : ∃ rs, refsC q s j = rs := ⟨_, rfl⟩
      rw [hrs] at a HI HSZ
      have HY := hid hrs
      have hl : wr.heap[g]? = some (.cells (ints rs).toArray 61 (0, 0)) := a
      have hs : wr.heap[w.heap.size + 1]? = some (.cells (ints [0, 0, 0, 0]).toArray 61 (0, 0)) := z
      clear hl4 a z hrs x0 y0 y1
      go_wp2_with (first
        | (refine wpList_load_row rfl 61 _ rfl g rfl 61 (ints rs).toArray (0, 0) _ hl Try.underlying61 rfl HI.out ?_)
        | (refine wpList_store_rowTo rfl 61 _ _ rfl rfl (w.heap.size + 1) (ints rs).toArray rfl rfl 61 (ints [0, 0, 0, 0]).toArray hs HI.out HSZ.out.symm (ints_ones _) ?_))
      have h2 : (wr.setRow (w.heap.size + 1) (ints rs).toArray).heap[w.heap.size + 1]? = some (.cells (ints rs).toArray 61 (0, 0)) := setRow_heap wr _ _ _ _ _ hs
      have b9 := below_setRow hb (Nat.le_succ _) (ints rs).toArray
      refine bodyPost_ret (v := .agg (ints rs).toArray) (results_cell_row (p := 6) (by kernel_rfl) _ _ (w.heap.size + 1) 61 _ (0, 0) _ rfl h2 Try.underlying61 rfl HI.out) rfl ⟨by rw [HY.out], b9⟩
end Go.Proofs.Ytjplondblkkpmaa
