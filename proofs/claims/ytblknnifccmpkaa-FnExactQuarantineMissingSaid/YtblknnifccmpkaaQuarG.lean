/-
  Walk: an area set or removed, by the model.
-/
import Derived.Test.YtblknnifccmpkaaQuarC
namespace Go.Proofs.Ytblknnifccmpkaa
open Go.RowKit Wo Pu Qu

/- The area of t is laid: the copy of x is called. -/
/- The areas are all there: the copy is the result. -/
/- An area is copied: the copy of its objects is called. -/
/- The area a is copied behind the areas O. -/
/- Behind the new area: the old one is copied, unless it is that of t. -/
/- Nothing new is laid at this area. -/
set_option linter.unusedSimpArgs false in
set_option maxRecDepth 100000 in
set_option maxHeartbeats 8000000 in
theorem l13Set_any (v : Value) (q : Qr) (t : Int) (A3 : Option Addr) (c3 : Nat) (x : List Ob) (w : World) (h : Quar w w.heap.size v q) (hf : SmQ q) (hx0 : Objs w w.heap.size A3 x) (hxs : (∀ o ∈ x, o.zs.length ≤ 1048576) ∧ x.length ≤ 1048576) :
    Calls Try.prog 69 #[v, .int .i64 t, .slice A3 x.length c3] w (NewQ ⟨q.m, setA q.rs t x⟩ w) := by
  obtain ⟨i0, hi, hz0, hz1, hz2⟩ := info_of info_ar
  obtain ⟨A, c, A2, c2, rfl, hm0, hmc, ha0, hac⟩ := h
  obtain ⟨f1, f2, f3, f4⟩ := hf
  unfold qv
  go_enter Try.func69, Try.ntmps69
  obtain ⟨w1, hw1⟩ : ∃ w1, (w.alloc (.cells #[.slice A q.m.length c, .slice A2 q.rs.length c2] 26)).alloc (.cells #[.slice none 0 0, .slice none 0 0] 26) = w1 := ⟨_, rfl⟩
  have x0 := (BlkQ.new_ w 26 (.slice A q.m.length c) (.slice A2 q.rs.length c2)).alloc (.cells #[.slice none 0 0, .slice none 0 0] 26)
  have x1 := BlkQ.new_ (w.alloc (.cells #[.slice A q.m.length c, .slice A2 q.rs.length c2] 26)) 26 (.slice none 0 0) (.slice none 0 0)
  have b1 := ((Below.refl w.heap.size w).alloc (Nat.le_refl _) (.cells #[.slice A q.m.length c, .slice A2 q.rs.length c2] 26)).alloc (by simp) (.cells #[.slice none 0 0, .slice none 0 0] 26)
  have z1 : w1.heap.size = w.heap.size + 2 := by rw [← hw1]; simp
  rw [World.size_alloc] at x1
  rw [hw1] at x0 x1 b1
  obtain ⟨y0, -, -⟩ := id x0.reads
  go_wp2_with fail
  have hm1 := (hm0.below b1 (Nat.le_refl _)).more b1.size
  refine (l1Copy_any A c q.m w1 hm1 f2 f1).mono ?_
  rintro e w2 ⟨vm, rfl, om, hb2⟩
  have b2 := b1.trans (hb2.mono b1.size)
  have x02 := x0.below hb2 x0.lt
  have x12 := x1.below hb2 x1.lt
  have om2 := om.base b1.size
  have z2 := hb2.size
  obtain ⟨Am, cm, rfl, -, -⟩ := om2.formq
  have al2 := ((Below.refl w2.heap.size w2).alloc (Nat.le_refl _) (.cells #[] 84)).alloc (by simp) (.cells #[.slice Am q.m.length cm, .slice (some ⟨w2.heap.size, 0, none⟩) 0 0] 26)
  have xg := BlkQ.new_ (w2.alloc (.cells #[] 84)) 26 (.slice Am q.m.length cm) (.slice (some ⟨w2.heap.size, 0, none⟩) 0 0)
  rw [World.size_alloc] at xg
  have oa := (OwnArs.nil_new (w := w2) (B := w.heap.size) b2.size).below ((Below.refl _ _).alloc (Nat.le_refl _) (.cells #[.slice Am q.m.length cm, .slice (some ⟨w2.heap.size, 0, none⟩) 0 0] 26))
  have S0 : CpSt w w.heap.size (w.heap.size + 1) A q.m.length c A2 q.rs.length c2 (w2.heap.size + 1) q.m [] ((w2.alloc (.cells #[] 84)).alloc (.cells #[.slice Am q.m.length cm, .slice (some ⟨w2.heap.size, 0, none⟩) 0 0] 26)) :=
    ⟨Am, cm, some ⟨w2.heap.size, 0, none⟩, 0, x02.later al2, x12.later al2, xg, ⟨by omega, by omega, by omega, by omega⟩, om2.below al2, oa, b2.trans (al2.mono b2.size)⟩
  obtain ⟨p0, hp0⟩ : ∃ p0, decide (x.length = 0) = p0 := ⟨_, rfl⟩
  have hT0 := hid (SetTo.zero q.rs t x)
  rw [hp0] at hT0
  have e0 : ((x.length : Int) == 0) = p0 := by
    rw [← hp0, Bool.eq_iff_iff, beq_iff_eq, decide_eq_true_iff]
    omega
  clear hw1 y0 x0 x1 hb2 hm1 om b1 x02 x12 om2 xg oa al2 b2 hp0
  go_wp2_with fail
  go_loopw [8, 9] (fun pv i wr => ∃ (k : Nat) (p : Bool) (out : List Ar), k ≤ q.rs.length ∧ i = .int .i64 k ∧ pv = .bool p ∧ out.length ≤ 2 * k ∧ Hid (SetTo q.rs t x out p k) ∧ CpSt w w.heap.size (w.heap.size + 1) A q.m.length c A2 q.rs.length c2 (w2.heap.size + 1) q.m out wr) (fun _ i _ => q.rs.length - (intOf i).toNat)
  case atStart => exact ⟨0, p0, [], Nat.zero_le _, rfl, rfl, Nat.le_refl _, hT0, S0⟩
  case round =>
    obtain ⟨k, p, out, hk, rfl, rfl, hol, HT, Am', cm', Aa, ca, S⟩ := hrel
    clear S0 hT0 e0
    have hbr := S.2.2.2.2.2.2
    have hz := hbr.size
    obtain ⟨r0, r1, r2, r3, r4, -⟩ := S.reads
    have Sd := S.drew
    have hxd := (((hx0.below hbr (Nat.le_refl _)).more hz)).drew
    by_cases hlt : k < q.rs.length
    · obtain ⟨a, ad, A', c', ho, rfl, had, g0, g1, -, g3⟩ := ha0.ar hlt
      have q0 : (0 : Int) ≤ (k : Int) := by omega
      have q1 : (k : Int) < (q.rs.length : Int) := by omega
      have hfa : (∀ o ∈ a.os, o.zs.length ≤ 1048576) ∧ a.os.length ≤ 1048576 := by rw [← ho]; exact f4 _ (List.getElem_mem hlt)
      have G0 := hid g0
      have G1 := hid g1
      have y2 := (hbr.cell had).trans g0
      have y3 := (hbr.cell (p := ⟨(ad.add (k * 2)).block, (ad.add (k * 2)).off + 1, none⟩) had).trans g1
      clear g0 g1 f1 f2 f4 hm0 hmc hac ha0
      cases p with
      | true =>
        obtain ⟨O, hO⟩ : ∃ O, out = O := ⟨_, rfl⟩
        have hta : True := trivial
        have HNX : Hid (a.t = t → SetTo q.rs t x O true (k + 1)) := fun he => by
          have := HT.out.next hlt
          rw [ho, if_neg (by simp [hta]), if_pos he, List.append_nil, List.append_nil, hO] at this
          simpa [hta] using this
        have HNY : Hid (a.t ≠ t → SetTo q.rs t x (O ++ [a]) true (k + 1)) := fun he => by
          have := HT.out.next hlt
          rw [ho, if_neg (by simp [hta]), if_neg he, List.nil_append, hO] at this
          simpa [hta] using this
        rw [hO] at S Sd hol r3
        clear HT ho hO
        by_cases he : a.t = t
        · have e7 : (a.t != t) = false := by rw [bne_eq_false_iff_eq]; exact he
          have HN := hid (HNX.out he)
          clear he HNX HNY
          go_wp2
          go_roundw
          case rel => exact ⟨k + 1, true, O, by omega, by go_num, rfl, by omega, HN.out, _, _, _, _, S⟩
          case measure => simp [intOf]; omega
        · have e7 : (a.t != t) = true := by rw [bne_iff_ne]; exact he
          have HN := hid (HNY.out he)
          clear he HNX HNY
          go_wp2_with fail
          have HG : Hid (∀ x, x.cell? ⟨w.heap.size, 1, none⟩ = some (.slice (some ad) q.rs.length c2) → Below w.heap.size w x → x.cell? ⟨w.heap.size, 1, none⟩ = some (.slice (some ad) q.rs.length c2) ∧ x.cell? (ad.add (k * 2)) = some (.int .i64 a.t) ∧ x.cell? ⟨(ad.add (k * 2)).block, (ad.add (k * 2)).off + 1, none⟩ = some (.slice A' a.os.length c')) :=
            fun x h2 h3 => ⟨h2, (h3.cell had).trans G0.out, (h3.cell (p := ⟨(ad.add (k * 2)).block, (ad.add (k * 2)).off + 1, none⟩) had).trans G1.out⟩
          have HK : Hid (∀ x, CpE w w.heap.size (w.heap.size + 1) A q.m.length c (some ad) q.rs.length c2 (w2.heap.size + 1) q.m Am' cm' Aa ca O x → x.cell? ⟨w.heap.size, 1, none⟩ = some (.slice (some ad) q.rs.length c2) ∧ x.cell? (ad.add (k * 2)) = some (.int .i64 a.t) ∧ x.cell? ⟨(ad.add (k * 2)).block, (ad.add (k * 2)).off + 1, none⟩ = some (.slice A' a.os.length c')) :=
            fun x h => HG.out x h.reads.2.1 h.2.2.2.2.2.2
          have HC : Hid (∀ {x}, CpSt w w.heap.size (w.heap.size + 1) A q.m.length c (some ad) q.rs.length c2 (w2.heap.size + 1) q.m (O ++ [a]) x → x.cell? ⟨w.heap.size, 1, none⟩ = some (.slice (some ad) q.rs.length c2) ∧ x.cell? (ad.add (k * 2)) = some (.int .i64 a.t) ∧ x.cell? ⟨(ad.add (k * 2)).block, (ad.add (k * 2)).off + 1, none⟩ = some (.slice A' a.os.length c')) :=
            fun {x} ⟨_, _, _, _, h⟩ => HG.out x h.reads.2.1 h.2.2.2.2.2.2
          have g3d := ((g3.below S.2.2.2.2.2.2 (Nat.le_refl _)).more S.2.2.2.2.2.2.size).drew
          refine wp_region_held_drew (S := fun w' => w'.cell? ⟨w.heap.size, 1, none⟩ = some (.slice (some ad) q.rs.length c2) ∧ w'.cell? (ad.add (k * 2)) = some (.int .i64 a.t) ∧ w'.cell? ⟨(ad.add (k * 2)).block, (ad.add (k * 2)).off + 1, none⟩ = some (.slice A' a.os.length c')) (by kernel_rfl) (HK.out _ Sd) (fun hHeld => ?_)
          refine wpAnyH_take (i := 0) (oi := _) (v := ?_) rfl (by kernel_rfl) (by kernel_rfl) (by kernel_rfl) (fun _ _ _ h => h) (Or.inl ⟨by rfl, ?_⟩) hHeld ?_
          rotate_left
          · (intro w' hSw; (try dsimp only at hSw); go_simp <;> with_reducible rfl)
          try simp only [Act.put, List.getElem_toArray, List.getElem_cons_succ, List.getElem_cons_zero, List.setIfInBounds_toArray, List.set_cons_zero, List.set_cons_succ]
          refine wpAnyH_take (i := 2) (oi := _) (v := ?_) rfl (by kernel_rfl) (by kernel_rfl) (by kernel_rfl) (fun _ _ _ h => h) (Or.inl ⟨by rfl, ?_⟩) hHeld ?_
          rotate_left
          · (intro w' hSw; (try dsimp only at hSw); go_simp <;> with_reducible rfl)
          try simp only [Act.put, List.getElem_toArray, List.getElem_cons_succ, List.getElem_cons_zero, List.setIfInBounds_toArray, List.set_cons_zero, List.set_cons_succ]
          refine wpAnyH_take (i := 3) (oi := _) (v := ?_) rfl (by kernel_rfl) (by kernel_rfl) (by kernel_rfl) (fun _ _ _ h => h) (Or.inl ⟨by rfl, ?_⟩) hHeld ?_
          rotate_left
          · (intro w' hSw; (try dsimp only at hSw); go_simp <;> with_reducible rfl)
          try simp only [Act.put, List.getElem_toArray, List.getElem_cons_succ, List.getElem_cons_zero, List.setIfInBounds_toArray, List.set_cons_zero, List.set_cons_succ]
          refine wpAnyH_take (i := 4) (oi := _) (v := ?_) rfl (by kernel_rfl) (by kernel_rfl) (by kernel_rfl) (fun _ _ _ h => h) (Or.inl ⟨by rfl, ?_⟩) hHeld ?_
          rotate_left
          · (intro w' hSw; (try dsimp only at hSw); go_simp <;> with_reducible rfl)
          try simp only [Act.put, List.getElem_toArray, List.getElem_cons_succ, List.getElem_cons_zero, List.setIfInBounds_toArray, List.set_cons_zero, List.set_cons_succ]
          refine wpAnyH_take (i := 5) (oi := _) (v := ?_) rfl (by kernel_rfl) (by kernel_rfl) (by kernel_rfl) (fun _ _ _ h => h) (Or.inl ⟨by rfl, ?_⟩) hHeld ?_
          rotate_left
          · (intro w' hSw; (try dsimp only at hSw); go_simp <;> with_reducible rfl)
          try simp only [Act.put, List.getElem_toArray, List.getElem_cons_succ, List.getElem_cons_zero, List.setIfInBounds_toArray, List.set_cons_zero, List.set_cons_succ]
          refine wpAnyH_take (i := 6) (oi := _) (v := ?_) rfl (by kernel_rfl) (by kernel_rfl) (by kernel_rfl) (fun _ _ _ h => h) (Or.inl ⟨by rfl, ?_⟩) hHeld ?_
          rotate_left
          · (intro w' hSw; (try dsimp only at hSw); go_simp <;> with_reducible rfl)
          try simp only [Act.put, List.getElem_toArray, List.getElem_cons_succ, List.getElem_cons_zero, List.setIfInBounds_toArray, List.set_cons_zero, List.set_cons_succ]
          refine wpAnyH_take (i := 7) (oi := _) (v := ?_) rfl (by kernel_rfl) (by kernel_rfl) (by kernel_rfl) (fun _ _ _ h => h) (Or.inl ⟨by rfl, ?_⟩) hHeld ?_
          rotate_left
          · (intro w' hSw; (try dsimp only at hSw); go_simp <;> with_reducible rfl)
          try simp only [Act.put, List.getElem_toArray, List.getElem_cons_succ, List.getElem_cons_zero, List.setIfInBounds_toArray, List.set_cons_zero, List.set_cons_succ]
          refine wpAnyH_take (i := 8) (oi := _) (v := ?_) rfl (by kernel_rfl) (by kernel_rfl) (by kernel_rfl) (fun _ _ _ h => h) (Or.inl ⟨by rfl, ?_⟩) hHeld ?_
          rotate_left
          · (intro w' hSw; (try dsimp only at hSw); go_simp <;> with_reducible rfl)
          try simp only [Act.put, List.getElem_toArray, List.getElem_cons_succ, List.getElem_cons_zero, List.setIfInBounds_toArray, List.set_cons_zero, List.set_cons_succ]
          refine wpAnyH_take (i := 9) (oi := _) (v := ?_) rfl (by kernel_rfl) (by kernel_rfl) (by kernel_rfl) (fun _ _ _ h => h) (Or.inl ⟨by rfl, ?_⟩) hHeld ?_
          rotate_left
          · (intro w' hSw; (try dsimp only at hSw); go_simp <;> with_reducible rfl)
          try simp only [Act.put, List.getElem_toArray, List.getElem_cons_succ, List.getElem_cons_zero, List.setIfInBounds_toArray, List.set_cons_zero, List.set_cons_succ]
          refine wpAnyH_take (i := 10) (oi := _) (v := ?_) rfl (by kernel_rfl) (by kernel_rfl) (by kernel_rfl) (fun _ _ _ h => h) (Or.inl ⟨by rfl, ?_⟩) hHeld ?_
          rotate_left
          · (intro w' hSw; (try dsimp only at hSw); go_simp <;> with_reducible rfl)
          try simp only [Act.put, List.getElem_toArray, List.getElem_cons_succ, List.getElem_cons_zero, List.setIfInBounds_toArray, List.set_cons_zero, List.set_cons_succ]
          refine wpAnyH_take (i := 11) (oi := _) (v := ?_) rfl (by kernel_rfl) (by kernel_rfl) (by kernel_rfl) (fun _ _ _ h => h) (Or.inl ⟨by rfl, ?_⟩) hHeld ?_
          rotate_left
          · (intro w' hSw; (try dsimp only at hSw); go_simp <;> with_reducible rfl)
          try simp only [Act.put, List.getElem_toArray, List.getElem_cons_succ, List.getElem_cons_zero, List.setIfInBounds_toArray, List.set_cons_zero, List.set_cons_succ]
          refine wpAnyH_take (i := 12) (oi := _) (v := ?_) rfl (by kernel_rfl) (by kernel_rfl) (by kernel_rfl) (fun _ _ _ h => h) (Or.inl ⟨by rfl, ?_⟩) hHeld ?_
          rotate_left
          · (intro w' hSw; (try dsimp only at hSw); go_simp <;> with_reducible rfl)
          try simp only [Act.put, List.getElem_toArray, List.getElem_cons_succ, List.getElem_cons_zero, List.setIfInBounds_toArray, List.set_cons_zero, List.set_cons_succ]
          refine wpAnyH_take (i := 13) (oi := _) (v := ?_) rfl (by kernel_rfl) (by kernel_rfl) (by kernel_rfl) (fun _ _ _ h => h) (Or.inl ⟨by rfl, ?_⟩) hHeld ?_
          rotate_left
          · (intro w' hSw; (try dsimp only at hSw); go_simp <;> with_reducible rfl)
          try simp only [Act.put, List.getElem_toArray, List.getElem_cons_succ, List.getElem_cons_zero, List.setIfInBounds_toArray, List.set_cons_zero, List.set_cons_succ]
          refine wpAnyH_ready (rs := [1, 14]) (by kernel_rfl) (by simp) (AllReadyH.cons (o := _) rfl (fun K hK => ?_) (AllReadyH.cons (o := _) rfl (fun K hK => ?_) AllReadyH.nil))
          · skip
            try simp only [Act.put, List.getElem_toArray, List.getElem_cons_succ, List.getElem_cons_zero, List.setIfInBounds_toArray, List.set_cons_zero, List.set_cons_succ]
            go_simp
            refine hK.out _ _ (HK.out _ Sd) (fun hHeld => ?_)
            clear hK K
            try simp only [Act.put, List.getElem_toArray, List.getElem_cons_succ, List.getElem_cons_zero, List.setIfInBounds_toArray, List.set_cons_zero, List.set_cons_succ]
            refine wpAnyH_ready (rs := [14]) (by kernel_rfl) (by simp) (AllReadyH.cons (o := _) rfl (fun K hK => ?_) AllReadyH.nil)
            try simp only [Act.put, List.getElem_toArray, List.getElem_cons_succ, List.getElem_cons_zero, List.setIfInBounds_toArray, List.set_cons_zero, List.set_cons_succ]
            go_simp
            go_at_call 103
            refine (l1Copy_any A' c' a.os _ g3d hfa.2 hfa.1).mono ?_
            rintro e w5 ⟨v5, rfl, o5', b5⟩
            have S5 := Sd.call b5
            have o5 := o5'.base Sd.reads.2.2.2.2.2
            obtain ⟨A5, c5, rfl, -, hc5⟩ := o5.formq
            obtain ⟨-, s1, -, s3, -, s5⟩ := S5.reads
            obtain ⟨ys, hrow, har⟩ := S5.2.2.2.2.2.1
            have oA := World.ownsRow.alloc hrow (.cells #[.int .i64 a.t, .slice A5 a.os.length c5] 84)
            have rA := row_two w5 (.int .i64 a.t) (.slice A5 a.os.length c5) 84
            have Sa5 := S5.call ((Below.refl w5.heap.size w5).alloc (Nat.le_refl _) (.cells #[.int .i64 a.t, .slice A5 a.os.length c5] 84))
            obtain ⟨-, -, -, t3, -, -⟩ := Sa5.reads
            clear o5' b5
            refine hK.out _ _ (HK.out _ S5) (fun hHeld => ?_)
            clear hK K
            try simp only [Act.put, List.getElem_toArray, List.getElem_cons_succ, List.getElem_cons_zero, List.setIfInBounds_toArray, List.set_cons_zero, List.set_cons_succ]
            refine wpAnyH_take (i := 15) (oi := _) (v := ?_) rfl (by kernel_rfl) (by kernel_rfl) (by kernel_rfl) (fun _ _ _ h => h) (Or.inl ⟨by rfl, ?_⟩) hHeld ?_
            rotate_left
            · (intro w' hSw; (try dsimp only at hSw); go_simp <;> with_reducible rfl)
            try simp only [Act.put, List.getElem_toArray, List.getElem_cons_succ, List.getElem_cons_zero, List.setIfInBounds_toArray, List.set_cons_zero, List.set_cons_succ]
            refine wpAnyH_ready (rs := [16]) (by kernel_rfl) (by simp) (AllReadyH.cons (o := _) rfl (fun K hK => ?_) AllReadyH.nil)
            try simp only [Act.put, List.getElem_toArray, List.getElem_cons_succ, List.getElem_cons_zero, List.setIfInBounds_toArray, List.set_cons_zero, List.set_cons_succ]
            go_simp
            refine hK.out _ _ (HK.out _ Sa5) (fun hHeld => ?_)
            clear hK K
            try simp only [Act.put, List.getElem_toArray, List.getElem_cons_succ, List.getElem_cons_zero, List.setIfInBounds_toArray, List.set_cons_zero, List.set_cons_succ]
            refine wpAnyH_ready (rs := [17]) (by kernel_rfl) (by simp) (AllReadyH.cons (o := _) rfl (fun K hK => ?_) AllReadyH.nil)
            try simp only [Act.put, List.getElem_toArray, List.getElem_cons_succ, List.getElem_cons_zero, List.setIfInBounds_toArray, List.set_cons_zero, List.set_cons_succ]
            rw [if_pos (by rfl)]
            refine op_append_row _ (by rfl) _ _ 24 (by rfl) w.heap.size 84 i0 (.agg #[.int .i64 0, .slice none 0 0]) 2 32 Try.underlying24 hi hz0 hz1 hz2 rfl (by decide) (.slice Aa O.length ca) O.length ys (by rfl) oA _ (some ⟨w5.heap.size, 0, none⟩) 1 1 [.int .i64 a.t, .slice A5 a.os.length c5] (by rfl) rA rfl (ar_cells _ _ _ _) (by unfold maxLen; omega) (by omega) (by simp; omega) ?_
            intro v7 w7 hown hg
            obtain ⟨Aa7, ca7, rfl, ⟨k1, kf, k2, kb⟩, S7⟩ := S5.put (a := a) hrow har o5 hc5 hown hg
            clear hown hg oA rA hrow har o5
            refine hK.out _ _ (HG.out _ k2 kb) (fun hHeld => ?_)
            clear hK K
            try simp only [Act.put, List.getElem_toArray, List.getElem_cons_succ, List.getElem_cons_zero, List.setIfInBounds_toArray, List.set_cons_zero, List.set_cons_succ]
            refine wpAnyH_take (i := 18) (oi := _) (v := ?_) rfl (by kernel_rfl) (by kernel_rfl) (by kernel_rfl) (fun _ _ _ h => h) (Or.inl ⟨by rfl, ?_⟩) hHeld ?_
            rotate_left
            · (intro w' hSw; (try dsimp only at hSw); go_simp <;> with_reducible rfl)
            try simp only [Act.put, List.getElem_toArray, List.getElem_cons_succ, List.getElem_cons_zero, List.setIfInBounds_toArray, List.set_cons_zero, List.set_cons_succ]
            refine wpAnyH_ready (rs := [19]) (by kernel_rfl) (by simp) (AllReadyH.cons (o := _) rfl (fun K hK => ?_) AllReadyH.nil)
            try simp only [Act.put, List.getElem_toArray, List.getElem_cons_succ, List.getElem_cons_zero, List.setIfInBounds_toArray, List.set_cons_zero, List.set_cons_succ]
            go_simp
            refine hK.out _ _ (HC.out S7) (fun hHeld => ?_)
            clear hK K
            try simp only [Act.put, List.getElem_toArray, List.getElem_cons_succ, List.getElem_cons_zero, List.setIfInBounds_toArray, List.set_cons_zero, List.set_cons_succ]
            refine wpAnyH_done (by kernel_rfl) ?_ _
            go_wp2
            go_roundw
            case rel => exact ⟨k + 1, _, O ++ [a], by omega, by go_num, rfl, by rw [List.length_append, List.length_singleton]; omega, HN.out, S7⟩
            case measure => simp [intOf]; omega
          · skip
            try simp only [Act.put, List.getElem_toArray, List.getElem_cons_succ, List.getElem_cons_zero, List.setIfInBounds_toArray, List.set_cons_zero, List.set_cons_succ]
            go_simp
            go_at_call 103
            refine (l1Copy_any A' c' a.os _ g3d hfa.2 hfa.1).mono ?_
            rintro e w5 ⟨v5, rfl, o5', b5⟩
            have S5 := Sd.call b5
            have o5 := o5'.base Sd.reads.2.2.2.2.2
            obtain ⟨A5, c5, rfl, -, hc5⟩ := o5.formq
            obtain ⟨-, s1, -, s3, -, s5⟩ := S5.reads
            obtain ⟨ys, hrow, har⟩ := S5.2.2.2.2.2.1
            have oA := World.ownsRow.alloc hrow (.cells #[.int .i64 a.t, .slice A5 a.os.length c5] 84)
            have rA := row_two w5 (.int .i64 a.t) (.slice A5 a.os.length c5) 84
            have Sa5 := S5.call ((Below.refl w5.heap.size w5).alloc (Nat.le_refl _) (.cells #[.int .i64 a.t, .slice A5 a.os.length c5] 84))
            obtain ⟨-, -, -, t3, -, -⟩ := Sa5.reads
            clear o5' b5
            refine hK.out _ _ (HK.out _ S5) (fun hHeld => ?_)
            clear hK K
            try simp only [Act.put, List.getElem_toArray, List.getElem_cons_succ, List.getElem_cons_zero, List.setIfInBounds_toArray, List.set_cons_zero, List.set_cons_succ]
            refine wpAnyH_take (i := 15) (oi := _) (v := ?_) rfl (by kernel_rfl) (by kernel_rfl) (by kernel_rfl) (fun _ _ _ h => h) (Or.inl ⟨by rfl, ?_⟩) hHeld ?_
            rotate_left
            · (intro w' hSw; (try dsimp only at hSw); go_simp <;> with_reducible rfl)
            try simp only [Act.put, List.getElem_toArray, List.getElem_cons_succ, List.getElem_cons_zero, List.setIfInBounds_toArray, List.set_cons_zero, List.set_cons_succ]
            refine wpAnyH_ready (rs := [1, 16]) (by kernel_rfl) (by simp) (AllReadyH.cons (o := _) rfl (fun K hK => ?_) (AllReadyH.cons (o := _) rfl (fun K hK => ?_) AllReadyH.nil))
            · skip
              try simp only [Act.put, List.getElem_toArray, List.getElem_cons_succ, List.getElem_cons_zero, List.setIfInBounds_toArray, List.set_cons_zero, List.set_cons_succ]
              go_simp
              refine hK.out _ _ (HK.out _ S5) (fun hHeld => ?_)
              clear hK K
              try simp only [Act.put, List.getElem_toArray, List.getElem_cons_succ, List.getElem_cons_zero, List.setIfInBounds_toArray, List.set_cons_zero, List.set_cons_succ]
              refine wpAnyH_ready (rs := [16]) (by kernel_rfl) (by simp) (AllReadyH.cons (o := _) rfl (fun K hK => ?_) AllReadyH.nil)
              try simp only [Act.put, List.getElem_toArray, List.getElem_cons_succ, List.getElem_cons_zero, List.setIfInBounds_toArray, List.set_cons_zero, List.set_cons_succ]
              go_simp
              refine hK.out _ _ (HK.out _ Sa5) (fun hHeld => ?_)
              clear hK K
              try simp only [Act.put, List.getElem_toArray, List.getElem_cons_succ, List.getElem_cons_zero, List.setIfInBounds_toArray, List.set_cons_zero, List.set_cons_succ]
              refine wpAnyH_ready (rs := [17]) (by kernel_rfl) (by simp) (AllReadyH.cons (o := _) rfl (fun K hK => ?_) AllReadyH.nil)
              try simp only [Act.put, List.getElem_toArray, List.getElem_cons_succ, List.getElem_cons_zero, List.setIfInBounds_toArray, List.set_cons_zero, List.set_cons_succ]
              rw [if_pos (by rfl)]
              refine op_append_row _ (by rfl) _ _ 24 (by rfl) w.heap.size 84 i0 (.agg #[.int .i64 0, .slice none 0 0]) 2 32 Try.underlying24 hi hz0 hz1 hz2 rfl (by decide) (.slice Aa O.length ca) O.length ys (by rfl) oA _ (some ⟨w5.heap.size, 0, none⟩) 1 1 [.int .i64 a.t, .slice A5 a.os.length c5] (by rfl) rA rfl (ar_cells _ _ _ _) (by unfold maxLen; omega) (by omega) (by simp; omega) ?_
              intro v7 w7 hown hg
              obtain ⟨Aa7, ca7, rfl, ⟨k1, kf, k2, kb⟩, S7⟩ := S5.put (a := a) hrow har o5 hc5 hown hg
              clear hown hg oA rA hrow har o5
              refine hK.out _ _ (HG.out _ k2 kb) (fun hHeld => ?_)
              clear hK K
              try simp only [Act.put, List.getElem_toArray, List.getElem_cons_succ, List.getElem_cons_zero, List.setIfInBounds_toArray, List.set_cons_zero, List.set_cons_succ]
              refine wpAnyH_take (i := 18) (oi := _) (v := ?_) rfl (by kernel_rfl) (by kernel_rfl) (by kernel_rfl) (fun _ _ _ h => h) (Or.inl ⟨by rfl, ?_⟩) hHeld ?_
              rotate_left
              · (intro w' hSw; (try dsimp only at hSw); go_simp <;> with_reducible rfl)
              try simp only [Act.put, List.getElem_toArray, List.getElem_cons_succ, List.getElem_cons_zero, List.setIfInBounds_toArray, List.set_cons_zero, List.set_cons_succ]
              refine wpAnyH_ready (rs := [19]) (by kernel_rfl) (by simp) (AllReadyH.cons (o := _) rfl (fun K hK => ?_) AllReadyH.nil)
              try simp only [Act.put, List.getElem_toArray, List.getElem_cons_succ, List.getElem_cons_zero, List.setIfInBounds_toArray, List.set_cons_zero, List.set_cons_succ]
              go_simp
              refine hK.out _ _ (HC.out S7) (fun hHeld => ?_)
              clear hK K
              try simp only [Act.put, List.getElem_toArray, List.getElem_cons_succ, List.getElem_cons_zero, List.setIfInBounds_toArray, List.set_cons_zero, List.set_cons_succ]
              refine wpAnyH_done (by kernel_rfl) ?_ _
              go_wp2
              go_roundw
              case rel => exact ⟨k + 1, _, O ++ [a], by omega, by go_num, rfl, by rw [List.length_append, List.length_singleton]; omega, HN.out, S7⟩
              case measure => simp [intOf]; omega
            · skip
              try simp only [Act.put, List.getElem_toArray, List.getElem_cons_succ, List.getElem_cons_zero, List.setIfInBounds_toArray, List.set_cons_zero, List.set_cons_succ]
              go_simp
              refine hK.out _ _ (HK.out _ Sa5) (fun hHeld => ?_)
              clear hK K
              try simp only [Act.put, List.getElem_toArray, List.getElem_cons_succ, List.getElem_cons_zero, List.setIfInBounds_toArray, List.set_cons_zero, List.set_cons_succ]
              refine wpAnyH_ready (rs := [1]) (by kernel_rfl) (by simp) (AllReadyH.cons (o := _) rfl (fun K hK => ?_) AllReadyH.nil)
              try simp only [Act.put, List.getElem_toArray, List.getElem_cons_succ, List.getElem_cons_zero, List.setIfInBounds_toArray, List.set_cons_zero, List.set_cons_succ]
              go_simp
              refine hK.out _ _ (HK.out _ Sa5) (fun hHeld => ?_)
              clear hK K
              try simp only [Act.put, List.getElem_toArray, List.getElem_cons_succ, List.getElem_cons_zero, List.setIfInBounds_toArray, List.set_cons_zero, List.set_cons_succ]
              refine wpAnyH_ready (rs := [17]) (by kernel_rfl) (by simp) (AllReadyH.cons (o := _) rfl (fun K hK => ?_) AllReadyH.nil)
              try simp only [Act.put, List.getElem_toArray, List.getElem_cons_succ, List.getElem_cons_zero, List.setIfInBounds_toArray, List.set_cons_zero, List.set_cons_succ]
              rw [if_pos (by rfl)]
              refine op_append_row _ (by rfl) _ _ 24 (by rfl) w.heap.size 84 i0 (.agg #[.int .i64 0, .slice none 0 0]) 2 32 Try.underlying24 hi hz0 hz1 hz2 rfl (by decide) (.slice Aa O.length ca) O.length ys (by rfl) oA _ (some ⟨w5.heap.size, 0, none⟩) 1 1 [.int .i64 a.t, .slice A5 a.os.length c5] (by rfl) rA rfl (ar_cells _ _ _ _) (by unfold maxLen; omega) (by omega) (by simp; omega) ?_
              intro v7 w7 hown hg
              obtain ⟨Aa7, ca7, rfl, ⟨k1, kf, k2, kb⟩, S7⟩ := S5.put (a := a) hrow har o5 hc5 hown hg
              clear hown hg oA rA hrow har o5
              refine hK.out _ _ (HG.out _ k2 kb) (fun hHeld => ?_)
              clear hK K
              try simp only [Act.put, List.getElem_toArray, List.getElem_cons_succ, List.getElem_cons_zero, List.setIfInBounds_toArray, List.set_cons_zero, List.set_cons_succ]
              refine wpAnyH_take (i := 18) (oi := _) (v := ?_) rfl (by kernel_rfl) (by kernel_rfl) (by kernel_rfl) (fun _ _ _ h => h) (Or.inl ⟨by rfl, ?_⟩) hHeld ?_
              rotate_left
              · (intro w' hSw; (try dsimp only at hSw); go_simp <;> with_reducible rfl)
              try simp only [Act.put, List.getElem_toArray, List.getElem_cons_succ, List.getElem_cons_zero, List.setIfInBounds_toArray, List.set_cons_zero, List.set_cons_succ]
              refine wpAnyH_ready (rs := [19]) (by kernel_rfl) (by simp) (AllReadyH.cons (o := _) rfl (fun K hK => ?_) AllReadyH.nil)
              try simp only [Act.put, List.getElem_toArray, List.getElem_cons_succ, List.getElem_cons_zero, List.setIfInBounds_toArray, List.set_cons_zero, List.set_cons_succ]
              go_simp
              refine hK.out _ _ (HC.out S7) (fun hHeld => ?_)
              clear hK K
              try simp only [Act.put, List.getElem_toArray, List.getElem_cons_succ, List.getElem_cons_zero, List.setIfInBounds_toArray, List.set_cons_zero, List.set_cons_succ]
              refine wpAnyH_done (by kernel_rfl) ?_ _
              go_wp2
              go_roundw
              case rel => exact ⟨k + 1, _, O ++ [a], by omega, by go_num, rfl, by rw [List.length_append, List.length_singleton]; omega, HN.out, S7⟩
              case measure => simp [intOf]; omega
      | false =>
        by_cases hta : t ≤ a.t
        · have e6 : decide (t ≤ a.t) = true := decide_eq_true hta
          obtain ⟨O, hO⟩ : ∃ O, out ++ [(⟨t, x⟩ : Ar)] = O := ⟨_, rfl⟩
          have HN1 : Hid (a.t = t → SetTo q.rs t x O true (k + 1)) := fun he => by
            have := HT.out.next hlt
            rw [ho, if_pos (by simp [hta]), if_pos he, List.append_nil, hO] at this
            simpa [hta] using this
          have HN2 : Hid (a.t ≠ t → SetTo q.rs t x (O ++ [a]) true (k + 1)) := fun he => by
            have := HT.out.next hlt
            rw [ho, if_pos (by simp [hta]), if_neg he, ← List.append_assoc, hO] at this
            simpa [hta] using this
          have hOl : O.length ≤ 2 * k + 1 := by rw [← hO, List.length_append, List.length_singleton]; omega
          clear HT ho hta
          go_wp2_with fail
          refine wp_region_held_drew (S := fun _ => True) (by kernel_rfl) trivial (fun hHeld => ?_)
          refine wpAnyH_take (i := 0) (oi := _) (v := ?_) rfl (by kernel_rfl) (by kernel_rfl) (by kernel_rfl) (fun _ _ _ h => h) (Or.inl ⟨by rfl, ?_⟩) hHeld ?_
          rotate_left
          · (intro w' hSw; (try dsimp only at hSw); go_simp <;> with_reducible rfl)
          try simp only [Act.put, List.getElem_toArray, List.getElem_cons_succ, List.getElem_cons_zero, List.setIfInBounds_toArray, List.set_cons_zero, List.set_cons_succ]
          refine wpAnyH_take (i := 2) (oi := _) (v := ?_) rfl (by kernel_rfl) (by kernel_rfl) (by kernel_rfl) (fun _ _ _ h => h) (Or.inl ⟨by rfl, ?_⟩) hHeld ?_
          rotate_left
          · (intro w' hSw; (try dsimp only at hSw); go_simp <;> with_reducible rfl)
          try simp only [Act.put, List.getElem_toArray, List.getElem_cons_succ, List.getElem_cons_zero, List.setIfInBounds_toArray, List.set_cons_zero, List.set_cons_succ]
          refine wpAnyH_take (i := 3) (oi := _) (v := ?_) rfl (by kernel_rfl) (by kernel_rfl) (by kernel_rfl) (fun _ _ _ h => h) (Or.inl ⟨by rfl, ?_⟩) hHeld ?_
          rotate_left
          · (intro w' hSw; (try dsimp only at hSw); go_simp <;> with_reducible rfl)
          try simp only [Act.put, List.getElem_toArray, List.getElem_cons_succ, List.getElem_cons_zero, List.setIfInBounds_toArray, List.set_cons_zero, List.set_cons_succ]
          refine wpAnyH_ready (rs := [1, 4]) (by kernel_rfl) (by simp) (AllReadyH.cons (o := _) rfl (fun K hK => ?_) (AllReadyH.cons (o := _) rfl (fun K hK => ?_) AllReadyH.nil))
          · skip
            try simp only [Act.put, List.getElem_toArray, List.getElem_cons_succ, List.getElem_cons_zero, List.setIfInBounds_toArray, List.set_cons_zero, List.set_cons_succ]
            go_simp
            refine hK.out _ _ trivial (fun hHeld => ?_)
            clear hK K
            try simp only [Act.put, List.getElem_toArray, List.getElem_cons_succ, List.getElem_cons_zero, List.setIfInBounds_toArray, List.set_cons_zero, List.set_cons_succ]
            refine wpAnyH_ready (rs := [4]) (by kernel_rfl) (by simp) (AllReadyH.cons (o := _) rfl (fun K hK => ?_) AllReadyH.nil)
            try simp only [Act.put, List.getElem_toArray, List.getElem_cons_succ, List.getElem_cons_zero, List.setIfInBounds_toArray, List.set_cons_zero, List.set_cons_succ]
            go_simp
            go_at_call 103
            refine (l1Copy_any A3 c3 x _ hxd hxs.2 hxs.1).mono ?_
            rintro e w5 ⟨v5, rfl, o5', b5⟩
            have S5 := Sd.call b5
            have o5 := o5'.base Sd.reads.2.2.2.2.2
            obtain ⟨A5, c5, rfl, -, hc5⟩ := o5.formq
            obtain ⟨-, s1, -, s3, -, s5⟩ := S5.reads
            obtain ⟨ys, hrow, har⟩ := S5.2.2.2.2.2.1
            have oA := World.ownsRow.alloc hrow (.cells #[.int .i64 t, .slice A5 x.length c5] 84)
            have rA := row_two w5 (.int .i64 t) (.slice A5 x.length c5) 84
            have Sa5 := S5.call ((Below.refl w5.heap.size w5).alloc (Nat.le_refl _) (.cells #[.int .i64 t, .slice A5 x.length c5] 84))
            obtain ⟨-, -, -, t3, -, -⟩ := Sa5.reads
            clear o5' b5
            refine hK.out _ _ trivial (fun hHeld => ?_)
            clear hK K
            try simp only [Act.put, List.getElem_toArray, List.getElem_cons_succ, List.getElem_cons_zero, List.setIfInBounds_toArray, List.set_cons_zero, List.set_cons_succ]
            refine wpAnyH_take (i := 5) (oi := _) (v := ?_) rfl (by kernel_rfl) (by kernel_rfl) (by kernel_rfl) (fun _ _ _ h => h) (Or.inl ⟨by rfl, ?_⟩) hHeld ?_
            rotate_left
            · (intro w' hSw; (try dsimp only at hSw); go_simp <;> with_reducible rfl)
            try simp only [Act.put, List.getElem_toArray, List.getElem_cons_succ, List.getElem_cons_zero, List.setIfInBounds_toArray, List.set_cons_zero, List.set_cons_succ]
            refine wpAnyH_ready (rs := [6]) (by kernel_rfl) (by simp) (AllReadyH.cons (o := _) rfl (fun K hK => ?_) AllReadyH.nil)
            try simp only [Act.put, List.getElem_toArray, List.getElem_cons_succ, List.getElem_cons_zero, List.setIfInBounds_toArray, List.set_cons_zero, List.set_cons_succ]
            go_simp
            refine hK.out _ _ trivial (fun hHeld => ?_)
            clear hK K
            try simp only [Act.put, List.getElem_toArray, List.getElem_cons_succ, List.getElem_cons_zero, List.setIfInBounds_toArray, List.set_cons_zero, List.set_cons_succ]
            refine wpAnyH_ready (rs := [7]) (by kernel_rfl) (by simp) (AllReadyH.cons (o := _) rfl (fun K hK => ?_) AllReadyH.nil)
            try simp only [Act.put, List.getElem_toArray, List.getElem_cons_succ, List.getElem_cons_zero, List.setIfInBounds_toArray, List.set_cons_zero, List.set_cons_succ]
            rw [if_pos (by rfl)]
            refine op_append_row _ (by rfl) _ _ 24 (by rfl) w.heap.size 84 i0 (.agg #[.int .i64 0, .slice none 0 0]) 2 32 Try.underlying24 hi hz0 hz1 hz2 rfl (by decide) (.slice Aa out.length ca) out.length ys (by rfl) oA _ (some ⟨w5.heap.size, 0, none⟩) 1 1 [.int .i64 t, .slice A5 x.length c5] (by rfl) rA rfl (ar_cells _ _ _ _) (by unfold maxLen; omega) (by omega) (by simp; omega) ?_
            intro v7 w7 hown hg
            obtain ⟨Aa7, ca7, rfl, ⟨k1, kf, k2, kb⟩, S7⟩ := S5.put (a := ⟨t, x⟩) hrow har o5 hc5 hown hg
            clear hown hg oA rA hrow har o5
            refine hK.out _ _ trivial (fun hHeld => ?_)
            clear hK K
            try simp only [Act.put, List.getElem_toArray, List.getElem_cons_succ, List.getElem_cons_zero, List.setIfInBounds_toArray, List.set_cons_zero, List.set_cons_succ]
            refine wpAnyH_take (i := 8) (oi := _) (v := ?_) rfl (by kernel_rfl) (by kernel_rfl) (by kernel_rfl) (fun _ _ _ h => h) (Or.inl ⟨by rfl, ?_⟩) hHeld ?_
            rotate_left
            · (intro w' hSw; (try dsimp only at hSw); go_simp <;> with_reducible rfl)
            try simp only [Act.put, List.getElem_toArray, List.getElem_cons_succ, List.getElem_cons_zero, List.setIfInBounds_toArray, List.set_cons_zero, List.set_cons_succ]
            refine wpAnyH_ready (rs := [9]) (by kernel_rfl) (by simp) (AllReadyH.cons (o := _) rfl (fun K hK => ?_) AllReadyH.nil)
            try simp only [Act.put, List.getElem_toArray, List.getElem_cons_succ, List.getElem_cons_zero, List.setIfInBounds_toArray, List.set_cons_zero, List.set_cons_succ]
            go_simp
            refine hK.out _ _ trivial (fun hHeld => ?_)
            clear hK K
            try simp only [Act.put, List.getElem_toArray, List.getElem_cons_succ, List.getElem_cons_zero, List.setIfInBounds_toArray, List.set_cons_zero, List.set_cons_succ]
            refine wpAnyH_done (by kernel_rfl) ?_ _
            obtain ⟨W7, hW7⟩ : ∃ W7, w7.setCell ⟨w2.heap.size + 1, 1, none⟩ (.slice Aa7 (out.length + 1) ca7) = W7 := ⟨_, rfl⟩
            rw [hW7] at S7 ⊢
            clear hW7 k1 kf k2 kb hHeld S5 Sa5 s1 s3 s5 t3
            rw [hO] at S7
            obtain ⟨Am', cm', Aa, ca, S⟩ := S7
            obtain ⟨-, y1, -, y0, -, -⟩ := S.reads
            have Sd := S.drew
            have hb7 := S.2.2.2.2.2.2
            have y2 := (hb7.cell had).trans G0.out
            have y3 := (hb7.cell (p := ⟨(ad.add (k * 2)).block, (ad.add (k * 2)).off + 1, none⟩) had).trans G1.out
            by_cases he : a.t = t
            · have e7 : (a.t != t) = false := by rw [bne_eq_false_iff_eq]; exact he
              have HN := hid (HN1.out he)
              clear he
              go_wp2
              go_roundw
              case rel => exact ⟨k + 1, true, O, by omega, by go_num, rfl, by omega, HN.out, _, _, _, _, S⟩
              case measure => simp [intOf]; omega
            · have e7 : (a.t != t) = true := by rw [bne_iff_ne]; exact he
              have HN := hid (HN2.out he)
              clear he
              go_wp2_with fail
              have HG : Hid (∀ x, x.cell? ⟨w.heap.size, 1, none⟩ = some (.slice (some ad) q.rs.length c2) → Below w.heap.size w x → x.cell? ⟨w.heap.size, 1, none⟩ = some (.slice (some ad) q.rs.length c2) ∧ x.cell? (ad.add (k * 2)) = some (.int .i64 a.t) ∧ x.cell? ⟨(ad.add (k * 2)).block, (ad.add (k * 2)).off + 1, none⟩ = some (.slice A' a.os.length c')) :=
                fun x h2 h3 => ⟨h2, (h3.cell had).trans G0.out, (h3.cell (p := ⟨(ad.add (k * 2)).block, (ad.add (k * 2)).off + 1, none⟩) had).trans G1.out⟩
              have HK : Hid (∀ x, CpE w w.heap.size (w.heap.size + 1) A q.m.length c (some ad) q.rs.length c2 (w2.heap.size + 1) q.m Am' cm' Aa ca O x → x.cell? ⟨w.heap.size, 1, none⟩ = some (.slice (some ad) q.rs.length c2) ∧ x.cell? (ad.add (k * 2)) = some (.int .i64 a.t) ∧ x.cell? ⟨(ad.add (k * 2)).block, (ad.add (k * 2)).off + 1, none⟩ = some (.slice A' a.os.length c')) :=
                fun x h => HG.out x h.reads.2.1 h.2.2.2.2.2.2
              have HC : Hid (∀ {x}, CpSt w w.heap.size (w.heap.size + 1) A q.m.length c (some ad) q.rs.length c2 (w2.heap.size + 1) q.m (O ++ [a]) x → x.cell? ⟨w.heap.size, 1, none⟩ = some (.slice (some ad) q.rs.length c2) ∧ x.cell? (ad.add (k * 2)) = some (.int .i64 a.t) ∧ x.cell? ⟨(ad.add (k * 2)).block, (ad.add (k * 2)).off + 1, none⟩ = some (.slice A' a.os.length c')) :=
                fun {x} ⟨_, _, _, _, h⟩ => HG.out x h.reads.2.1 h.2.2.2.2.2.2
              have g3d := ((g3.below S.2.2.2.2.2.2 (Nat.le_refl _)).more S.2.2.2.2.2.2.size).drew
              refine wp_region_held_drew (S := fun w' => w'.cell? ⟨w.heap.size, 1, none⟩ = some (.slice (some ad) q.rs.length c2) ∧ w'.cell? (ad.add (k * 2)) = some (.int .i64 a.t) ∧ w'.cell? ⟨(ad.add (k * 2)).block, (ad.add (k * 2)).off + 1, none⟩ = some (.slice A' a.os.length c')) (by kernel_rfl) (HK.out _ Sd) (fun hHeld => ?_)
              refine wpAnyH_take (i := 0) (oi := _) (v := ?_) rfl (by kernel_rfl) (by kernel_rfl) (by kernel_rfl) (fun _ _ _ h => h) (Or.inl ⟨by rfl, ?_⟩) hHeld ?_
              rotate_left
              · (intro w' hSw; (try dsimp only at hSw); go_simp <;> with_reducible rfl)
              try simp only [Act.put, List.getElem_toArray, List.getElem_cons_succ, List.getElem_cons_zero, List.setIfInBounds_toArray, List.set_cons_zero, List.set_cons_succ]
              refine wpAnyH_take (i := 2) (oi := _) (v := ?_) rfl (by kernel_rfl) (by kernel_rfl) (by kernel_rfl) (fun _ _ _ h => h) (Or.inl ⟨by rfl, ?_⟩) hHeld ?_
              rotate_left
              · (intro w' hSw; (try dsimp only at hSw); go_simp <;> with_reducible rfl)
              try simp only [Act.put, List.getElem_toArray, List.getElem_cons_succ, List.getElem_cons_zero, List.setIfInBounds_toArray, List.set_cons_zero, List.set_cons_succ]
              refine wpAnyH_take (i := 3) (oi := _) (v := ?_) rfl (by kernel_rfl) (by kernel_rfl) (by kernel_rfl) (fun _ _ _ h => h) (Or.inl ⟨by rfl, ?_⟩) hHeld ?_
              rotate_left
              · (intro w' hSw; (try dsimp only at hSw); go_simp <;> with_reducible rfl)
              try simp only [Act.put, List.getElem_toArray, List.getElem_cons_succ, List.getElem_cons_zero, List.setIfInBounds_toArray, List.set_cons_zero, List.set_cons_succ]
              refine wpAnyH_take (i := 4) (oi := _) (v := ?_) rfl (by kernel_rfl) (by kernel_rfl) (by kernel_rfl) (fun _ _ _ h => h) (Or.inl ⟨by rfl, ?_⟩) hHeld ?_
              rotate_left
              · (intro w' hSw; (try dsimp only at hSw); go_simp <;> with_reducible rfl)
              try simp only [Act.put, List.getElem_toArray, List.getElem_cons_succ, List.getElem_cons_zero, List.setIfInBounds_toArray, List.set_cons_zero, List.set_cons_succ]
              refine wpAnyH_take (i := 5) (oi := _) (v := ?_) rfl (by kernel_rfl) (by kernel_rfl) (by kernel_rfl) (fun _ _ _ h => h) (Or.inl ⟨by rfl, ?_⟩) hHeld ?_
              rotate_left
              · (intro w' hSw; (try dsimp only at hSw); go_simp <;> with_reducible rfl)
              try simp only [Act.put, List.getElem_toArray, List.getElem_cons_succ, List.getElem_cons_zero, List.setIfInBounds_toArray, List.set_cons_zero, List.set_cons_succ]
              refine wpAnyH_take (i := 6) (oi := _) (v := ?_) rfl (by kernel_rfl) (by kernel_rfl) (by kernel_rfl) (fun _ _ _ h => h) (Or.inl ⟨by rfl, ?_⟩) hHeld ?_
              rotate_left
              · (intro w' hSw; (try dsimp only at hSw); go_simp <;> with_reducible rfl)
              try simp only [Act.put, List.getElem_toArray, List.getElem_cons_succ, List.getElem_cons_zero, List.setIfInBounds_toArray, List.set_cons_zero, List.set_cons_succ]
              refine wpAnyH_take (i := 7) (oi := _) (v := ?_) rfl (by kernel_rfl) (by kernel_rfl) (by kernel_rfl) (fun _ _ _ h => h) (Or.inl ⟨by rfl, ?_⟩) hHeld ?_
              rotate_left
              · (intro w' hSw; (try dsimp only at hSw); go_simp <;> with_reducible rfl)
              try simp only [Act.put, List.getElem_toArray, List.getElem_cons_succ, List.getElem_cons_zero, List.setIfInBounds_toArray, List.set_cons_zero, List.set_cons_succ]
              refine wpAnyH_take (i := 8) (oi := _) (v := ?_) rfl (by kernel_rfl) (by kernel_rfl) (by kernel_rfl) (fun _ _ _ h => h) (Or.inl ⟨by rfl, ?_⟩) hHeld ?_
              rotate_left
              · (intro w' hSw; (try dsimp only at hSw); go_simp <;> with_reducible rfl)
              try simp only [Act.put, List.getElem_toArray, List.getElem_cons_succ, List.getElem_cons_zero, List.setIfInBounds_toArray, List.set_cons_zero, List.set_cons_succ]
              refine wpAnyH_take (i := 9) (oi := _) (v := ?_) rfl (by kernel_rfl) (by kernel_rfl) (by kernel_rfl) (fun _ _ _ h => h) (Or.inl ⟨by rfl, ?_⟩) hHeld ?_
              rotate_left
              · (intro w' hSw; (try dsimp only at hSw); go_simp <;> with_reducible rfl)
              try simp only [Act.put, List.getElem_toArray, List.getElem_cons_succ, List.getElem_cons_zero, List.setIfInBounds_toArray, List.set_cons_zero, List.set_cons_succ]
              refine wpAnyH_take (i := 10) (oi := _) (v := ?_) rfl (by kernel_rfl) (by kernel_rfl) (by kernel_rfl) (fun _ _ _ h => h) (Or.inl ⟨by rfl, ?_⟩) hHeld ?_
              rotate_left
              · (intro w' hSw; (try dsimp only at hSw); go_simp <;> with_reducible rfl)
              try simp only [Act.put, List.getElem_toArray, List.getElem_cons_succ, List.getElem_cons_zero, List.setIfInBounds_toArray, List.set_cons_zero, List.set_cons_succ]
              refine wpAnyH_take (i := 11) (oi := _) (v := ?_) rfl (by kernel_rfl) (by kernel_rfl) (by kernel_rfl) (fun _ _ _ h => h) (Or.inl ⟨by rfl, ?_⟩) hHeld ?_
              rotate_left
              · (intro w' hSw; (try dsimp only at hSw); go_simp <;> with_reducible rfl)
              try simp only [Act.put, List.getElem_toArray, List.getElem_cons_succ, List.getElem_cons_zero, List.setIfInBounds_toArray, List.set_cons_zero, List.set_cons_succ]
              refine wpAnyH_take (i := 12) (oi := _) (v := ?_) rfl (by kernel_rfl) (by kernel_rfl) (by kernel_rfl) (fun _ _ _ h => h) (Or.inl ⟨by rfl, ?_⟩) hHeld ?_
              rotate_left
              · (intro w' hSw; (try dsimp only at hSw); go_simp <;> with_reducible rfl)
              try simp only [Act.put, List.getElem_toArray, List.getElem_cons_succ, List.getElem_cons_zero, List.setIfInBounds_toArray, List.set_cons_zero, List.set_cons_succ]
              refine wpAnyH_take (i := 13) (oi := _) (v := ?_) rfl (by kernel_rfl) (by kernel_rfl) (by kernel_rfl) (fun _ _ _ h => h) (Or.inl ⟨by rfl, ?_⟩) hHeld ?_
              rotate_left
              · (intro w' hSw; (try dsimp only at hSw); go_simp <;> with_reducible rfl)
              try simp only [Act.put, List.getElem_toArray, List.getElem_cons_succ, List.getElem_cons_zero, List.setIfInBounds_toArray, List.set_cons_zero, List.set_cons_succ]
              refine wpAnyH_ready (rs := [1, 14]) (by kernel_rfl) (by simp) (AllReadyH.cons (o := _) rfl (fun K hK => ?_) (AllReadyH.cons (o := _) rfl (fun K hK => ?_) AllReadyH.nil))
              · skip
                try simp only [Act.put, List.getElem_toArray, List.getElem_cons_succ, List.getElem_cons_zero, List.setIfInBounds_toArray, List.set_cons_zero, List.set_cons_succ]
                go_simp
                refine hK.out _ _ (HK.out _ Sd) (fun hHeld => ?_)
                clear hK K
                try simp only [Act.put, List.getElem_toArray, List.getElem_cons_succ, List.getElem_cons_zero, List.setIfInBounds_toArray, List.set_cons_zero, List.set_cons_succ]
                refine wpAnyH_ready (rs := [14]) (by kernel_rfl) (by simp) (AllReadyH.cons (o := _) rfl (fun K hK => ?_) AllReadyH.nil)
                try simp only [Act.put, List.getElem_toArray, List.getElem_cons_succ, List.getElem_cons_zero, List.setIfInBounds_toArray, List.set_cons_zero, List.set_cons_succ]
                go_simp
                go_at_call 103
                refine (l1Copy_any A' c' a.os _ g3d hfa.2 hfa.1).mono ?_
                rintro e w5 ⟨v5, rfl, o5', b5⟩
                have S5 := Sd.call b5
                have o5 := o5'.base Sd.reads.2.2.2.2.2
                obtain ⟨A5, c5, rfl, -, hc5⟩ := o5.formq
                obtain ⟨-, s1, -, s3, -, s5⟩ := S5.reads
                obtain ⟨ys, hrow, har⟩ := S5.2.2.2.2.2.1
                have oA := World.ownsRow.alloc hrow (.cells #[.int .i64 a.t, .slice A5 a.os.length c5] 84)
                have rA := row_two w5 (.int .i64 a.t) (.slice A5 a.os.length c5) 84
                have Sa5 := S5.call ((Below.refl w5.heap.size w5).alloc (Nat.le_refl _) (.cells #[.int .i64 a.t, .slice A5 a.os.length c5] 84))
                obtain ⟨-, -, -, t3, -, -⟩ := Sa5.reads
                clear o5' b5
                refine hK.out _ _ (HK.out _ S5) (fun hHeld => ?_)
                clear hK K
                try simp only [Act.put, List.getElem_toArray, List.getElem_cons_succ, List.getElem_cons_zero, List.setIfInBounds_toArray, List.set_cons_zero, List.set_cons_succ]
                refine wpAnyH_take (i := 15) (oi := _) (v := ?_) rfl (by kernel_rfl) (by kernel_rfl) (by kernel_rfl) (fun _ _ _ h => h) (Or.inl ⟨by rfl, ?_⟩) hHeld ?_
                rotate_left
                · (intro w' hSw; (try dsimp only at hSw); go_simp <;> with_reducible rfl)
                try simp only [Act.put, List.getElem_toArray, List.getElem_cons_succ, List.getElem_cons_zero, List.setIfInBounds_toArray, List.set_cons_zero, List.set_cons_succ]
                refine wpAnyH_ready (rs := [16]) (by kernel_rfl) (by simp) (AllReadyH.cons (o := _) rfl (fun K hK => ?_) AllReadyH.nil)
                try simp only [Act.put, List.getElem_toArray, List.getElem_cons_succ, List.getElem_cons_zero, List.setIfInBounds_toArray, List.set_cons_zero, List.set_cons_succ]
                go_simp
                refine hK.out _ _ (HK.out _ Sa5) (fun hHeld => ?_)
                clear hK K
                try simp only [Act.put, List.getElem_toArray, List.getElem_cons_succ, List.getElem_cons_zero, List.setIfInBounds_toArray, List.set_cons_zero, List.set_cons_succ]
                refine wpAnyH_ready (rs := [17]) (by kernel_rfl) (by simp) (AllReadyH.cons (o := _) rfl (fun K hK => ?_) AllReadyH.nil)
                try simp only [Act.put, List.getElem_toArray, List.getElem_cons_succ, List.getElem_cons_zero, List.setIfInBounds_toArray, List.set_cons_zero, List.set_cons_succ]
                rw [if_pos (by rfl)]
                refine op_append_row _ (by rfl) _ _ 24 (by rfl) w.heap.size 84 i0 (.agg #[.int .i64 0, .slice none 0 0]) 2 32 Try.underlying24 hi hz0 hz1 hz2 rfl (by decide) (.slice Aa O.length ca) O.length ys (by rfl) oA _ (some ⟨w5.heap.size, 0, none⟩) 1 1 [.int .i64 a.t, .slice A5 a.os.length c5] (by rfl) rA rfl (ar_cells _ _ _ _) (by unfold maxLen; omega) (by omega) (by simp; omega) ?_
                intro v7 w7 hown hg
                obtain ⟨Aa7, ca7, rfl, ⟨k1, kf, k2, kb⟩, S7⟩ := S5.put (a := a) hrow har o5 hc5 hown hg
                clear hown hg oA rA hrow har o5
                refine hK.out _ _ (HG.out _ k2 kb) (fun hHeld => ?_)
                clear hK K
                try simp only [Act.put, List.getElem_toArray, List.getElem_cons_succ, List.getElem_cons_zero, List.setIfInBounds_toArray, List.set_cons_zero, List.set_cons_succ]
                refine wpAnyH_take (i := 18) (oi := _) (v := ?_) rfl (by kernel_rfl) (by kernel_rfl) (by kernel_rfl) (fun _ _ _ h => h) (Or.inl ⟨by rfl, ?_⟩) hHeld ?_
                rotate_left
                · (intro w' hSw; (try dsimp only at hSw); go_simp <;> with_reducible rfl)
                try simp only [Act.put, List.getElem_toArray, List.getElem_cons_succ, List.getElem_cons_zero, List.setIfInBounds_toArray, List.set_cons_zero, List.set_cons_succ]
                refine wpAnyH_ready (rs := [19]) (by kernel_rfl) (by simp) (AllReadyH.cons (o := _) rfl (fun K hK => ?_) AllReadyH.nil)
                try simp only [Act.put, List.getElem_toArray, List.getElem_cons_succ, List.getElem_cons_zero, List.setIfInBounds_toArray, List.set_cons_zero, List.set_cons_succ]
                go_simp
                refine hK.out _ _ (HC.out S7) (fun hHeld => ?_)
                clear hK K
                try simp only [Act.put, List.getElem_toArray, List.getElem_cons_succ, List.getElem_cons_zero, List.setIfInBounds_toArray, List.set_cons_zero, List.set_cons_succ]
                refine wpAnyH_done (by kernel_rfl) ?_ _
                go_wp2
                go_roundw
                case rel => exact ⟨k + 1, _, O ++ [a], by omega, by go_num, rfl, by rw [List.length_append, List.length_singleton]; omega, HN.out, S7⟩
                case measure => simp [intOf]; omega
              · skip
                try simp only [Act.put, List.getElem_toArray, List.getElem_cons_succ, List.getElem_cons_zero, List.setIfInBounds_toArray, List.set_cons_zero, List.set_cons_succ]
                go_simp
                go_at_call 103
                refine (l1Copy_any A' c' a.os _ g3d hfa.2 hfa.1).mono ?_
                rintro e w5 ⟨v5, rfl, o5', b5⟩
                have S5 := Sd.call b5
                have o5 := o5'.base Sd.reads.2.2.2.2.2
                obtain ⟨A5, c5, rfl, -, hc5⟩ := o5.formq
                obtain ⟨-, s1, -, s3, -, s5⟩ := S5.reads
                obtain ⟨ys, hrow, har⟩ := S5.2.2.2.2.2.1
                have oA := World.ownsRow.alloc hrow (.cells #[.int .i64 a.t, .slice A5 a.os.length c5] 84)
                have rA := row_two w5 (.int .i64 a.t) (.slice A5 a.os.length c5) 84
                have Sa5 := S5.call ((Below.refl w5.heap.size w5).alloc (Nat.le_refl _) (.cells #[.int .i64 a.t, .slice A5 a.os.length c5] 84))
                obtain ⟨-, -, -, t3, -, -⟩ := Sa5.reads
                clear o5' b5
                refine hK.out _ _ (HK.out _ S5) (fun hHeld => ?_)
                clear hK K
                try simp only [Act.put, List.getElem_toArray, List.getElem_cons_succ, List.getElem_cons_zero, List.setIfInBounds_toArray, List.set_cons_zero, List.set_cons_succ]
                refine wpAnyH_take (i := 15) (oi := _) (v := ?_) rfl (by kernel_rfl) (by kernel_rfl) (by kernel_rfl) (fun _ _ _ h => h) (Or.inl ⟨by rfl, ?_⟩) hHeld ?_
                rotate_left
                · (intro w' hSw; (try dsimp only at hSw); go_simp <;> with_reducible rfl)
                try simp only [Act.put, List.getElem_toArray, List.getElem_cons_succ, List.getElem_cons_zero, List.setIfInBounds_toArray, List.set_cons_zero, List.set_cons_succ]
                refine wpAnyH_ready (rs := [1, 16]) (by kernel_rfl) (by simp) (AllReadyH.cons (o := _) rfl (fun K hK => ?_) (AllReadyH.cons (o := _) rfl (fun K hK => ?_) AllReadyH.nil))
                · skip
                  try simp only [Act.put, List.getElem_toArray, List.getElem_cons_succ, List.getElem_cons_zero, List.setIfInBounds_toArray, List.set_cons_zero, List.set_cons_succ]
                  go_simp
                  refine hK.out _ _ (HK.out _ S5) (fun hHeld => ?_)
                  clear hK K
                  try simp only [Act.put, List.getElem_toArray, List.getElem_cons_succ, List.getElem_cons_zero, List.setIfInBounds_toArray, List.set_cons_zero, List.set_cons_succ]
                  refine wpAnyH_ready (rs := [16]) (by kernel_rfl) (by simp) (AllReadyH.cons (o := _) rfl (fun K hK => ?_) AllReadyH.nil)
                  try simp only [Act.put, List.getElem_toArray, List.getElem_cons_succ, List.getElem_cons_zero, List.setIfInBounds_toArray, List.set_cons_zero, List.set_cons_succ]
                  go_simp
                  refine hK.out _ _ (HK.out _ Sa5) (fun hHeld => ?_)
                  clear hK K
                  try simp only [Act.put, List.getElem_toArray, List.getElem_cons_succ, List.getElem_cons_zero, List.setIfInBounds_toArray, List.set_cons_zero, List.set_cons_succ]
                  refine wpAnyH_ready (rs := [17]) (by kernel_rfl) (by simp) (AllReadyH.cons (o := _) rfl (fun K hK => ?_) AllReadyH.nil)
                  try simp only [Act.put, List.getElem_toArray, List.getElem_cons_succ, List.getElem_cons_zero, List.setIfInBounds_toArray, List.set_cons_zero, List.set_cons_succ]
                  rw [if_pos (by rfl)]
                  refine op_append_row _ (by rfl) _ _ 24 (by rfl) w.heap.size 84 i0 (.agg #[.int .i64 0, .slice none 0 0]) 2 32 Try.underlying24 hi hz0 hz1 hz2 rfl (by decide) (.slice Aa O.length ca) O.length ys (by rfl) oA _ (some ⟨w5.heap.size, 0, none⟩) 1 1 [.int .i64 a.t, .slice A5 a.os.length c5] (by rfl) rA rfl (ar_cells _ _ _ _) (by unfold maxLen; omega) (by omega) (by simp; omega) ?_
                  intro v7 w7 hown hg
                  obtain ⟨Aa7, ca7, rfl, ⟨k1, kf, k2, kb⟩, S7⟩ := S5.put (a := a) hrow har o5 hc5 hown hg
                  clear hown hg oA rA hrow har o5
                  refine hK.out _ _ (HG.out _ k2 kb) (fun hHeld => ?_)
                  clear hK K
                  try simp only [Act.put, List.getElem_toArray, List.getElem_cons_succ, List.getElem_cons_zero, List.setIfInBounds_toArray, List.set_cons_zero, List.set_cons_succ]
                  refine wpAnyH_take (i := 18) (oi := _) (v := ?_) rfl (by kernel_rfl) (by kernel_rfl) (by kernel_rfl) (fun _ _ _ h => h) (Or.inl ⟨by rfl, ?_⟩) hHeld ?_
                  rotate_left
                  · (intro w' hSw; (try dsimp only at hSw); go_simp <;> with_reducible rfl)
                  try simp only [Act.put, List.getElem_toArray, List.getElem_cons_succ, List.getElem_cons_zero, List.setIfInBounds_toArray, List.set_cons_zero, List.set_cons_succ]
                  refine wpAnyH_ready (rs := [19]) (by kernel_rfl) (by simp) (AllReadyH.cons (o := _) rfl (fun K hK => ?_) AllReadyH.nil)
                  try simp only [Act.put, List.getElem_toArray, List.getElem_cons_succ, List.getElem_cons_zero, List.setIfInBounds_toArray, List.set_cons_zero, List.set_cons_succ]
                  go_simp
                  refine hK.out _ _ (HC.out S7) (fun hHeld => ?_)
                  clear hK K
                  try simp only [Act.put, List.getElem_toArray, List.getElem_cons_succ, List.getElem_cons_zero, List.setIfInBounds_toArray, List.set_cons_zero, List.set_cons_succ]
                  refine wpAnyH_done (by kernel_rfl) ?_ _
                  go_wp2
                  go_roundw
                  case rel => exact ⟨k + 1, _, O ++ [a], by omega, by go_num, rfl, by rw [List.length_append, List.length_singleton]; omega, HN.out, S7⟩
                  case measure => simp [intOf]; omega
                · skip
                  try simp only [Act.put, List.getElem_toArray, List.getElem_cons_succ, List.getElem_cons_zero, List.setIfInBounds_toArray, List.set_cons_zero, List.set_cons_succ]
                  go_simp
                  refine hK.out _ _ (HK.out _ Sa5) (fun hHeld => ?_)
                  clear hK K
                  try simp only [Act.put, List.getElem_toArray, List.getElem_cons_succ, List.getElem_cons_zero, List.setIfInBounds_toArray, List.set_cons_zero, List.set_cons_succ]
                  refine wpAnyH_ready (rs := [1]) (by kernel_rfl) (by simp) (AllReadyH.cons (o := _) rfl (fun K hK => ?_) AllReadyH.nil)
                  try simp only [Act.put, List.getElem_toArray, List.getElem_cons_succ, List.getElem_cons_zero, List.setIfInBounds_toArray, List.set_cons_zero, List.set_cons_succ]
                  go_simp
                  refine hK.out _ _ (HK.out _ Sa5) (fun hHeld => ?_)
                  clear hK K
                  try simp only [Act.put, List.getElem_toArray, List.getElem_cons_succ, List.getElem_cons_zero, List.setIfInBounds_toArray, List.set_cons_zero, List.set_cons_succ]
                  refine wpAnyH_ready (rs := [17]) (by kernel_rfl) (by simp) (AllReadyH.cons (o := _) rfl (fun K hK => ?_) AllReadyH.nil)
                  try simp only [Act.put, List.getElem_toArray, List.getElem_cons_succ, List.getElem_cons_zero, List.setIfInBounds_toArray, List.set_cons_zero, List.set_cons_succ]
                  rw [if_pos (by rfl)]
                  refine op_append_row _ (by rfl) _ _ 24 (by rfl) w.heap.size 84 i0 (.agg #[.int .i64 0, .slice none 0 0]) 2 32 Try.underlying24 hi hz0 hz1 hz2 rfl (by decide) (.slice Aa O.length ca) O.length ys (by rfl) oA _ (some ⟨w5.heap.size, 0, none⟩) 1 1 [.int .i64 a.t, .slice A5 a.os.length c5] (by rfl) rA rfl (ar_cells _ _ _ _) (by unfold maxLen; omega) (by omega) (by simp; omega) ?_
                  intro v7 w7 hown hg
                  obtain ⟨Aa7, ca7, rfl, ⟨k1, kf, k2, kb⟩, S7⟩ := S5.put (a := a) hrow har o5 hc5 hown hg
                  clear hown hg oA rA hrow har o5
                  refine hK.out _ _ (HG.out _ k2 kb) (fun hHeld => ?_)
                  clear hK K
                  try simp only [Act.put, List.getElem_toArray, List.getElem_cons_succ, List.getElem_cons_zero, List.setIfInBounds_toArray, List.set_cons_zero, List.set_cons_succ]
                  refine wpAnyH_take (i := 18) (oi := _) (v := ?_) rfl (by kernel_rfl) (by kernel_rfl) (by kernel_rfl) (fun _ _ _ h => h) (Or.inl ⟨by rfl, ?_⟩) hHeld ?_
                  rotate_left
                  · (intro w' hSw; (try dsimp only at hSw); go_simp <;> with_reducible rfl)
                  try simp only [Act.put, List.getElem_toArray, List.getElem_cons_succ, List.getElem_cons_zero, List.setIfInBounds_toArray, List.set_cons_zero, List.set_cons_succ]
                  refine wpAnyH_ready (rs := [19]) (by kernel_rfl) (by simp) (AllReadyH.cons (o := _) rfl (fun K hK => ?_) AllReadyH.nil)
                  try simp only [Act.put, List.getElem_toArray, List.getElem_cons_succ, List.getElem_cons_zero, List.setIfInBounds_toArray, List.set_cons_zero, List.set_cons_succ]
                  go_simp
                  refine hK.out _ _ (HC.out S7) (fun hHeld => ?_)
                  clear hK K
                  try simp only [Act.put, List.getElem_toArray, List.getElem_cons_succ, List.getElem_cons_zero, List.setIfInBounds_toArray, List.set_cons_zero, List.set_cons_succ]
                  refine wpAnyH_done (by kernel_rfl) ?_ _
                  go_wp2
                  go_roundw
                  case rel => exact ⟨k + 1, _, O ++ [a], by omega, by go_num, rfl, by rw [List.length_append, List.length_singleton]; omega, HN.out, S7⟩
                  case measure => simp [intOf]; omega
          · skip
            try simp only [Act.put, List.getElem_toArray, List.getElem_cons_succ, List.getElem_cons_zero, List.setIfInBounds_toArray, List.set_cons_zero, List.set_cons_succ]
            go_simp
            go_at_call 103
            refine (l1Copy_any A3 c3 x _ hxd hxs.2 hxs.1).mono ?_
            rintro e w5 ⟨v5, rfl, o5', b5⟩
            have S5 := Sd.call b5
            have o5 := o5'.base Sd.reads.2.2.2.2.2
            obtain ⟨A5, c5, rfl, -, hc5⟩ := o5.formq
            obtain ⟨-, s1, -, s3, -, s5⟩ := S5.reads
            obtain ⟨ys, hrow, har⟩ := S5.2.2.2.2.2.1
            have oA := World.ownsRow.alloc hrow (.cells #[.int .i64 t, .slice A5 x.length c5] 84)
            have rA := row_two w5 (.int .i64 t) (.slice A5 x.length c5) 84
            have Sa5 := S5.call ((Below.refl w5.heap.size w5).alloc (Nat.le_refl _) (.cells #[.int .i64 t, .slice A5 x.length c5] 84))
            obtain ⟨-, -, -, t3, -, -⟩ := Sa5.reads
            clear o5' b5
            refine hK.out _ _ trivial (fun hHeld => ?_)
            clear hK K
            try simp only [Act.put, List.getElem_toArray, List.getElem_cons_succ, List.getElem_cons_zero, List.setIfInBounds_toArray, List.set_cons_zero, List.set_cons_succ]
            refine wpAnyH_take (i := 5) (oi := _) (v := ?_) rfl (by kernel_rfl) (by kernel_rfl) (by kernel_rfl) (fun _ _ _ h => h) (Or.inl ⟨by rfl, ?_⟩) hHeld ?_
            rotate_left
            · (intro w' hSw; (try dsimp only at hSw); go_simp <;> with_reducible rfl)
            try simp only [Act.put, List.getElem_toArray, List.getElem_cons_succ, List.getElem_cons_zero, List.setIfInBounds_toArray, List.set_cons_zero, List.set_cons_succ]
            refine wpAnyH_ready (rs := [1, 6]) (by kernel_rfl) (by simp) (AllReadyH.cons (o := _) rfl (fun K hK => ?_) (AllReadyH.cons (o := _) rfl (fun K hK => ?_) AllReadyH.nil))
            · skip
              try simp only [Act.put, List.getElem_toArray, List.getElem_cons_succ, List.getElem_cons_zero, List.setIfInBounds_toArray, List.set_cons_zero, List.set_cons_succ]
              go_simp
              refine hK.out _ _ trivial (fun hHeld => ?_)
              clear hK K
              try simp only [Act.put, List.getElem_toArray, List.getElem_cons_succ, List.getElem_cons_zero, List.setIfInBounds_toArray, List.set_cons_zero, List.set_cons_succ]
              refine wpAnyH_ready (rs := [6]) (by kernel_rfl) (by simp) (AllReadyH.cons (o := _) rfl (fun K hK => ?_) AllReadyH.nil)
              try simp only [Act.put, List.getElem_toArray, List.getElem_cons_succ, List.getElem_cons_zero, List.setIfInBounds_toArray, List.set_cons_zero, List.set_cons_succ]
              go_simp
              refine hK.out _ _ trivial (fun hHeld => ?_)
              clear hK K
              try simp only [Act.put, List.getElem_toArray, List.getElem_cons_succ, List.getElem_cons_zero, List.setIfInBounds_toArray, List.set_cons_zero, List.set_cons_succ]
              refine wpAnyH_ready (rs := [7]) (by kernel_rfl) (by simp) (AllReadyH.cons (o := _) rfl (fun K hK => ?_) AllReadyH.nil)
              try simp only [Act.put, List.getElem_toArray, List.getElem_cons_succ, List.getElem_cons_zero, List.setIfInBounds_toArray, List.set_cons_zero, List.set_cons_succ]
              rw [if_pos (by rfl)]
              refine op_append_row _ (by rfl) _ _ 24 (by rfl) w.heap.size 84 i0 (.agg #[.int .i64 0, .slice none 0 0]) 2 32 Try.underlying24 hi hz0 hz1 hz2 rfl (by decide) (.slice Aa out.length ca) out.length ys (by rfl) oA _ (some ⟨w5.heap.size, 0, none⟩) 1 1 [.int .i64 t, .slice A5 x.length c5] (by rfl) rA rfl (ar_cells _ _ _ _) (by unfold maxLen; omega) (by omega) (by simp; omega) ?_
              intro v7 w7 hown hg
              obtain ⟨Aa7, ca7, rfl, ⟨k1, kf, k2, kb⟩, S7⟩ := S5.put (a := ⟨t, x⟩) hrow har o5 hc5 hown hg
              clear hown hg oA rA hrow har o5
              refine hK.out _ _ trivial (fun hHeld => ?_)
              clear hK K
              try simp only [Act.put, List.getElem_toArray, List.getElem_cons_succ, List.getElem_cons_zero, List.setIfInBounds_toArray, List.set_cons_zero, List.set_cons_succ]
              refine wpAnyH_take (i := 8) (oi := _) (v := ?_) rfl (by kernel_rfl) (by kernel_rfl) (by kernel_rfl) (fun _ _ _ h => h) (Or.inl ⟨by rfl, ?_⟩) hHeld ?_
              rotate_left
              · (intro w' hSw; (try dsimp only at hSw); go_simp <;> with_reducible rfl)
              try simp only [Act.put, List.getElem_toArray, List.getElem_cons_succ, List.getElem_cons_zero, List.setIfInBounds_toArray, List.set_cons_zero, List.set_cons_succ]
              refine wpAnyH_ready (rs := [9]) (by kernel_rfl) (by simp) (AllReadyH.cons (o := _) rfl (fun K hK => ?_) AllReadyH.nil)
              try simp only [Act.put, List.getElem_toArray, List.getElem_cons_succ, List.getElem_cons_zero, List.setIfInBounds_toArray, List.set_cons_zero, List.set_cons_succ]
              go_simp
              refine hK.out _ _ trivial (fun hHeld => ?_)
              clear hK K
              try simp only [Act.put, List.getElem_toArray, List.getElem_cons_succ, List.getElem_cons_zero, List.setIfInBounds_toArray, List.set_cons_zero, List.set_cons_succ]
              refine wpAnyH_done (by kernel_rfl) ?_ _
              obtain ⟨W7, hW7⟩ : ∃ W7, w7.setCell ⟨w2.heap.size + 1, 1, none⟩ (.slice Aa7 (out.length + 1) ca7) = W7 := ⟨_, rfl⟩
              rw [hW7] at S7 ⊢
              clear hW7 k1 kf k2 kb hHeld S5 Sa5 s1 s3 s5 t3
              rw [hO] at S7
              obtain ⟨Am', cm', Aa, ca, S⟩ := S7
              obtain ⟨-, y1, -, y0, -, -⟩ := S.reads
              have Sd := S.drew
              have hb7 := S.2.2.2.2.2.2
              have y2 := (hb7.cell had).trans G0.out
              have y3 := (hb7.cell (p := ⟨(ad.add (k * 2)).block, (ad.add (k * 2)).off + 1, none⟩) had).trans G1.out
              by_cases he : a.t = t
              · have e7 : (a.t != t) = false := by rw [bne_eq_false_iff_eq]; exact he
                have HN := hid (HN1.out he)
                clear he
                go_wp2
                go_roundw
                case rel => exact ⟨k + 1, true, O, by omega, by go_num, rfl, by omega, HN.out, _, _, _, _, S⟩
                case measure => simp [intOf]; omega
              · have e7 : (a.t != t) = true := by rw [bne_iff_ne]; exact he
                have HN := hid (HN2.out he)
                clear he
                go_wp2_with fail
                have HG : Hid (∀ x, x.cell? ⟨w.heap.size, 1, none⟩ = some (.slice (some ad) q.rs.length c2) → Below w.heap.size w x → x.cell? ⟨w.heap.size, 1, none⟩ = some (.slice (some ad) q.rs.length c2) ∧ x.cell? (ad.add (k * 2)) = some (.int .i64 a.t) ∧ x.cell? ⟨(ad.add (k * 2)).block, (ad.add (k * 2)).off + 1, none⟩ = some (.slice A' a.os.length c')) :=
                  fun x h2 h3 => ⟨h2, (h3.cell had).trans G0.out, (h3.cell (p := ⟨(ad.add (k * 2)).block, (ad.add (k * 2)).off + 1, none⟩) had).trans G1.out⟩
                have HK : Hid (∀ x, CpE w w.heap.size (w.heap.size + 1) A q.m.length c (some ad) q.rs.length c2 (w2.heap.size + 1) q.m Am' cm' Aa ca O x → x.cell? ⟨w.heap.size, 1, none⟩ = some (.slice (some ad) q.rs.length c2) ∧ x.cell? (ad.add (k * 2)) = some (.int .i64 a.t) ∧ x.cell? ⟨(ad.add (k * 2)).block, (ad.add (k * 2)).off + 1, none⟩ = some (.slice A' a.os.length c')) :=
                  fun x h => HG.out x h.reads.2.1 h.2.2.2.2.2.2
                have HC : Hid (∀ {x}, CpSt w w.heap.size (w.heap.size + 1) A q.m.length c (some ad) q.rs.length c2 (w2.heap.size + 1) q.m (O ++ [a]) x → x.cell? ⟨w.heap.size, 1, none⟩ = some (.slice (some ad) q.rs.length c2) ∧ x.cell? (ad.add (k * 2)) = some (.int .i64 a.t) ∧ x.cell? ⟨(ad.add (k * 2)).block, (ad.add (k * 2)).off + 1, none⟩ = some (.slice A' a.os.length c')) :=
                  fun {x} ⟨_, _, _, _, h⟩ => HG.out x h.reads.2.1 h.2.2.2.2.2.2
                have g3d := ((g3.below S.2.2.2.2.2.2 (Nat.le_refl _)).more S.2.2.2.2.2.2.size).drew
                refine wp_region_held_drew (S := fun w' => w'.cell? ⟨w.heap.size, 1, none⟩ = some (.slice (some ad) q.rs.length c2) ∧ w'.cell? (ad.add (k * 2)) = some (.int .i64 a.t) ∧ w'.cell? ⟨(ad.add (k * 2)).block, (ad.add (k * 2)).off + 1, none⟩ = some (.slice A' a.os.length c')) (by kernel_rfl) (HK.out _ Sd) (fun hHeld => ?_)
                refine wpAnyH_take (i := 0) (oi := _) (v := ?_) rfl (by kernel_rfl) (by kernel_rfl) (by kernel_rfl) (fun _ _ _ h => h) (Or.inl ⟨by rfl, ?_⟩) hHeld ?_
                rotate_left
                · (intro w' hSw; (try dsimp only at hSw); go_simp <;> with_reducible rfl)
                try simp only [Act.put, List.getElem_toArray, List.getElem_cons_succ, List.getElem_cons_zero, List.setIfInBounds_toArray, List.set_cons_zero, List.set_cons_succ]
                refine wpAnyH_take (i := 2) (oi := _) (v := ?_) rfl (by kernel_rfl) (by kernel_rfl) (by kernel_rfl) (fun _ _ _ h => h) (Or.inl ⟨by rfl, ?_⟩) hHeld ?_
                rotate_left
                · (intro w' hSw; (try dsimp only at hSw); go_simp <;> with_reducible rfl)
                try simp only [Act.put, List.getElem_toArray, List.getElem_cons_succ, List.getElem_cons_zero, List.setIfInBounds_toArray, List.set_cons_zero, List.set_cons_succ]
                refine wpAnyH_take (i := 3) (oi := _) (v := ?_) rfl (by kernel_rfl) (by kernel_rfl) (by kernel_rfl) (fun _ _ _ h => h) (Or.inl ⟨by rfl, ?_⟩) hHeld ?_
                rotate_left
                · (intro w' hSw; (try dsimp only at hSw); go_simp <;> with_reducible rfl)
                try simp only [Act.put, List.getElem_toArray, List.getElem_cons_succ, List.getElem_cons_zero, List.setIfInBounds_toArray, List.set_cons_zero, List.set_cons_succ]
                refine wpAnyH_take (i := 4) (oi := _) (v := ?_) rfl (by kernel_rfl) (by kernel_rfl) (by kernel_rfl) (fun _ _ _ h => h) (Or.inl ⟨by rfl, ?_⟩) hHeld ?_
                rotate_left
                · (intro w' hSw; (try dsimp only at hSw); go_simp <;> with_reducible rfl)
                try simp only [Act.put, List.getElem_toArray, List.getElem_cons_succ, List.getElem_cons_zero, List.setIfInBounds_toArray, List.set_cons_zero, List.set_cons_succ]
                refine wpAnyH_take (i := 5) (oi := _) (v := ?_) rfl (by kernel_rfl) (by kernel_rfl) (by kernel_rfl) (fun _ _ _ h => h) (Or.inl ⟨by rfl, ?_⟩) hHeld ?_
                rotate_left
                · (intro w' hSw; (try dsimp only at hSw); go_simp <;> with_reducible rfl)
                try simp only [Act.put, List.getElem_toArray, List.getElem_cons_succ, List.getElem_cons_zero, List.setIfInBounds_toArray, List.set_cons_zero, List.set_cons_succ]
                refine wpAnyH_take (i := 6) (oi := _) (v := ?_) rfl (by kernel_rfl) (by kernel_rfl) (by kernel_rfl) (fun _ _ _ h => h) (Or.inl ⟨by rfl, ?_⟩) hHeld ?_
                rotate_left
                · (intro w' hSw; (try dsimp only at hSw); go_simp <;> with_reducible rfl)
                try simp only [Act.put, List.getElem_toArray, List.getElem_cons_succ, List.getElem_cons_zero, List.setIfInBounds_toArray, List.set_cons_zero, List.set_cons_succ]
                refine wpAnyH_take (i := 7) (oi := _) (v := ?_) rfl (by kernel_rfl) (by kernel_rfl) (by kernel_rfl) (fun _ _ _ h => h) (Or.inl ⟨by rfl, ?_⟩) hHeld ?_
                rotate_left
                · (intro w' hSw; (try dsimp only at hSw); go_simp <;> with_reducible rfl)
                try simp only [Act.put, List.getElem_toArray, List.getElem_cons_succ, List.getElem_cons_zero, List.setIfInBounds_toArray, List.set_cons_zero, List.set_cons_succ]
                refine wpAnyH_take (i := 8) (oi := _) (v := ?_) rfl (by kernel_rfl) (by kernel_rfl) (by kernel_rfl) (fun _ _ _ h => h) (Or.inl ⟨by rfl, ?_⟩) hHeld ?_
                rotate_left
                · (intro w' hSw; (try dsimp only at hSw); go_simp <;> with_reducible rfl)
                try simp only [Act.put, List.getElem_toArray, List.getElem_cons_succ, List.getElem_cons_zero, List.setIfInBounds_toArray, List.set_cons_zero, List.set_cons_succ]
                refine wpAnyH_take (i := 9) (oi := _) (v := ?_) rfl (by kernel_rfl) (by kernel_rfl) (by kernel_rfl) (fun _ _ _ h => h) (Or.inl ⟨by rfl, ?_⟩) hHeld ?_
                rotate_left
                · (intro w' hSw; (try dsimp only at hSw); go_simp <;> with_reducible rfl)
                try simp only [Act.put, List.getElem_toArray, List.getElem_cons_succ, List.getElem_cons_zero, List.setIfInBounds_toArray, List.set_cons_zero, List.set_cons_succ]
                refine wpAnyH_take (i := 10) (oi := _) (v := ?_) rfl (by kernel_rfl) (by kernel_rfl) (by kernel_rfl) (fun _ _ _ h => h) (Or.inl ⟨by rfl, ?_⟩) hHeld ?_
                rotate_left
                · (intro w' hSw; (try dsimp only at hSw); go_simp <;> with_reducible rfl)
                try simp only [Act.put, List.getElem_toArray, List.getElem_cons_succ, List.getElem_cons_zero, List.setIfInBounds_toArray, List.set_cons_zero, List.set_cons_succ]
                refine wpAnyH_take (i := 11) (oi := _) (v := ?_) rfl (by kernel_rfl) (by kernel_rfl) (by kernel_rfl) (fun _ _ _ h => h) (Or.inl ⟨by rfl, ?_⟩) hHeld ?_
                rotate_left
                · (intro w' hSw; (try dsimp only at hSw); go_simp <;> with_reducible rfl)
                try simp only [Act.put, List.getElem_toArray, List.getElem_cons_succ, List.getElem_cons_zero, List.setIfInBounds_toArray, List.set_cons_zero, List.set_cons_succ]
                refine wpAnyH_take (i := 12) (oi := _) (v := ?_) rfl (by kernel_rfl) (by kernel_rfl) (by kernel_rfl) (fun _ _ _ h => h) (Or.inl ⟨by rfl, ?_⟩) hHeld ?_
                rotate_left
                · (intro w' hSw; (try dsimp only at hSw); go_simp <;> with_reducible rfl)
                try simp only [Act.put, List.getElem_toArray, List.getElem_cons_succ, List.getElem_cons_zero, List.setIfInBounds_toArray, List.set_cons_zero, List.set_cons_succ]
                refine wpAnyH_take (i := 13) (oi := _) (v := ?_) rfl (by kernel_rfl) (by kernel_rfl) (by kernel_rfl) (fun _ _ _ h => h) (Or.inl ⟨by rfl, ?_⟩) hHeld ?_
                rotate_left
                · (intro w' hSw; (try dsimp only at hSw); go_simp <;> with_reducible rfl)
                try simp only [Act.put, List.getElem_toArray, List.getElem_cons_succ, List.getElem_cons_zero, List.setIfInBounds_toArray, List.set_cons_zero, List.set_cons_succ]
                refine wpAnyH_ready (rs := [1, 14]) (by kernel_rfl) (by simp) (AllReadyH.cons (o := _) rfl (fun K hK => ?_) (AllReadyH.cons (o := _) rfl (fun K hK => ?_) AllReadyH.nil))
                · skip
                  try simp only [Act.put, List.getElem_toArray, List.getElem_cons_succ, List.getElem_cons_zero, List.setIfInBounds_toArray, List.set_cons_zero, List.set_cons_succ]
                  go_simp
                  refine hK.out _ _ (HK.out _ Sd) (fun hHeld => ?_)
                  clear hK K
                  try simp only [Act.put, List.getElem_toArray, List.getElem_cons_succ, List.getElem_cons_zero, List.setIfInBounds_toArray, List.set_cons_zero, List.set_cons_succ]
                  refine wpAnyH_ready (rs := [14]) (by kernel_rfl) (by simp) (AllReadyH.cons (o := _) rfl (fun K hK => ?_) AllReadyH.nil)
                  try simp only [Act.put, List.getElem_toArray, List.getElem_cons_succ, List.getElem_cons_zero, List.setIfInBounds_toArray, List.set_cons_zero, List.set_cons_succ]
                  go_simp
                  go_at_call 103
                  refine (l1Copy_any A' c' a.os _ g3d hfa.2 hfa.1).mono ?_
                  rintro e w5 ⟨v5, rfl, o5', b5⟩
                  have S5 := Sd.call b5
                  have o5 := o5'.base Sd.reads.2.2.2.2.2
                  obtain ⟨A5, c5, rfl, -, hc5⟩ := o5.formq
                  obtain ⟨-, s1, -, s3, -, s5⟩ := S5.reads
                  obtain ⟨ys, hrow, har⟩ := S5.2.2.2.2.2.1
                  have oA := World.ownsRow.alloc hrow (.cells #[.int .i64 a.t, .slice A5 a.os.length c5] 84)
                  have rA := row_two w5 (.int .i64 a.t) (.slice A5 a.os.length c5) 84
                  have Sa5 := S5.call ((Below.refl w5.heap.size w5).alloc (Nat.le_refl _) (.cells #[.int .i64 a.t, .slice A5 a.os.length c5] 84))
                  obtain ⟨-, -, -, t3, -, -⟩ := Sa5.reads
                  clear o5' b5
                  refine hK.out _ _ (HK.out _ S5) (fun hHeld => ?_)
                  clear hK K
                  try simp only [Act.put, List.getElem_toArray, List.getElem_cons_succ, List.getElem_cons_zero, List.setIfInBounds_toArray, List.set_cons_zero, List.set_cons_succ]
                  refine wpAnyH_take (i := 15) (oi := _) (v := ?_) rfl (by kernel_rfl) (by kernel_rfl) (by kernel_rfl) (fun _ _ _ h => h) (Or.inl ⟨by rfl, ?_⟩) hHeld ?_
                  rotate_left
                  · (intro w' hSw; (try dsimp only at hSw); go_simp <;> with_reducible rfl)
                  try simp only [Act.put, List.getElem_toArray, List.getElem_cons_succ, List.getElem_cons_zero, List.setIfInBounds_toArray, List.set_cons_zero, List.set_cons_succ]
                  refine wpAnyH_ready (rs := [16]) (by kernel_rfl) (by simp) (AllReadyH.cons (o := _) rfl (fun K hK => ?_) AllReadyH.nil)
                  try simp only [Act.put, List.getElem_toArray, List.getElem_cons_succ, List.getElem_cons_zero, List.setIfInBounds_toArray, List.set_cons_zero, List.set_cons_succ]
                  go_simp
                  refine hK.out _ _ (HK.out _ Sa5) (fun hHeld => ?_)
                  clear hK K
                  try simp only [Act.put, List.getElem_toArray, List.getElem_cons_succ, List.getElem_cons_zero, List.setIfInBounds_toArray, List.set_cons_zero, List.set_cons_succ]
                  refine wpAnyH_ready (rs := [17]) (by kernel_rfl) (by simp) (AllReadyH.cons (o := _) rfl (fun K hK => ?_) AllReadyH.nil)
                  try simp only [Act.put, List.getElem_toArray, List.getElem_cons_succ, List.getElem_cons_zero, List.setIfInBounds_toArray, List.set_cons_zero, List.set_cons_succ]
                  rw [if_pos (by rfl)]
                  refine op_append_row _ (by rfl) _ _ 24 (by rfl) w.heap.size 84 i0 (.agg #[.int .i64 0, .slice none 0 0]) 2 32 Try.underlying24 hi hz0 hz1 hz2 rfl (by decide) (.slice Aa O.length ca) O.length ys (by rfl) oA _ (some ⟨w5.heap.size, 0, none⟩) 1 1 [.int .i64 a.t, .slice A5 a.os.length c5] (by rfl) rA rfl (ar_cells _ _ _ _) (by unfold maxLen; omega) (by omega) (by simp; omega) ?_
                  intro v7 w7 hown hg
                  obtain ⟨Aa7, ca7, rfl, ⟨k1, kf, k2, kb⟩, S7⟩ := S5.put (a := a) hrow har o5 hc5 hown hg
                  clear hown hg oA rA hrow har o5
                  refine hK.out _ _ (HG.out _ k2 kb) (fun hHeld => ?_)
                  clear hK K
                  try simp only [Act.put, List.getElem_toArray, List.getElem_cons_succ, List.getElem_cons_zero, List.setIfInBounds_toArray, List.set_cons_zero, List.set_cons_succ]
                  refine wpAnyH_take (i := 18) (oi := _) (v := ?_) rfl (by kernel_rfl) (by kernel_rfl) (by kernel_rfl) (fun _ _ _ h => h) (Or.inl ⟨by rfl, ?_⟩) hHeld ?_
                  rotate_left
                  · (intro w' hSw; (try dsimp only at hSw); go_simp <;> with_reducible rfl)
                  try simp only [Act.put, List.getElem_toArray, List.getElem_cons_succ, List.getElem_cons_zero, List.setIfInBounds_toArray, List.set_cons_zero, List.set_cons_succ]
                  refine wpAnyH_ready (rs := [19]) (by kernel_rfl) (by simp) (AllReadyH.cons (o := _) rfl (fun K hK => ?_) AllReadyH.nil)
                  try simp only [Act.put, List.getElem_toArray, List.getElem_cons_succ, List.getElem_cons_zero, List.setIfInBounds_toArray, List.set_cons_zero, List.set_cons_succ]
                  go_simp
                  refine hK.out _ _ (HC.out S7) (fun hHeld => ?_)
                  clear hK K
                  try simp only [Act.put, List.getElem_toArray, List.getElem_cons_succ, List.getElem_cons_zero, List.setIfInBounds_toArray, List.set_cons_zero, List.set_cons_succ]
                  refine wpAnyH_done (by kernel_rfl) ?_ _
                  go_wp2
                  go_roundw
                  case rel => exact ⟨k + 1, _, O ++ [a], by omega, by go_num, rfl, by rw [List.length_append, List.length_singleton]; omega, HN.out, S7⟩
                  case measure => simp [intOf]; omega
                · skip
                  try simp only [Act.put, List.getElem_toArray, List.getElem_cons_succ, List.getElem_cons_zero, List.setIfInBounds_toArray, List.set_cons_zero, List.set_cons_succ]
                  go_simp
                  go_at_call 103
                  refine (l1Copy_any A' c' a.os _ g3d hfa.2 hfa.1).mono ?_
                  rintro e w5 ⟨v5, rfl, o5', b5⟩
                  have S5 := Sd.call b5
                  have o5 := o5'.base Sd.reads.2.2.2.2.2
                  obtain ⟨A5, c5, rfl, -, hc5⟩ := o5.formq
                  obtain ⟨-, s1, -, s3, -, s5⟩ := S5.reads
                  obtain ⟨ys, hrow, har⟩ := S5.2.2.2.2.2.1
                  have oA := World.ownsRow.alloc hrow (.cells #[.int .i64 a.t, .slice A5 a.os.length c5] 84)
                  have rA := row_two w5 (.int .i64 a.t) (.slice A5 a.os.length c5) 84
                  have Sa5 := S5.call ((Below.refl w5.heap.size w5).alloc (Nat.le_refl _) (.cells #[.int .i64 a.t, .slice A5 a.os.length c5] 84))
                  obtain ⟨-, -, -, t3, -, -⟩ := Sa5.reads
                  clear o5' b5
                  refine hK.out _ _ (HK.out _ S5) (fun hHeld => ?_)
                  clear hK K
                  try simp only [Act.put, List.getElem_toArray, List.getElem_cons_succ, List.getElem_cons_zero, List.setIfInBounds_toArray, List.set_cons_zero, List.set_cons_succ]
                  refine wpAnyH_take (i := 15) (oi := _) (v := ?_) rfl (by kernel_rfl) (by kernel_rfl) (by kernel_rfl) (fun _ _ _ h => h) (Or.inl ⟨by rfl, ?_⟩) hHeld ?_
                  rotate_left
                  · (intro w' hSw; (try dsimp only at hSw); go_simp <;> with_reducible rfl)
                  try simp only [Act.put, List.getElem_toArray, List.getElem_cons_succ, List.getElem_cons_zero, List.setIfInBounds_toArray, List.set_cons_zero, List.set_cons_succ]
                  refine wpAnyH_ready (rs := [1, 16]) (by kernel_rfl) (by simp) (AllReadyH.cons (o := _) rfl (fun K hK => ?_) (AllReadyH.cons (o := _) rfl (fun K hK => ?_) AllReadyH.nil))
                  · skip
                    try simp only [Act.put, List.getElem_toArray, List.getElem_cons_succ, List.getElem_cons_zero, List.setIfInBounds_toArray, List.set_cons_zero, List.set_cons_succ]
                    go_simp
                    refine hK.out _ _ (HK.out _ S5) (fun hHeld => ?_)
                    clear hK K
                    try simp only [Act.put, List.getElem_toArray, List.getElem_cons_succ, List.getElem_cons_zero, List.setIfInBounds_toArray, List.set_cons_zero, List.set_cons_succ]
                    refine wpAnyH_ready (rs := [16]) (by kernel_rfl) (by simp) (AllReadyH.cons (o := _) rfl (fun K hK => ?_) AllReadyH.nil)
                    try simp only [Act.put, List.getElem_toArray, List.getElem_cons_succ, List.getElem_cons_zero, List.setIfInBounds_toArray, List.set_cons_zero, List.set_cons_succ]
                    go_simp
                    refine hK.out _ _ (HK.out _ Sa5) (fun hHeld => ?_)
                    clear hK K
                    try simp only [Act.put, List.getElem_toArray, List.getElem_cons_succ, List.getElem_cons_zero, List.setIfInBounds_toArray, List.set_cons_zero, List.set_cons_succ]
                    refine wpAnyH_ready (rs := [17]) (by kernel_rfl) (by simp) (AllReadyH.cons (o := _) rfl (fun K hK => ?_) AllReadyH.nil)
                    try simp only [Act.put, List.getElem_toArray, List.getElem_cons_succ, List.getElem_cons_zero, List.setIfInBounds_toArray, List.set_cons_zero, List.set_cons_succ]
                    rw [if_pos (by rfl)]
                    refine op_append_row _ (by rfl) _ _ 24 (by rfl) w.heap.size 84 i0 (.agg #[.int .i64 0, .slice none 0 0]) 2 32 Try.underlying24 hi hz0 hz1 hz2 rfl (by decide) (.slice Aa O.length ca) O.length ys (by rfl) oA _ (some ⟨w5.heap.size, 0, none⟩) 1 1 [.int .i64 a.t, .slice A5 a.os.length c5] (by rfl) rA rfl (ar_cells _ _ _ _) (by unfold maxLen; omega) (by omega) (by simp; omega) ?_
                    intro v7 w7 hown hg
                    obtain ⟨Aa7, ca7, rfl, ⟨k1, kf, k2, kb⟩, S7⟩ := S5.put (a := a) hrow har o5 hc5 hown hg
                    clear hown hg oA rA hrow har o5
                    refine hK.out _ _ (HG.out _ k2 kb) (fun hHeld => ?_)
                    clear hK K
                    try simp only [Act.put, List.getElem_toArray, List.getElem_cons_succ, List.getElem_cons_zero, List.setIfInBounds_toArray, List.set_cons_zero, List.set_cons_succ]
                    refine wpAnyH_take (i := 18) (oi := _) (v := ?_) rfl (by kernel_rfl) (by kernel_rfl) (by kernel_rfl) (fun _ _ _ h => h) (Or.inl ⟨by rfl, ?_⟩) hHeld ?_
                    rotate_left
                    · (intro w' hSw; (try dsimp only at hSw); go_simp <;> with_reducible rfl)
                    try simp only [Act.put, List.getElem_toArray, List.getElem_cons_succ, List.getElem_cons_zero, List.setIfInBounds_toArray, List.set_cons_zero, List.set_cons_succ]
                    refine wpAnyH_ready (rs := [19]) (by kernel_rfl) (by simp) (AllReadyH.cons (o := _) rfl (fun K hK => ?_) AllReadyH.nil)
                    try simp only [Act.put, List.getElem_toArray, List.getElem_cons_succ, List.getElem_cons_zero, List.setIfInBounds_toArray, List.set_cons_zero, List.set_cons_succ]
                    go_simp
                    refine hK.out _ _ (HC.out S7) (fun hHeld => ?_)
                    clear hK K
                    try simp only [Act.put, List.getElem_toArray, List.getElem_cons_succ, List.getElem_cons_zero, List.setIfInBounds_toArray, List.set_cons_zero, List.set_cons_succ]
                    refine wpAnyH_done (by kernel_rfl) ?_ _
                    go_wp2
                    go_roundw
                    case rel => exact ⟨k + 1, _, O ++ [a], by omega, by go_num, rfl, by rw [List.length_append, List.length_singleton]; omega, HN.out, S7⟩
                    case measure => simp [intOf]; omega
                  · skip
                    try simp only [Act.put, List.getElem_toArray, List.getElem_cons_succ, List.getElem_cons_zero, List.setIfInBounds_toArray, List.set_cons_zero, List.set_cons_succ]
                    go_simp
                    refine hK.out _ _ (HK.out _ Sa5) (fun hHeld => ?_)
                    clear hK K
                    try simp only [Act.put, List.getElem_toArray, List.getElem_cons_succ, List.getElem_cons_zero, List.setIfInBounds_toArray, List.set_cons_zero, List.set_cons_succ]
                    refine wpAnyH_ready (rs := [1]) (by kernel_rfl) (by simp) (AllReadyH.cons (o := _) rfl (fun K hK => ?_) AllReadyH.nil)
                    try simp only [Act.put, List.getElem_toArray, List.getElem_cons_succ, List.getElem_cons_zero, List.setIfInBounds_toArray, List.set_cons_zero, List.set_cons_succ]
                    go_simp
                    refine hK.out _ _ (HK.out _ Sa5) (fun hHeld => ?_)
                    clear hK K
                    try simp only [Act.put, List.getElem_toArray, List.getElem_cons_succ, List.getElem_cons_zero, List.setIfInBounds_toArray, List.set_cons_zero, List.set_cons_succ]
                    refine wpAnyH_ready (rs := [17]) (by kernel_rfl) (by simp) (AllReadyH.cons (o := _) rfl (fun K hK => ?_) AllReadyH.nil)
                    try simp only [Act.put, List.getElem_toArray, List.getElem_cons_succ, List.getElem_cons_zero, List.setIfInBounds_toArray, List.set_cons_zero, List.set_cons_succ]
                    rw [if_pos (by rfl)]
                    refine op_append_row _ (by rfl) _ _ 24 (by rfl) w.heap.size 84 i0 (.agg #[.int .i64 0, .slice none 0 0]) 2 32 Try.underlying24 hi hz0 hz1 hz2 rfl (by decide) (.slice Aa O.length ca) O.length ys (by rfl) oA _ (some ⟨w5.heap.size, 0, none⟩) 1 1 [.int .i64 a.t, .slice A5 a.os.length c5] (by rfl) rA rfl (ar_cells _ _ _ _) (by unfold maxLen; omega) (by omega) (by simp; omega) ?_
                    intro v7 w7 hown hg
                    obtain ⟨Aa7, ca7, rfl, ⟨k1, kf, k2, kb⟩, S7⟩ := S5.put (a := a) hrow har o5 hc5 hown hg
                    clear hown hg oA rA hrow har o5
                    refine hK.out _ _ (HG.out _ k2 kb) (fun hHeld => ?_)
                    clear hK K
                    try simp only [Act.put, List.getElem_toArray, List.getElem_cons_succ, List.getElem_cons_zero, List.setIfInBounds_toArray, List.set_cons_zero, List.set_cons_succ]
                    refine wpAnyH_take (i := 18) (oi := _) (v := ?_) rfl (by kernel_rfl) (by kernel_rfl) (by kernel_rfl) (fun _ _ _ h => h) (Or.inl ⟨by rfl, ?_⟩) hHeld ?_
                    rotate_left
                    · (intro w' hSw; (try dsimp only at hSw); go_simp <;> with_reducible rfl)
                    try simp only [Act.put, List.getElem_toArray, List.getElem_cons_succ, List.getElem_cons_zero, List.setIfInBounds_toArray, List.set_cons_zero, List.set_cons_succ]
                    refine wpAnyH_ready (rs := [19]) (by kernel_rfl) (by simp) (AllReadyH.cons (o := _) rfl (fun K hK => ?_) AllReadyH.nil)
                    try simp only [Act.put, List.getElem_toArray, List.getElem_cons_succ, List.getElem_cons_zero, List.setIfInBounds_toArray, List.set_cons_zero, List.set_cons_succ]
                    go_simp
                    refine hK.out _ _ (HC.out S7) (fun hHeld => ?_)
                    clear hK K
                    try simp only [Act.put, List.getElem_toArray, List.getElem_cons_succ, List.getElem_cons_zero, List.setIfInBounds_toArray, List.set_cons_zero, List.set_cons_succ]
                    refine wpAnyH_done (by kernel_rfl) ?_ _
                    go_wp2
                    go_roundw
                    case rel => exact ⟨k + 1, _, O ++ [a], by omega, by go_num, rfl, by rw [List.length_append, List.length_singleton]; omega, HN.out, S7⟩
                    case measure => simp [intOf]; omega
            · skip
              try simp only [Act.put, List.getElem_toArray, List.getElem_cons_succ, List.getElem_cons_zero, List.setIfInBounds_toArray, List.set_cons_zero, List.set_cons_succ]
              go_simp
              refine hK.out _ _ trivial (fun hHeld => ?_)
              clear hK K
              try simp only [Act.put, List.getElem_toArray, List.getElem_cons_succ, List.getElem_cons_zero, List.setIfInBounds_toArray, List.set_cons_zero, List.set_cons_succ]
              refine wpAnyH_ready (rs := [1]) (by kernel_rfl) (by simp) (AllReadyH.cons (o := _) rfl (fun K hK => ?_) AllReadyH.nil)
              try simp only [Act.put, List.getElem_toArray, List.getElem_cons_succ, List.getElem_cons_zero, List.setIfInBounds_toArray, List.set_cons_zero, List.set_cons_succ]
              go_simp
              refine hK.out _ _ trivial (fun hHeld => ?_)
              clear hK K
              try simp only [Act.put, List.getElem_toArray, List.getElem_cons_succ, List.getElem_cons_zero, List.setIfInBounds_toArray, List.set_cons_zero, List.set_cons_succ]
              refine wpAnyH_ready (rs := [7]) (by kernel_rfl) (by simp) (AllReadyH.cons (o := _) rfl (fun K hK => ?_) AllReadyH.nil)
              try simp only [Act.put, List.getElem_toArray, List.getElem_cons_succ, List.getElem_cons_zero, List.setIfInBounds_toArray, List.set_cons_zero, List.set_cons_succ]
              rw [if_pos (by rfl)]
              refine op_append_row _ (by rfl) _ _ 24 (by rfl) w.heap.size 84 i0 (.agg #[.int .i64 0, .slice none 0 0]) 2 32 Try.underlying24 hi hz0 hz1 hz2 rfl (by decide) (.slice Aa out.length ca) out.length ys (by rfl) oA _ (some ⟨w5.heap.size, 0, none⟩) 1 1 [.int .i64 t, .slice A5 x.length c5] (by rfl) rA rfl (ar_cells _ _ _ _) (by unfold maxLen; omega) (by omega) (by simp; omega) ?_
              intro v7 w7 hown hg
              obtain ⟨Aa7, ca7, rfl, ⟨k1, kf, k2, kb⟩, S7⟩ := S5.put (a := ⟨t, x⟩) hrow har o5 hc5 hown hg
              clear hown hg oA rA hrow har o5
              refine hK.out _ _ trivial (fun hHeld => ?_)
              clear hK K
              try simp only [Act.put, List.getElem_toArray, List.getElem_cons_succ, List.getElem_cons_zero, List.setIfInBounds_toArray, List.set_cons_zero, List.set_cons_succ]
              refine wpAnyH_take (i := 8) (oi := _) (v := ?_) rfl (by kernel_rfl) (by kernel_rfl) (by kernel_rfl) (fun _ _ _ h => h) (Or.inl ⟨by rfl, ?_⟩) hHeld ?_
              rotate_left
              · (intro w' hSw; (try dsimp only at hSw); go_simp <;> with_reducible rfl)
              try simp only [Act.put, List.getElem_toArray, List.getElem_cons_succ, List.getElem_cons_zero, List.setIfInBounds_toArray, List.set_cons_zero, List.set_cons_succ]
              refine wpAnyH_ready (rs := [9]) (by kernel_rfl) (by simp) (AllReadyH.cons (o := _) rfl (fun K hK => ?_) AllReadyH.nil)
              try simp only [Act.put, List.getElem_toArray, List.getElem_cons_succ, List.getElem_cons_zero, List.setIfInBounds_toArray, List.set_cons_zero, List.set_cons_succ]
              go_simp
              refine hK.out _ _ trivial (fun hHeld => ?_)
              clear hK K
              try simp only [Act.put, List.getElem_toArray, List.getElem_cons_succ, List.getElem_cons_zero, List.setIfInBounds_toArray, List.set_cons_zero, List.set_cons_succ]
              refine wpAnyH_done (by kernel_rfl) ?_ _
              obtain ⟨W7, hW7⟩ : ∃ W7, w7.setCell ⟨w2.heap.size + 1, 1, none⟩ (.slice Aa7 (out.length + 1) ca7) = W7 := ⟨_, rfl⟩
              rw [hW7] at S7 ⊢
              clear hW7 k1 kf k2 kb hHeld S5 Sa5 s1 s3 s5 t3
              rw [hO] at S7
              obtain ⟨Am', cm', Aa, ca, S⟩ := S7
              obtain ⟨-, y1, -, y0, -, -⟩ := S.reads
              have Sd := S.drew
              have hb7 := S.2.2.2.2.2.2
              have y2 := (hb7.cell had).trans G0.out
              have y3 := (hb7.cell (p := ⟨(ad.add (k * 2)).block, (ad.add (k * 2)).off + 1, none⟩) had).trans G1.out
              by_cases he : a.t = t
              · have e7 : (a.t != t) = false := by rw [bne_eq_false_iff_eq]; exact he
                have HN := hid (HN1.out he)
                clear he
                go_wp2
                go_roundw
                case rel => exact ⟨k + 1, true, O, by omega, by go_num, rfl, by omega, HN.out, _, _, _, _, S⟩
                case measure => simp [intOf]; omega
              · have e7 : (a.t != t) = true := by rw [bne_iff_ne]; exact he
                have HN := hid (HN2.out he)
                clear he
                go_wp2_with fail
                have HG : Hid (∀ x, x.cell? ⟨w.heap.size, 1, none⟩ = some (.slice (some ad) q.rs.length c2) → Below w.heap.size w x → x.cell? ⟨w.heap.size, 1, none⟩ = some (.slice (some ad) q.rs.length c2) ∧ x.cell? (ad.add (k * 2)) = some (.int .i64 a.t) ∧ x.cell? ⟨(ad.add (k * 2)).block, (ad.add (k * 2)).off + 1, none⟩ = some (.slice A' a.os.length c')) :=
                  fun x h2 h3 => ⟨h2, (h3.cell had).trans G0.out, (h3.cell (p := ⟨(ad.add (k * 2)).block, (ad.add (k * 2)).off + 1, none⟩) had).trans G1.out⟩
                have HK : Hid (∀ x, CpE w w.heap.size (w.heap.size + 1) A q.m.length c (some ad) q.rs.length c2 (w2.heap.size + 1) q.m Am' cm' Aa ca O x → x.cell? ⟨w.heap.size, 1, none⟩ = some (.slice (some ad) q.rs.length c2) ∧ x.cell? (ad.add (k * 2)) = some (.int .i64 a.t) ∧ x.cell? ⟨(ad.add (k * 2)).block, (ad.add (k * 2)).off + 1, none⟩ = some (.slice A' a.os.length c')) :=
                  fun x h => HG.out x h.reads.2.1 h.2.2.2.2.2.2
                have HC : Hid (∀ {x}, CpSt w w.heap.size (w.heap.size + 1) A q.m.length c (some ad) q.rs.length c2 (w2.heap.size + 1) q.m (O ++ [a]) x → x.cell? ⟨w.heap.size, 1, none⟩ = some (.slice (some ad) q.rs.length c2) ∧ x.cell? (ad.add (k * 2)) = some (.int .i64 a.t) ∧ x.cell? ⟨(ad.add (k * 2)).block, (ad.add (k * 2)).off + 1, none⟩ = some (.slice A' a.os.length c')) :=
                  fun {x} ⟨_, _, _, _, h⟩ => HG.out x h.reads.2.1 h.2.2.2.2.2.2
                have g3d := ((g3.below S.2.2.2.2.2.2 (Nat.le_refl _)).more S.2.2.2.2.2.2.size).drew
                refine wp_region_held_drew (S := fun w' => w'.cell? ⟨w.heap.size, 1, none⟩ = some (.slice (some ad) q.rs.length c2) ∧ w'.cell? (ad.add (k * 2)) = some (.int .i64 a.t) ∧ w'.cell? ⟨(ad.add (k * 2)).block, (ad.add (k * 2)).off + 1, none⟩ = some (.slice A' a.os.length c')) (by kernel_rfl) (HK.out _ Sd) (fun hHeld => ?_)
                refine wpAnyH_take (i := 0) (oi := _) (v := ?_) rfl (by kernel_rfl) (by kernel_rfl) (by kernel_rfl) (fun _ _ _ h => h) (Or.inl ⟨by rfl, ?_⟩) hHeld ?_
                rotate_left
                · (intro w' hSw; (try dsimp only at hSw); go_simp <;> with_reducible rfl)
                try simp only [Act.put, List.getElem_toArray, List.getElem_cons_succ, List.getElem_cons_zero, List.setIfInBounds_toArray, List.set_cons_zero, List.set_cons_succ]
                refine wpAnyH_take (i := 2) (oi := _) (v := ?_) rfl (by kernel_rfl) (by kernel_rfl) (by kernel_rfl) (fun _ _ _ h => h) (Or.inl ⟨by rfl, ?_⟩) hHeld ?_
                rotate_left
                · (intro w' hSw; (try dsimp only at hSw); go_simp <;> with_reducible rfl)
                try simp only [Act.put, List.getElem_toArray, List.getElem_cons_succ, List.getElem_cons_zero, List.setIfInBounds_toArray, List.set_cons_zero, List.set_cons_succ]
                refine wpAnyH_take (i := 3) (oi := _) (v := ?_) rfl (by kernel_rfl) (by kernel_rfl) (by kernel_rfl) (fun _ _ _ h => h) (Or.inl ⟨by rfl, ?_⟩) hHeld ?_
                rotate_left
                · (intro w' hSw; (try dsimp only at hSw); go_simp <;> with_reducible rfl)
                try simp only [Act.put, List.getElem_toArray, List.getElem_cons_succ, List.getElem_cons_zero, List.setIfInBounds_toArray, List.set_cons_zero, List.set_cons_succ]
                refine wpAnyH_take (i := 4) (oi := _) (v := ?_) rfl (by kernel_rfl) (by kernel_rfl) (by kernel_rfl) (fun _ _ _ h => h) (Or.inl ⟨by rfl, ?_⟩) hHeld ?_
                rotate_left
                · (intro w' hSw; (try dsimp only at hSw); go_simp <;> with_reducible rfl)
                try simp only [Act.put, List.getElem_toArray, List.getElem_cons_succ, List.getElem_cons_zero, List.setIfInBounds_toArray, List.set_cons_zero, List.set_cons_succ]
                refine wpAnyH_take (i := 5) (oi := _) (v := ?_) rfl (by kernel_rfl) (by kernel_rfl) (by kernel_rfl) (fun _ _ _ h => h) (Or.inl ⟨by rfl, ?_⟩) hHeld ?_
                rotate_left
                · (intro w' hSw; (try dsimp only at hSw); go_simp <;> with_reducible rfl)
                try simp only [Act.put, List.getElem_toArray, List.getElem_cons_succ, List.getElem_cons_zero, List.setIfInBounds_toArray, List.set_cons_zero, List.set_cons_succ]
                refine wpAnyH_take (i := 6) (oi := _) (v := ?_) rfl (by kernel_rfl) (by kernel_rfl) (by kernel_rfl) (fun _ _ _ h => h) (Or.inl ⟨by rfl, ?_⟩) hHeld ?_
                rotate_left
                · (intro w' hSw; (try dsimp only at hSw); go_simp <;> with_reducible rfl)
                try simp only [Act.put, List.getElem_toArray, List.getElem_cons_succ, List.getElem_cons_zero, List.setIfInBounds_toArray, List.set_cons_zero, List.set_cons_succ]
                refine wpAnyH_take (i := 7) (oi := _) (v := ?_) rfl (by kernel_rfl) (by kernel_rfl) (by kernel_rfl) (fun _ _ _ h => h) (Or.inl ⟨by rfl, ?_⟩) hHeld ?_
                rotate_left
                · (intro w' hSw; (try dsimp only at hSw); go_simp <;> with_reducible rfl)
                try simp only [Act.put, List.getElem_toArray, List.getElem_cons_succ, List.getElem_cons_zero, List.setIfInBounds_toArray, List.set_cons_zero, List.set_cons_succ]
                refine wpAnyH_take (i := 8) (oi := _) (v := ?_) rfl (by kernel_rfl) (by kernel_rfl) (by kernel_rfl) (fun _ _ _ h => h) (Or.inl ⟨by rfl, ?_⟩) hHeld ?_
                rotate_left
                · (intro w' hSw; (try dsimp only at hSw); go_simp <;> with_reducible rfl)
                try simp only [Act.put, List.getElem_toArray, List.getElem_cons_succ, List.getElem_cons_zero, List.setIfInBounds_toArray, List.set_cons_zero, List.set_cons_succ]
                refine wpAnyH_take (i := 9) (oi := _) (v := ?_) rfl (by kernel_rfl) (by kernel_rfl) (by kernel_rfl) (fun _ _ _ h => h) (Or.inl ⟨by rfl, ?_⟩) hHeld ?_
                rotate_left
                · (intro w' hSw; (try dsimp only at hSw); go_simp <;> with_reducible rfl)
                try simp only [Act.put, List.getElem_toArray, List.getElem_cons_succ, List.getElem_cons_zero, List.setIfInBounds_toArray, List.set_cons_zero, List.set_cons_succ]
                refine wpAnyH_take (i := 10) (oi := _) (v := ?_) rfl (by kernel_rfl) (by kernel_rfl) (by kernel_rfl) (fun _ _ _ h => h) (Or.inl ⟨by rfl, ?_⟩) hHeld ?_
                rotate_left
                · (intro w' hSw; (try dsimp only at hSw); go_simp <;> with_reducible rfl)
                try simp only [Act.put, List.getElem_toArray, List.getElem_cons_succ, List.getElem_cons_zero, List.setIfInBounds_toArray, List.set_cons_zero, List.set_cons_succ]
                refine wpAnyH_take (i := 11) (oi := _) (v := ?_) rfl (by kernel_rfl) (by kernel_rfl) (by kernel_rfl) (fun _ _ _ h => h) (Or.inl ⟨by rfl, ?_⟩) hHeld ?_
                rotate_left
                · (intro w' hSw; (try dsimp only at hSw); go_simp <;> with_reducible rfl)
                try simp only [Act.put, List.getElem_toArray, List.getElem_cons_succ, List.getElem_cons_zero, List.setIfInBounds_toArray, List.set_cons_zero, List.set_cons_succ]
                refine wpAnyH_take (i := 12) (oi := _) (v := ?_) rfl (by kernel_rfl) (by kernel_rfl) (by kernel_rfl) (fun _ _ _ h => h) (Or.inl ⟨by rfl, ?_⟩) hHeld ?_
                rotate_left
                · (intro w' hSw; (try dsimp only at hSw); go_simp <;> with_reducible rfl)
                try simp only [Act.put, List.getElem_toArray, List.getElem_cons_succ, List.getElem_cons_zero, List.setIfInBounds_toArray, List.set_cons_zero, List.set_cons_succ]
                refine wpAnyH_take (i := 13) (oi := _) (v := ?_) rfl (by kernel_rfl) (by kernel_rfl) (by kernel_rfl) (fun _ _ _ h => h) (Or.inl ⟨by rfl, ?_⟩) hHeld ?_
                rotate_left
                · (intro w' hSw; (try dsimp only at hSw); go_simp <;> with_reducible rfl)
                try simp only [Act.put, List.getElem_toArray, List.getElem_cons_succ, List.getElem_cons_zero, List.setIfInBounds_toArray, List.set_cons_zero, List.set_cons_succ]
                refine wpAnyH_ready (rs := [1, 14]) (by kernel_rfl) (by simp) (AllReadyH.cons (o := _) rfl (fun K hK => ?_) (AllReadyH.cons (o := _) rfl (fun K hK => ?_) AllReadyH.nil))
                · skip
                  try simp only [Act.put, List.getElem_toArray, List.getElem_cons_succ, List.getElem_cons_zero, List.setIfInBounds_toArray, List.set_cons_zero, List.set_cons_succ]
                  go_simp
                  refine hK.out _ _ (HK.out _ Sd) (fun hHeld => ?_)
                  clear hK K
                  try simp only [Act.put, List.getElem_toArray, List.getElem_cons_succ, List.getElem_cons_zero, List.setIfInBounds_toArray, List.set_cons_zero, List.set_cons_succ]
                  refine wpAnyH_ready (rs := [14]) (by kernel_rfl) (by simp) (AllReadyH.cons (o := _) rfl (fun K hK => ?_) AllReadyH.nil)
                  try simp only [Act.put, List.getElem_toArray, List.getElem_cons_succ, List.getElem_cons_zero, List.setIfInBounds_toArray, List.set_cons_zero, List.set_cons_succ]
                  go_simp
                  go_at_call 103
                  refine (l1Copy_any A' c' a.os _ g3d hfa.2 hfa.1).mono ?_
                  rintro e w5 ⟨v5, rfl, o5', b5⟩
                  have S5 := Sd.call b5
                  have o5 := o5'.base Sd.reads.2.2.2.2.2
                  obtain ⟨A5, c5, rfl, -, hc5⟩ := o5.formq
                  obtain ⟨-, s1, -, s3, -, s5⟩ := S5.reads
                  obtain ⟨ys, hrow, har⟩ := S5.2.2.2.2.2.1
                  have oA := World.ownsRow.alloc hrow (.cells #[.int .i64 a.t, .slice A5 a.os.length c5] 84)
                  have rA := row_two w5 (.int .i64 a.t) (.slice A5 a.os.length c5) 84
                  have Sa5 := S5.call ((Below.refl w5.heap.size w5).alloc (Nat.le_refl _) (.cells #[.int .i64 a.t, .slice A5 a.os.length c5] 84))
                  obtain ⟨-, -, -, t3, -, -⟩ := Sa5.reads
                  clear o5' b5
                  refine hK.out _ _ (HK.out _ S5) (fun hHeld => ?_)
                  clear hK K
                  try simp only [Act.put, List.getElem_toArray, List.getElem_cons_succ, List.getElem_cons_zero, List.setIfInBounds_toArray, List.set_cons_zero, List.set_cons_succ]
                  refine wpAnyH_take (i := 15) (oi := _) (v := ?_) rfl (by kernel_rfl) (by kernel_rfl) (by kernel_rfl) (fun _ _ _ h => h) (Or.inl ⟨by rfl, ?_⟩) hHeld ?_
                  rotate_left
                  · (intro w' hSw; (try dsimp only at hSw); go_simp <;> with_reducible rfl)
                  try simp only [Act.put, List.getElem_toArray, List.getElem_cons_succ, List.getElem_cons_zero, List.setIfInBounds_toArray, List.set_cons_zero, List.set_cons_succ]
                  refine wpAnyH_ready (rs := [16]) (by kernel_rfl) (by simp) (AllReadyH.cons (o := _) rfl (fun K hK => ?_) AllReadyH.nil)
                  try simp only [Act.put, List.getElem_toArray, List.getElem_cons_succ, List.getElem_cons_zero, List.setIfInBounds_toArray, List.set_cons_zero, List.set_cons_succ]
                  go_simp
                  refine hK.out _ _ (HK.out _ Sa5) (fun hHeld => ?_)
                  clear hK K
                  try simp only [Act.put, List.getElem_toArray, List.getElem_cons_succ, List.getElem_cons_zero, List.setIfInBounds_toArray, List.set_cons_zero, List.set_cons_succ]
                  refine wpAnyH_ready (rs := [17]) (by kernel_rfl) (by simp) (AllReadyH.cons (o := _) rfl (fun K hK => ?_) AllReadyH.nil)
                  try simp only [Act.put, List.getElem_toArray, List.getElem_cons_succ, List.getElem_cons_zero, List.setIfInBounds_toArray, List.set_cons_zero, List.set_cons_succ]
                  rw [if_pos (by rfl)]
                  refine op_append_row _ (by rfl) _ _ 24 (by rfl) w.heap.size 84 i0 (.agg #[.int .i64 0, .slice none 0 0]) 2 32 Try.underlying24 hi hz0 hz1 hz2 rfl (by decide) (.slice Aa O.length ca) O.length ys (by rfl) oA _ (some ⟨w5.heap.size, 0, none⟩) 1 1 [.int .i64 a.t, .slice A5 a.os.length c5] (by rfl) rA rfl (ar_cells _ _ _ _) (by unfold maxLen; omega) (by omega) (by simp; omega) ?_
                  intro v7 w7 hown hg
                  obtain ⟨Aa7, ca7, rfl, ⟨k1, kf, k2, kb⟩, S7⟩ := S5.put (a := a) hrow har o5 hc5 hown hg
                  clear hown hg oA rA hrow har o5
                  refine hK.out _ _ (HG.out _ k2 kb) (fun hHeld => ?_)
                  clear hK K
                  try simp only [Act.put, List.getElem_toArray, List.getElem_cons_succ, List.getElem_cons_zero, List.setIfInBounds_toArray, List.set_cons_zero, List.set_cons_succ]
                  refine wpAnyH_take (i := 18) (oi := _) (v := ?_) rfl (by kernel_rfl) (by kernel_rfl) (by kernel_rfl) (fun _ _ _ h => h) (Or.inl ⟨by rfl, ?_⟩) hHeld ?_
                  rotate_left
                  · (intro w' hSw; (try dsimp only at hSw); go_simp <;> with_reducible rfl)
                  try simp only [Act.put, List.getElem_toArray, List.getElem_cons_succ, List.getElem_cons_zero, List.setIfInBounds_toArray, List.set_cons_zero, List.set_cons_succ]
                  refine wpAnyH_ready (rs := [19]) (by kernel_rfl) (by simp) (AllReadyH.cons (o := _) rfl (fun K hK => ?_) AllReadyH.nil)
                  try simp only [Act.put, List.getElem_toArray, List.getElem_cons_succ, List.getElem_cons_zero, List.setIfInBounds_toArray, List.set_cons_zero, List.set_cons_succ]
                  go_simp
                  refine hK.out _ _ (HC.out S7) (fun hHeld => ?_)
                  clear hK K
                  try simp only [Act.put, List.getElem_toArray, List.getElem_cons_succ, List.getElem_cons_zero, List.setIfInBounds_toArray, List.set_cons_zero, List.set_cons_succ]
                  refine wpAnyH_done (by kernel_rfl) ?_ _
                  go_wp2
                  go_roundw
                  case rel => exact ⟨k + 1, _, O ++ [a], by omega, by go_num, rfl, by rw [List.length_append, List.length_singleton]; omega, HN.out, S7⟩
                  case measure => simp [intOf]; omega
                · skip
                  try simp only [Act.put, List.getElem_toArray, List.getElem_cons_succ, List.getElem_cons_zero, List.setIfInBounds_toArray, List.set_cons_zero, List.set_cons_succ]
                  go_simp
                  go_at_call 103
                  refine (l1Copy_any A' c' a.os _ g3d hfa.2 hfa.1).mono ?_
                  rintro e w5 ⟨v5, rfl, o5', b5⟩
                  have S5 := Sd.call b5
                  have o5 := o5'.base Sd.reads.2.2.2.2.2
                  obtain ⟨A5, c5, rfl, -, hc5⟩ := o5.formq
                  obtain ⟨-, s1, -, s3, -, s5⟩ := S5.reads
                  obtain ⟨ys, hrow, har⟩ := S5.2.2.2.2.2.1
                  have oA := World.ownsRow.alloc hrow (.cells #[.int .i64 a.t, .slice A5 a.os.length c5] 84)
                  have rA := row_two w5 (.int .i64 a.t) (.slice A5 a.os.length c5) 84
                  have Sa5 := S5.call ((Below.refl w5.heap.size w5).alloc (Nat.le_refl _) (.cells #[.int .i64 a.t, .slice A5 a.os.length c5] 84))
                  obtain ⟨-, -, -, t3, -, -⟩ := Sa5.reads
                  clear o5' b5
                  refine hK.out _ _ (HK.out _ S5) (fun hHeld => ?_)
                  clear hK K
                  try simp only [Act.put, List.getElem_toArray, List.getElem_cons_succ, List.getElem_cons_zero, List.setIfInBounds_toArray, List.set_cons_zero, List.set_cons_succ]
                  refine wpAnyH_take (i := 15) (oi := _) (v := ?_) rfl (by kernel_rfl) (by kernel_rfl) (by kernel_rfl) (fun _ _ _ h => h) (Or.inl ⟨by rfl, ?_⟩) hHeld ?_
                  rotate_left
                  · (intro w' hSw; (try dsimp only at hSw); go_simp <;> with_reducible rfl)
                  try simp only [Act.put, List.getElem_toArray, List.getElem_cons_succ, List.getElem_cons_zero, List.setIfInBounds_toArray, List.set_cons_zero, List.set_cons_succ]
                  refine wpAnyH_ready (rs := [1, 16]) (by kernel_rfl) (by simp) (AllReadyH.cons (o := _) rfl (fun K hK => ?_) (AllReadyH.cons (o := _) rfl (fun K hK => ?_) AllReadyH.nil))
                  · skip
                    try simp only [Act.put, List.getElem_toArray, List.getElem_cons_succ, List.getElem_cons_zero, List.setIfInBounds_toArray, List.set_cons_zero, List.set_cons_succ]
                    go_simp
                    refine hK.out _ _ (HK.out _ S5) (fun hHeld => ?_)
                    clear hK K
                    try simp only [Act.put, List.getElem_toArray, List.getElem_cons_succ, List.getElem_cons_zero, List.setIfInBounds_toArray, List.set_cons_zero, List.set_cons_succ]
                    refine wpAnyH_ready (rs := [16]) (by kernel_rfl) (by simp) (AllReadyH.cons (o := _) rfl (fun K hK => ?_) AllReadyH.nil)
                    try simp only [Act.put, List.getElem_toArray, List.getElem_cons_succ, List.getElem_cons_zero, List.setIfInBounds_toArray, List.set_cons_zero, List.set_cons_succ]
                    go_simp
                    refine hK.out _ _ (HK.out _ Sa5) (fun hHeld => ?_)
                    clear hK K
                    try simp only [Act.put, List.getElem_toArray, List.getElem_cons_succ, List.getElem_cons_zero, List.setIfInBounds_toArray, List.set_cons_zero, List.set_cons_succ]
                    refine wpAnyH_ready (rs := [17]) (by kernel_rfl) (by simp) (AllReadyH.cons (o := _) rfl (fun K hK => ?_) AllReadyH.nil)
                    try simp only [Act.put, List.getElem_toArray, List.getElem_cons_succ, List.getElem_cons_zero, List.setIfInBounds_toArray, List.set_cons_zero, List.set_cons_succ]
                    rw [if_pos (by rfl)]
                    refine op_append_row _ (by rfl) _ _ 24 (by rfl) w.heap.size 84 i0 (.agg #[.int .i64 0, .slice none 0 0]) 2 32 Try.underlying24 hi hz0 hz1 hz2 rfl (by decide) (.slice Aa O.length ca) O.length ys (by rfl) oA _ (some ⟨w5.heap.size, 0, none⟩) 1 1 [.int .i64 a.t, .slice A5 a.os.length c5] (by rfl) rA rfl (ar_cells _ _ _ _) (by unfold maxLen; omega) (by omega) (by simp; omega) ?_
                    intro v7 w7 hown hg
                    obtain ⟨Aa7, ca7, rfl, ⟨k1, kf, k2, kb⟩, S7⟩ := S5.put (a := a) hrow har o5 hc5 hown hg
                    clear hown hg oA rA hrow har o5
                    refine hK.out _ _ (HG.out _ k2 kb) (fun hHeld => ?_)
                    clear hK K
                    try simp only [Act.put, List.getElem_toArray, List.getElem_cons_succ, List.getElem_cons_zero, List.setIfInBounds_toArray, List.set_cons_zero, List.set_cons_succ]
                    refine wpAnyH_take (i := 18) (oi := _) (v := ?_) rfl (by kernel_rfl) (by kernel_rfl) (by kernel_rfl) (fun _ _ _ h => h) (Or.inl ⟨by rfl, ?_⟩) hHeld ?_
                    rotate_left
                    · (intro w' hSw; (try dsimp only at hSw); go_simp <;> with_reducible rfl)
                    try simp only [Act.put, List.getElem_toArray, List.getElem_cons_succ, List.getElem_cons_zero, List.setIfInBounds_toArray, List.set_cons_zero, List.set_cons_succ]
                    refine wpAnyH_ready (rs := [19]) (by kernel_rfl) (by simp) (AllReadyH.cons (o := _) rfl (fun K hK => ?_) AllReadyH.nil)
                    try simp only [Act.put, List.getElem_toArray, List.getElem_cons_succ, List.getElem_cons_zero, List.setIfInBounds_toArray, List.set_cons_zero, List.set_cons_succ]
                    go_simp
                    refine hK.out _ _ (HC.out S7) (fun hHeld => ?_)
                    clear hK K
                    try simp only [Act.put, List.getElem_toArray, List.getElem_cons_succ, List.getElem_cons_zero, List.setIfInBounds_toArray, List.set_cons_zero, List.set_cons_succ]
                    refine wpAnyH_done (by kernel_rfl) ?_ _
                    go_wp2
                    go_roundw
                    case rel => exact ⟨k + 1, _, O ++ [a], by omega, by go_num, rfl, by rw [List.length_append, List.length_singleton]; omega, HN.out, S7⟩
                    case measure => simp [intOf]; omega
                  · skip
                    try simp only [Act.put, List.getElem_toArray, List.getElem_cons_succ, List.getElem_cons_zero, List.setIfInBounds_toArray, List.set_cons_zero, List.set_cons_succ]
                    go_simp
                    refine hK.out _ _ (HK.out _ Sa5) (fun hHeld => ?_)
                    clear hK K
                    try simp only [Act.put, List.getElem_toArray, List.getElem_cons_succ, List.getElem_cons_zero, List.setIfInBounds_toArray, List.set_cons_zero, List.set_cons_succ]
                    refine wpAnyH_ready (rs := [1]) (by kernel_rfl) (by simp) (AllReadyH.cons (o := _) rfl (fun K hK => ?_) AllReadyH.nil)
                    try simp only [Act.put, List.getElem_toArray, List.getElem_cons_succ, List.getElem_cons_zero, List.setIfInBounds_toArray, List.set_cons_zero, List.set_cons_succ]
                    go_simp
                    refine hK.out _ _ (HK.out _ Sa5) (fun hHeld => ?_)
                    clear hK K
                    try simp only [Act.put, List.getElem_toArray, List.getElem_cons_succ, List.getElem_cons_zero, List.setIfInBounds_toArray, List.set_cons_zero, List.set_cons_succ]
                    refine wpAnyH_ready (rs := [17]) (by kernel_rfl) (by simp) (AllReadyH.cons (o := _) rfl (fun K hK => ?_) AllReadyH.nil)
                    try simp only [Act.put, List.getElem_toArray, List.getElem_cons_succ, List.getElem_cons_zero, List.setIfInBounds_toArray, List.set_cons_zero, List.set_cons_succ]
                    rw [if_pos (by rfl)]
                    refine op_append_row _ (by rfl) _ _ 24 (by rfl) w.heap.size 84 i0 (.agg #[.int .i64 0, .slice none 0 0]) 2 32 Try.underlying24 hi hz0 hz1 hz2 rfl (by decide) (.slice Aa O.length ca) O.length ys (by rfl) oA _ (some ⟨w5.heap.size, 0, none⟩) 1 1 [.int .i64 a.t, .slice A5 a.os.length c5] (by rfl) rA rfl (ar_cells _ _ _ _) (by unfold maxLen; omega) (by omega) (by simp; omega) ?_
                    intro v7 w7 hown hg
                    obtain ⟨Aa7, ca7, rfl, ⟨k1, kf, k2, kb⟩, S7⟩ := S5.put (a := a) hrow har o5 hc5 hown hg
                    clear hown hg oA rA hrow har o5
                    refine hK.out _ _ (HG.out _ k2 kb) (fun hHeld => ?_)
                    clear hK K
                    try simp only [Act.put, List.getElem_toArray, List.getElem_cons_succ, List.getElem_cons_zero, List.setIfInBounds_toArray, List.set_cons_zero, List.set_cons_succ]
                    refine wpAnyH_take (i := 18) (oi := _) (v := ?_) rfl (by kernel_rfl) (by kernel_rfl) (by kernel_rfl) (fun _ _ _ h => h) (Or.inl ⟨by rfl, ?_⟩) hHeld ?_
                    rotate_left
                    · (intro w' hSw; (try dsimp only at hSw); go_simp <;> with_reducible rfl)
                    try simp only [Act.put, List.getElem_toArray, List.getElem_cons_succ, List.getElem_cons_zero, List.setIfInBounds_toArray, List.set_cons_zero, List.set_cons_succ]
                    refine wpAnyH_ready (rs := [19]) (by kernel_rfl) (by simp) (AllReadyH.cons (o := _) rfl (fun K hK => ?_) AllReadyH.nil)
                    try simp only [Act.put, List.getElem_toArray, List.getElem_cons_succ, List.getElem_cons_zero, List.setIfInBounds_toArray, List.set_cons_zero, List.set_cons_succ]
                    go_simp
                    refine hK.out _ _ (HC.out S7) (fun hHeld => ?_)
                    clear hK K
                    try simp only [Act.put, List.getElem_toArray, List.getElem_cons_succ, List.getElem_cons_zero, List.setIfInBounds_toArray, List.set_cons_zero, List.set_cons_succ]
                    refine wpAnyH_done (by kernel_rfl) ?_ _
                    go_wp2
                    go_roundw
                    case rel => exact ⟨k + 1, _, O ++ [a], by omega, by go_num, rfl, by rw [List.length_append, List.length_singleton]; omega, HN.out, S7⟩
                    case measure => simp [intOf]; omega
        · have e6 : decide (t ≤ a.t) = false := decide_eq_false hta
          obtain ⟨O, hO⟩ : ∃ O, out = O := ⟨_, rfl⟩
          have HNX : Hid (a.t = t → SetTo q.rs t x O false (k + 1)) := fun he => by
            have := HT.out.next hlt
            rw [ho, if_neg (by simp [hta]), if_pos he, List.append_nil, List.append_nil, hO] at this
            simpa [hta] using this
          have HNY : Hid (a.t ≠ t → SetTo q.rs t x (O ++ [a]) false (k + 1)) := fun he => by
            have := HT.out.next hlt
            rw [ho, if_neg (by simp [hta]), if_neg he, List.nil_append, hO] at this
            simpa [hta] using this
          rw [hO] at S Sd hol r3
          clear HT ho hO
          by_cases he : a.t = t
          · have e7 : (a.t != t) = false := by rw [bne_eq_false_iff_eq]; exact he
            have HN := hid (HNX.out he)
            clear he HNX HNY
            go_wp2
            go_roundw
            case rel => exact ⟨k + 1, false, O, by omega, by go_num, rfl, by omega, HN.out, _, _, _, _, S⟩
            case measure => simp [intOf]; omega
          · have e7 : (a.t != t) = true := by rw [bne_iff_ne]; exact he
            have HN := hid (HNY.out he)
            clear he HNX HNY
            go_wp2_with fail
            have HG : Hid (∀ x, x.cell? ⟨w.heap.size, 1, none⟩ = some (.slice (some ad) q.rs.length c2) → Below w.heap.size w x → x.cell? ⟨w.heap.size, 1, none⟩ = some (.slice (some ad) q.rs.length c2) ∧ x.cell? (ad.add (k * 2)) = some (.int .i64 a.t) ∧ x.cell? ⟨(ad.add (k * 2)).block, (ad.add (k * 2)).off + 1, none⟩ = some (.slice A' a.os.length c')) :=
              fun x h2 h3 => ⟨h2, (h3.cell had).trans G0.out, (h3.cell (p := ⟨(ad.add (k * 2)).block, (ad.add (k * 2)).off + 1, none⟩) had).trans G1.out⟩
            have HK : Hid (∀ x, CpE w w.heap.size (w.heap.size + 1) A q.m.length c (some ad) q.rs.length c2 (w2.heap.size + 1) q.m Am' cm' Aa ca O x → x.cell? ⟨w.heap.size, 1, none⟩ = some (.slice (some ad) q.rs.length c2) ∧ x.cell? (ad.add (k * 2)) = some (.int .i64 a.t) ∧ x.cell? ⟨(ad.add (k * 2)).block, (ad.add (k * 2)).off + 1, none⟩ = some (.slice A' a.os.length c')) :=
              fun x h => HG.out x h.reads.2.1 h.2.2.2.2.2.2
            have HC : Hid (∀ {x}, CpSt w w.heap.size (w.heap.size + 1) A q.m.length c (some ad) q.rs.length c2 (w2.heap.size + 1) q.m (O ++ [a]) x → x.cell? ⟨w.heap.size, 1, none⟩ = some (.slice (some ad) q.rs.length c2) ∧ x.cell? (ad.add (k * 2)) = some (.int .i64 a.t) ∧ x.cell? ⟨(ad.add (k * 2)).block, (ad.add (k * 2)).off + 1, none⟩ = some (.slice A' a.os.length c')) :=
              fun {x} ⟨_, _, _, _, h⟩ => HG.out x h.reads.2.1 h.2.2.2.2.2.2
            have g3d := ((g3.below S.2.2.2.2.2.2 (Nat.le_refl _)).more S.2.2.2.2.2.2.size).drew
            refine wp_region_held_drew (S := fun w' => w'.cell? ⟨w.heap.size, 1, none⟩ = some (.slice (some ad) q.rs.length c2) ∧ w'.cell? (ad.add (k * 2)) = some (.int .i64 a.t) ∧ w'.cell? ⟨(ad.add (k * 2)).block, (ad.add (k * 2)).off + 1, none⟩ = some (.slice A' a.os.length c')) (by kernel_rfl) (HK.out _ Sd) (fun hHeld => ?_)
            refine wpAnyH_take (i := 0) (oi := _) (v := ?_) rfl (by kernel_rfl) (by kernel_rfl) (by kernel_rfl) (fun _ _ _ h => h) (Or.inl ⟨by rfl, ?_⟩) hHeld ?_
            rotate_left
            · (intro w' hSw; (try dsimp only at hSw); go_simp <;> with_reducible rfl)
            try simp only [Act.put, List.getElem_toArray, List.getElem_cons_succ, List.getElem_cons_zero, List.setIfInBounds_toArray, List.set_cons_zero, List.set_cons_succ]
            refine wpAnyH_take (i := 2) (oi := _) (v := ?_) rfl (by kernel_rfl) (by kernel_rfl) (by kernel_rfl) (fun _ _ _ h => h) (Or.inl ⟨by rfl, ?_⟩) hHeld ?_
            rotate_left
            · (intro w' hSw; (try dsimp only at hSw); go_simp <;> with_reducible rfl)
            try simp only [Act.put, List.getElem_toArray, List.getElem_cons_succ, List.getElem_cons_zero, List.setIfInBounds_toArray, List.set_cons_zero, List.set_cons_succ]
            refine wpAnyH_take (i := 3) (oi := _) (v := ?_) rfl (by kernel_rfl) (by kernel_rfl) (by kernel_rfl) (fun _ _ _ h => h) (Or.inl ⟨by rfl, ?_⟩) hHeld ?_
            rotate_left
            · (intro w' hSw; (try dsimp only at hSw); go_simp <;> with_reducible rfl)
            try simp only [Act.put, List.getElem_toArray, List.getElem_cons_succ, List.getElem_cons_zero, List.setIfInBounds_toArray, List.set_cons_zero, List.set_cons_succ]
            refine wpAnyH_take (i := 4) (oi := _) (v := ?_) rfl (by kernel_rfl) (by kernel_rfl) (by kernel_rfl) (fun _ _ _ h => h) (Or.inl ⟨by rfl, ?_⟩) hHeld ?_
            rotate_left
            · (intro w' hSw; (try dsimp only at hSw); go_simp <;> with_reducible rfl)
            try simp only [Act.put, List.getElem_toArray, List.getElem_cons_succ, List.getElem_cons_zero, List.setIfInBounds_toArray, List.set_cons_zero, List.set_cons_succ]
            refine wpAnyH_take (i := 5) (oi := _) (v := ?_) rfl (by kernel_rfl) (by kernel_rfl) (by kernel_rfl) (fun _ _ _ h => h) (Or.inl ⟨by rfl, ?_⟩) hHeld ?_
            rotate_left
            · (intro w' hSw; (try dsimp only at hSw); go_simp <;> with_reducible rfl)
            try simp only [Act.put, List.getElem_toArray, List.getElem_cons_succ, List.getElem_cons_zero, List.setIfInBounds_toArray, List.set_cons_zero, List.set_cons_succ]
            refine wpAnyH_take (i := 6) (oi := _) (v := ?_) rfl (by kernel_rfl) (by kernel_rfl) (by kernel_rfl) (fun _ _ _ h => h) (Or.inl ⟨by rfl, ?_⟩) hHeld ?_
            rotate_left
            · (intro w' hSw; (try dsimp only at hSw); go_simp <;> with_reducible rfl)
            try simp only [Act.put, List.getElem_toArray, List.getElem_cons_succ, List.getElem_cons_zero, List.setIfInBounds_toArray, List.set_cons_zero, List.set_cons_succ]
            refine wpAnyH_take (i := 7) (oi := _) (v := ?_) rfl (by kernel_rfl) (by kernel_rfl) (by kernel_rfl) (fun _ _ _ h => h) (Or.inl ⟨by rfl, ?_⟩) hHeld ?_
            rotate_left
            · (intro w' hSw; (try dsimp only at hSw); go_simp <;> with_reducible rfl)
            try simp only [Act.put, List.getElem_toArray, List.getElem_cons_succ, List.getElem_cons_zero, List.setIfInBounds_toArray, List.set_cons_zero, List.set_cons_succ]
            refine wpAnyH_take (i := 8) (oi := _) (v := ?_) rfl (by kernel_rfl) (by kernel_rfl) (by kernel_rfl) (fun _ _ _ h => h) (Or.inl ⟨by rfl, ?_⟩) hHeld ?_
            rotate_left
            · (intro w' hSw; (try dsimp only at hSw); go_simp <;> with_reducible rfl)
            try simp only [Act.put, List.getElem_toArray, List.getElem_cons_succ, List.getElem_cons_zero, List.setIfInBounds_toArray, List.set_cons_zero, List.set_cons_succ]
            refine wpAnyH_take (i := 9) (oi := _) (v := ?_) rfl (by kernel_rfl) (by kernel_rfl) (by kernel_rfl) (fun _ _ _ h => h) (Or.inl ⟨by rfl, ?_⟩) hHeld ?_
            rotate_left
            · (intro w' hSw; (try dsimp only at hSw); go_simp <;> with_reducible rfl)
            try simp only [Act.put, List.getElem_toArray, List.getElem_cons_succ, List.getElem_cons_zero, List.setIfInBounds_toArray, List.set_cons_zero, List.set_cons_succ]
            refine wpAnyH_take (i := 10) (oi := _) (v := ?_) rfl (by kernel_rfl) (by kernel_rfl) (by kernel_rfl) (fun _ _ _ h => h) (Or.inl ⟨by rfl, ?_⟩) hHeld ?_
            rotate_left
            · (intro w' hSw; (try dsimp only at hSw); go_simp <;> with_reducible rfl)
            try simp only [Act.put, List.getElem_toArray, List.getElem_cons_succ, List.getElem_cons_zero, List.setIfInBounds_toArray, List.set_cons_zero, List.set_cons_succ]
            refine wpAnyH_take (i := 11) (oi := _) (v := ?_) rfl (by kernel_rfl) (by kernel_rfl) (by kernel_rfl) (fun _ _ _ h => h) (Or.inl ⟨by rfl, ?_⟩) hHeld ?_
            rotate_left
            · (intro w' hSw; (try dsimp only at hSw); go_simp <;> with_reducible rfl)
            try simp only [Act.put, List.getElem_toArray, List.getElem_cons_succ, List.getElem_cons_zero, List.setIfInBounds_toArray, List.set_cons_zero, List.set_cons_succ]
            refine wpAnyH_take (i := 12) (oi := _) (v := ?_) rfl (by kernel_rfl) (by kernel_rfl) (by kernel_rfl) (fun _ _ _ h => h) (Or.inl ⟨by rfl, ?_⟩) hHeld ?_
            rotate_left
            · (intro w' hSw; (try dsimp only at hSw); go_simp <;> with_reducible rfl)
            try simp only [Act.put, List.getElem_toArray, List.getElem_cons_succ, List.getElem_cons_zero, List.setIfInBounds_toArray, List.set_cons_zero, List.set_cons_succ]
            refine wpAnyH_take (i := 13) (oi := _) (v := ?_) rfl (by kernel_rfl) (by kernel_rfl) (by kernel_rfl) (fun _ _ _ h => h) (Or.inl ⟨by rfl, ?_⟩) hHeld ?_
            rotate_left
            · (intro w' hSw; (try dsimp only at hSw); go_simp <;> with_reducible rfl)
            try simp only [Act.put, List.getElem_toArray, List.getElem_cons_succ, List.getElem_cons_zero, List.setIfInBounds_toArray, List.set_cons_zero, List.set_cons_succ]
            refine wpAnyH_ready (rs := [1, 14]) (by kernel_rfl) (by simp) (AllReadyH.cons (o := _) rfl (fun K hK => ?_) (AllReadyH.cons (o := _) rfl (fun K hK => ?_) AllReadyH.nil))
            · skip
              try simp only [Act.put, List.getElem_toArray, List.getElem_cons_succ, List.getElem_cons_zero, List.setIfInBounds_toArray, List.set_cons_zero, List.set_cons_succ]
              go_simp
              refine hK.out _ _ (HK.out _ Sd) (fun hHeld => ?_)
              clear hK K
              try simp only [Act.put, List.getElem_toArray, List.getElem_cons_succ, List.getElem_cons_zero, List.setIfInBounds_toArray, List.set_cons_zero, List.set_cons_succ]
              refine wpAnyH_ready (rs := [14]) (by kernel_rfl) (by simp) (AllReadyH.cons (o := _) rfl (fun K hK => ?_) AllReadyH.nil)
              try simp only [Act.put, List.getElem_toArray, List.getElem_cons_succ, List.getElem_cons_zero, List.setIfInBounds_toArray, List.set_cons_zero, List.set_cons_succ]
              go_simp
              go_at_call 103
              refine (l1Copy_any A' c' a.os _ g3d hfa.2 hfa.1).mono ?_
              rintro e w5 ⟨v5, rfl, o5', b5⟩
              have S5 := Sd.call b5
              have o5 := o5'.base Sd.reads.2.2.2.2.2
              obtain ⟨A5, c5, rfl, -, hc5⟩ := o5.formq
              obtain ⟨-, s1, -, s3, -, s5⟩ := S5.reads
              obtain ⟨ys, hrow, har⟩ := S5.2.2.2.2.2.1
              have oA := World.ownsRow.alloc hrow (.cells #[.int .i64 a.t, .slice A5 a.os.length c5] 84)
              have rA := row_two w5 (.int .i64 a.t) (.slice A5 a.os.length c5) 84
              have Sa5 := S5.call ((Below.refl w5.heap.size w5).alloc (Nat.le_refl _) (.cells #[.int .i64 a.t, .slice A5 a.os.length c5] 84))
              obtain ⟨-, -, -, t3, -, -⟩ := Sa5.reads
              clear o5' b5
              refine hK.out _ _ (HK.out _ S5) (fun hHeld => ?_)
              clear hK K
              try simp only [Act.put, List.getElem_toArray, List.getElem_cons_succ, List.getElem_cons_zero, List.setIfInBounds_toArray, List.set_cons_zero, List.set_cons_succ]
              refine wpAnyH_take (i := 15) (oi := _) (v := ?_) rfl (by kernel_rfl) (by kernel_rfl) (by kernel_rfl) (fun _ _ _ h => h) (Or.inl ⟨by rfl, ?_⟩) hHeld ?_
              rotate_left
              · (intro w' hSw; (try dsimp only at hSw); go_simp <;> with_reducible rfl)
              try simp only [Act.put, List.getElem_toArray, List.getElem_cons_succ, List.getElem_cons_zero, List.setIfInBounds_toArray, List.set_cons_zero, List.set_cons_succ]
              refine wpAnyH_ready (rs := [16]) (by kernel_rfl) (by simp) (AllReadyH.cons (o := _) rfl (fun K hK => ?_) AllReadyH.nil)
              try simp only [Act.put, List.getElem_toArray, List.getElem_cons_succ, List.getElem_cons_zero, List.setIfInBounds_toArray, List.set_cons_zero, List.set_cons_succ]
              go_simp
              refine hK.out _ _ (HK.out _ Sa5) (fun hHeld => ?_)
              clear hK K
              try simp only [Act.put, List.getElem_toArray, List.getElem_cons_succ, List.getElem_cons_zero, List.setIfInBounds_toArray, List.set_cons_zero, List.set_cons_succ]
              refine wpAnyH_ready (rs := [17]) (by kernel_rfl) (by simp) (AllReadyH.cons (o := _) rfl (fun K hK => ?_) AllReadyH.nil)
              try simp only [Act.put, List.getElem_toArray, List.getElem_cons_succ, List.getElem_cons_zero, List.setIfInBounds_toArray, List.set_cons_zero, List.set_cons_succ]
              rw [if_pos (by rfl)]
              refine op_append_row _ (by rfl) _ _ 24 (by rfl) w.heap.size 84 i0 (.agg #[.int .i64 0, .slice none 0 0]) 2 32 Try.underlying24 hi hz0 hz1 hz2 rfl (by decide) (.slice Aa O.length ca) O.length ys (by rfl) oA _ (some ⟨w5.heap.size, 0, none⟩) 1 1 [.int .i64 a.t, .slice A5 a.os.length c5] (by rfl) rA rfl (ar_cells _ _ _ _) (by unfold maxLen; omega) (by omega) (by simp; omega) ?_
              intro v7 w7 hown hg
              obtain ⟨Aa7, ca7, rfl, ⟨k1, kf, k2, kb⟩, S7⟩ := S5.put (a := a) hrow har o5 hc5 hown hg
              clear hown hg oA rA hrow har o5
              refine hK.out _ _ (HG.out _ k2 kb) (fun hHeld => ?_)
              clear hK K
              try simp only [Act.put, List.getElem_toArray, List.getElem_cons_succ, List.getElem_cons_zero, List.setIfInBounds_toArray, List.set_cons_zero, List.set_cons_succ]
              refine wpAnyH_take (i := 18) (oi := _) (v := ?_) rfl (by kernel_rfl) (by kernel_rfl) (by kernel_rfl) (fun _ _ _ h => h) (Or.inl ⟨by rfl, ?_⟩) hHeld ?_
              rotate_left
              · (intro w' hSw; (try dsimp only at hSw); go_simp <;> with_reducible rfl)
              try simp only [Act.put, List.getElem_toArray, List.getElem_cons_succ, List.getElem_cons_zero, List.setIfInBounds_toArray, List.set_cons_zero, List.set_cons_succ]
              refine wpAnyH_ready (rs := [19]) (by kernel_rfl) (by simp) (AllReadyH.cons (o := _) rfl (fun K hK => ?_) AllReadyH.nil)
              try simp only [Act.put, List.getElem_toArray, List.getElem_cons_succ, List.getElem_cons_zero, List.setIfInBounds_toArray, List.set_cons_zero, List.set_cons_succ]
              go_simp
              refine hK.out _ _ (HC.out S7) (fun hHeld => ?_)
              clear hK K
              try simp only [Act.put, List.getElem_toArray, List.getElem_cons_succ, List.getElem_cons_zero, List.setIfInBounds_toArray, List.set_cons_zero, List.set_cons_succ]
              refine wpAnyH_done (by kernel_rfl) ?_ _
              go_wp2
              go_roundw
              case rel => exact ⟨k + 1, _, O ++ [a], by omega, by go_num, rfl, by rw [List.length_append, List.length_singleton]; omega, HN.out, S7⟩
              case measure => simp [intOf]; omega
            · skip
              try simp only [Act.put, List.getElem_toArray, List.getElem_cons_succ, List.getElem_cons_zero, List.setIfInBounds_toArray, List.set_cons_zero, List.set_cons_succ]
              go_simp
              go_at_call 103
              refine (l1Copy_any A' c' a.os _ g3d hfa.2 hfa.1).mono ?_
              rintro e w5 ⟨v5, rfl, o5', b5⟩
              have S5 := Sd.call b5
              have o5 := o5'.base Sd.reads.2.2.2.2.2
              obtain ⟨A5, c5, rfl, -, hc5⟩ := o5.formq
              obtain ⟨-, s1, -, s3, -, s5⟩ := S5.reads
              obtain ⟨ys, hrow, har⟩ := S5.2.2.2.2.2.1
              have oA := World.ownsRow.alloc hrow (.cells #[.int .i64 a.t, .slice A5 a.os.length c5] 84)
              have rA := row_two w5 (.int .i64 a.t) (.slice A5 a.os.length c5) 84
              have Sa5 := S5.call ((Below.refl w5.heap.size w5).alloc (Nat.le_refl _) (.cells #[.int .i64 a.t, .slice A5 a.os.length c5] 84))
              obtain ⟨-, -, -, t3, -, -⟩ := Sa5.reads
              clear o5' b5
              refine hK.out _ _ (HK.out _ S5) (fun hHeld => ?_)
              clear hK K
              try simp only [Act.put, List.getElem_toArray, List.getElem_cons_succ, List.getElem_cons_zero, List.setIfInBounds_toArray, List.set_cons_zero, List.set_cons_succ]
              refine wpAnyH_take (i := 15) (oi := _) (v := ?_) rfl (by kernel_rfl) (by kernel_rfl) (by kernel_rfl) (fun _ _ _ h => h) (Or.inl ⟨by rfl, ?_⟩) hHeld ?_
              rotate_left
              · (intro w' hSw; (try dsimp only at hSw); go_simp <;> with_reducible rfl)
              try simp only [Act.put, List.getElem_toArray, List.getElem_cons_succ, List.getElem_cons_zero, List.setIfInBounds_toArray, List.set_cons_zero, List.set_cons_succ]
              refine wpAnyH_ready (rs := [1, 16]) (by kernel_rfl) (by simp) (AllReadyH.cons (o := _) rfl (fun K hK => ?_) (AllReadyH.cons (o := _) rfl (fun K hK => ?_) AllReadyH.nil))
              · skip
                try simp only [Act.put, List.getElem_toArray, List.getElem_cons_succ, List.getElem_cons_zero, List.setIfInBounds_toArray, List.set_cons_zero, List.set_cons_succ]
                go_simp
                refine hK.out _ _ (HK.out _ S5) (fun hHeld => ?_)
                clear hK K
                try simp only [Act.put, List.getElem_toArray, List.getElem_cons_succ, List.getElem_cons_zero, List.setIfInBounds_toArray, List.set_cons_zero, List.set_cons_succ]
                refine wpAnyH_ready (rs := [16]) (by kernel_rfl) (by simp) (AllReadyH.cons (o := _) rfl (fun K hK => ?_) AllReadyH.nil)
                try simp only [Act.put, List.getElem_toArray, List.getElem_cons_succ, List.getElem_cons_zero, List.setIfInBounds_toArray, List.set_cons_zero, List.set_cons_succ]
                go_simp
                refine hK.out _ _ (HK.out _ Sa5) (fun hHeld => ?_)
                clear hK K
                try simp only [Act.put, List.getElem_toArray, List.getElem_cons_succ, List.getElem_cons_zero, List.setIfInBounds_toArray, List.set_cons_zero, List.set_cons_succ]
                refine wpAnyH_ready (rs := [17]) (by kernel_rfl) (by simp) (AllReadyH.cons (o := _) rfl (fun K hK => ?_) AllReadyH.nil)
                try simp only [Act.put, List.getElem_toArray, List.getElem_cons_succ, List.getElem_cons_zero, List.setIfInBounds_toArray, List.set_cons_zero, List.set_cons_succ]
                rw [if_pos (by rfl)]
                refine op_append_row _ (by rfl) _ _ 24 (by rfl) w.heap.size 84 i0 (.agg #[.int .i64 0, .slice none 0 0]) 2 32 Try.underlying24 hi hz0 hz1 hz2 rfl (by decide) (.slice Aa O.length ca) O.length ys (by rfl) oA _ (some ⟨w5.heap.size, 0, none⟩) 1 1 [.int .i64 a.t, .slice A5 a.os.length c5] (by rfl) rA rfl (ar_cells _ _ _ _) (by unfold maxLen; omega) (by omega) (by simp; omega) ?_
                intro v7 w7 hown hg
                obtain ⟨Aa7, ca7, rfl, ⟨k1, kf, k2, kb⟩, S7⟩ := S5.put (a := a) hrow har o5 hc5 hown hg
                clear hown hg oA rA hrow har o5
                refine hK.out _ _ (HG.out _ k2 kb) (fun hHeld => ?_)
                clear hK K
                try simp only [Act.put, List.getElem_toArray, List.getElem_cons_succ, List.getElem_cons_zero, List.setIfInBounds_toArray, List.set_cons_zero, List.set_cons_succ]
                refine wpAnyH_take (i := 18) (oi := _) (v := ?_) rfl (by kernel_rfl) (by kernel_rfl) (by kernel_rfl) (fun _ _ _ h => h) (Or.inl ⟨by rfl, ?_⟩) hHeld ?_
                rotate_left
                · (intro w' hSw; (try dsimp only at hSw); go_simp <;> with_reducible rfl)
                try simp only [Act.put, List.getElem_toArray, List.getElem_cons_succ, List.getElem_cons_zero, List.setIfInBounds_toArray, List.set_cons_zero, List.set_cons_succ]
                refine wpAnyH_ready (rs := [19]) (by kernel_rfl) (by simp) (AllReadyH.cons (o := _) rfl (fun K hK => ?_) AllReadyH.nil)
                try simp only [Act.put, List.getElem_toArray, List.getElem_cons_succ, List.getElem_cons_zero, List.setIfInBounds_toArray, List.set_cons_zero, List.set_cons_succ]
                go_simp
                refine hK.out _ _ (HC.out S7) (fun hHeld => ?_)
                clear hK K
                try simp only [Act.put, List.getElem_toArray, List.getElem_cons_succ, List.getElem_cons_zero, List.setIfInBounds_toArray, List.set_cons_zero, List.set_cons_succ]
                refine wpAnyH_done (by kernel_rfl) ?_ _
                go_wp2
                go_roundw
                case rel => exact ⟨k + 1, _, O ++ [a], by omega, by go_num, rfl, by rw [List.length_append, List.length_singleton]; omega, HN.out, S7⟩
                case measure => simp [intOf]; omega
              · skip
                try simp only [Act.put, List.getElem_toArray, List.getElem_cons_succ, List.getElem_cons_zero, List.setIfInBounds_toArray, List.set_cons_zero, List.set_cons_succ]
                go_simp
                refine hK.out _ _ (HK.out _ Sa5) (fun hHeld => ?_)
                clear hK K
                try simp only [Act.put, List.getElem_toArray, List.getElem_cons_succ, List.getElem_cons_zero, List.setIfInBounds_toArray, List.set_cons_zero, List.set_cons_succ]
                refine wpAnyH_ready (rs := [1]) (by kernel_rfl) (by simp) (AllReadyH.cons (o := _) rfl (fun K hK => ?_) AllReadyH.nil)
                try simp only [Act.put, List.getElem_toArray, List.getElem_cons_succ, List.getElem_cons_zero, List.setIfInBounds_toArray, List.set_cons_zero, List.set_cons_succ]
                go_simp
                refine hK.out _ _ (HK.out _ Sa5) (fun hHeld => ?_)
                clear hK K
                try simp only [Act.put, List.getElem_toArray, List.getElem_cons_succ, List.getElem_cons_zero, List.setIfInBounds_toArray, List.set_cons_zero, List.set_cons_succ]
                refine wpAnyH_ready (rs := [17]) (by kernel_rfl) (by simp) (AllReadyH.cons (o := _) rfl (fun K hK => ?_) AllReadyH.nil)
                try simp only [Act.put, List.getElem_toArray, List.getElem_cons_succ, List.getElem_cons_zero, List.setIfInBounds_toArray, List.set_cons_zero, List.set_cons_succ]
                rw [if_pos (by rfl)]
                refine op_append_row _ (by rfl) _ _ 24 (by rfl) w.heap.size 84 i0 (.agg #[.int .i64 0, .slice none 0 0]) 2 32 Try.underlying24 hi hz0 hz1 hz2 rfl (by decide) (.slice Aa O.length ca) O.length ys (by rfl) oA _ (some ⟨w5.heap.size, 0, none⟩) 1 1 [.int .i64 a.t, .slice A5 a.os.length c5] (by rfl) rA rfl (ar_cells _ _ _ _) (by unfold maxLen; omega) (by omega) (by simp; omega) ?_
                intro v7 w7 hown hg
                obtain ⟨Aa7, ca7, rfl, ⟨k1, kf, k2, kb⟩, S7⟩ := S5.put (a := a) hrow har o5 hc5 hown hg
                clear hown hg oA rA hrow har o5
                refine hK.out _ _ (HG.out _ k2 kb) (fun hHeld => ?_)
                clear hK K
                try simp only [Act.put, List.getElem_toArray, List.getElem_cons_succ, List.getElem_cons_zero, List.setIfInBounds_toArray, List.set_cons_zero, List.set_cons_succ]
                refine wpAnyH_take (i := 18) (oi := _) (v := ?_) rfl (by kernel_rfl) (by kernel_rfl) (by kernel_rfl) (fun _ _ _ h => h) (Or.inl ⟨by rfl, ?_⟩) hHeld ?_
                rotate_left
                · (intro w' hSw; (try dsimp only at hSw); go_simp <;> with_reducible rfl)
                try simp only [Act.put, List.getElem_toArray, List.getElem_cons_succ, List.getElem_cons_zero, List.setIfInBounds_toArray, List.set_cons_zero, List.set_cons_succ]
                refine wpAnyH_ready (rs := [19]) (by kernel_rfl) (by simp) (AllReadyH.cons (o := _) rfl (fun K hK => ?_) AllReadyH.nil)
                try simp only [Act.put, List.getElem_toArray, List.getElem_cons_succ, List.getElem_cons_zero, List.setIfInBounds_toArray, List.set_cons_zero, List.set_cons_succ]
                go_simp
                refine hK.out _ _ (HC.out S7) (fun hHeld => ?_)
                clear hK K
                try simp only [Act.put, List.getElem_toArray, List.getElem_cons_succ, List.getElem_cons_zero, List.setIfInBounds_toArray, List.set_cons_zero, List.set_cons_succ]
                refine wpAnyH_done (by kernel_rfl) ?_ _
                go_wp2
                go_roundw
                case rel => exact ⟨k + 1, _, O ++ [a], by omega, by go_num, rfl, by rw [List.length_append, List.length_singleton]; omega, HN.out, S7⟩
                case measure => simp [intOf]; omega
    · have hk' : k = q.rs.length := by omega
      subst hk'
      cases p with
      | true =>
        have S9 : CpSt w w.heap.size (w.heap.size + 1) A q.m.length c A2 q.rs.length c2 (w2.heap.size + 1) q.m (setA q.rs t x) wr := by
          rw [HT.out.all, if_pos rfl, List.append_nil]
          exact ⟨_, _, _, _, S⟩
        clear HT S Sd r0 r2 r3 r4
        obtain ⟨Am9, cm9, Aa9, ca9, -, S1, S2, S3, S4, S5, S6⟩ := S9
        obtain ⟨t0, t1, tf⟩ := id S1.reads
        obtain ⟨j0, j1, -⟩ := id S2.reads
        go_wp2
        have u1 := (S1.set0 (.slice Am9 q.m.length cm9)).set1 (.slice Aa9 (setA q.rs t x).length ca9)
        obtain ⟨p0, p1, -⟩ := id u1.reads
        refine bodyPost_ret (v := .agg #[.slice Am9 q.m.length cm9, .slice Aa9 (setA q.rs t x).length ca9]) (by simp [results, Try.results69, go_sem, p0, p1]) rfl ⟨_, rfl, OwnQ.mk_ (q := ⟨q.m, setA q.rs t x⟩) ((S4.farQ S1 0 _).farQ (S1.set0 _) 1 _) ((S5.farQ S1 0 _).farQ (S1.set0 _) 1 _), (S6.setCell (p := ⟨w.heap.size + 1, 0, none⟩) (Nat.le_succ _) _).setCell (p := ⟨w.heap.size + 1, 1, none⟩) (Nat.le_succ _) _⟩
      | false =>
        have HALL : Hid (setA q.rs t x = out ++ [⟨t, x⟩]) := by
          have := HT.out.all
          rwa [if_neg (by simp)] at this
        clear HT
        go_wp2_with fail
        refine wp_region_held_drew (S := fun _ => True) (by kernel_rfl) trivial (fun hHeld => ?_)
        refine wpAnyH_take (i := 0) (oi := _) (v := ?_) rfl (by kernel_rfl) (by kernel_rfl) (by kernel_rfl) (fun _ _ _ h => h) (Or.inl ⟨by rfl, ?_⟩) hHeld ?_
        rotate_left
        · (intro w' hSw; (try dsimp only at hSw); go_simp <;> with_reducible rfl)
        try simp only [Act.put, List.getElem_toArray, List.getElem_cons_succ, List.getElem_cons_zero, List.setIfInBounds_toArray, List.set_cons_zero, List.set_cons_succ]
        refine wpAnyH_take (i := 2) (oi := _) (v := ?_) rfl (by kernel_rfl) (by kernel_rfl) (by kernel_rfl) (fun _ _ _ h => h) (Or.inl ⟨by rfl, ?_⟩) hHeld ?_
        rotate_left
        · (intro w' hSw; (try dsimp only at hSw); go_simp <;> with_reducible rfl)
        try simp only [Act.put, List.getElem_toArray, List.getElem_cons_succ, List.getElem_cons_zero, List.setIfInBounds_toArray, List.set_cons_zero, List.set_cons_succ]
        refine wpAnyH_take (i := 3) (oi := _) (v := ?_) rfl (by kernel_rfl) (by kernel_rfl) (by kernel_rfl) (fun _ _ _ h => h) (Or.inl ⟨by rfl, ?_⟩) hHeld ?_
        rotate_left
        · (intro w' hSw; (try dsimp only at hSw); go_simp <;> with_reducible rfl)
        try simp only [Act.put, List.getElem_toArray, List.getElem_cons_succ, List.getElem_cons_zero, List.setIfInBounds_toArray, List.set_cons_zero, List.set_cons_succ]
        refine wpAnyH_ready (rs := [1, 4]) (by kernel_rfl) (by simp) (AllReadyH.cons (o := _) rfl (fun K hK => ?_) (AllReadyH.cons (o := _) rfl (fun K hK => ?_) AllReadyH.nil))
        · skip
          try simp only [Act.put, List.getElem_toArray, List.getElem_cons_succ, List.getElem_cons_zero, List.setIfInBounds_toArray, List.set_cons_zero, List.set_cons_succ]
          go_simp
          refine hK.out _ _ trivial (fun hHeld => ?_)
          clear hK K
          try simp only [Act.put, List.getElem_toArray, List.getElem_cons_succ, List.getElem_cons_zero, List.setIfInBounds_toArray, List.set_cons_zero, List.set_cons_succ]
          refine wpAnyH_ready (rs := [4]) (by kernel_rfl) (by simp) (AllReadyH.cons (o := _) rfl (fun K hK => ?_) AllReadyH.nil)
          try simp only [Act.put, List.getElem_toArray, List.getElem_cons_succ, List.getElem_cons_zero, List.setIfInBounds_toArray, List.set_cons_zero, List.set_cons_succ]
          go_simp
          go_at_call 103
          refine (l1Copy_any A3 c3 x _ hxd hxs.2 hxs.1).mono ?_
          rintro e w5 ⟨v5, rfl, o5', b5⟩
          have S5 := Sd.call b5
          have o5 := o5'.base Sd.reads.2.2.2.2.2
          obtain ⟨A5, c5, rfl, -, hc5⟩ := o5.formq
          obtain ⟨-, s1, -, s3, -, s5⟩ := S5.reads
          obtain ⟨ys, hrow, har⟩ := S5.2.2.2.2.2.1
          have oA := World.ownsRow.alloc hrow (.cells #[.int .i64 t, .slice A5 x.length c5] 84)
          have rA := row_two w5 (.int .i64 t) (.slice A5 x.length c5) 84
          have Sa5 := S5.call ((Below.refl w5.heap.size w5).alloc (Nat.le_refl _) (.cells #[.int .i64 t, .slice A5 x.length c5] 84))
          obtain ⟨-, -, -, t3, -, -⟩ := Sa5.reads
          clear o5' b5
          refine hK.out _ _ trivial (fun hHeld => ?_)
          clear hK K
          try simp only [Act.put, List.getElem_toArray, List.getElem_cons_succ, List.getElem_cons_zero, List.setIfInBounds_toArray, List.set_cons_zero, List.set_cons_succ]
          refine wpAnyH_take (i := 5) (oi := _) (v := ?_) rfl (by kernel_rfl) (by kernel_rfl) (by kernel_rfl) (fun _ _ _ h => h) (Or.inl ⟨by rfl, ?_⟩) hHeld ?_
          rotate_left
          · (intro w' hSw; (try dsimp only at hSw); go_simp <;> with_reducible rfl)
          try simp only [Act.put, List.getElem_toArray, List.getElem_cons_succ, List.getElem_cons_zero, List.setIfInBounds_toArray, List.set_cons_zero, List.set_cons_succ]
          refine wpAnyH_ready (rs := [6]) (by kernel_rfl) (by simp) (AllReadyH.cons (o := _) rfl (fun K hK => ?_) AllReadyH.nil)
          try simp only [Act.put, List.getElem_toArray, List.getElem_cons_succ, List.getElem_cons_zero, List.setIfInBounds_toArray, List.set_cons_zero, List.set_cons_succ]
          go_simp
          refine hK.out _ _ trivial (fun hHeld => ?_)
          clear hK K
          try simp only [Act.put, List.getElem_toArray, List.getElem_cons_succ, List.getElem_cons_zero, List.setIfInBounds_toArray, List.set_cons_zero, List.set_cons_succ]
          refine wpAnyH_ready (rs := [7]) (by kernel_rfl) (by simp) (AllReadyH.cons (o := _) rfl (fun K hK => ?_) AllReadyH.nil)
          try simp only [Act.put, List.getElem_toArray, List.getElem_cons_succ, List.getElem_cons_zero, List.setIfInBounds_toArray, List.set_cons_zero, List.set_cons_succ]
          rw [if_pos (by rfl)]
          refine op_append_row _ (by rfl) _ _ 24 (by rfl) w.heap.size 84 i0 (.agg #[.int .i64 0, .slice none 0 0]) 2 32 Try.underlying24 hi hz0 hz1 hz2 rfl (by decide) (.slice Aa out.length ca) out.length ys (by rfl) oA _ (some ⟨w5.heap.size, 0, none⟩) 1 1 [.int .i64 t, .slice A5 x.length c5] (by rfl) rA rfl (ar_cells _ _ _ _) (by unfold maxLen; omega) (by omega) (by simp; omega) ?_
          intro v7 w7 hown hg
          obtain ⟨Aa7, ca7, rfl, ⟨k1, kf, k2, kb⟩, S7⟩ := S5.put (a := ⟨t, x⟩) hrow har o5 hc5 hown hg
          clear hown hg oA rA hrow har o5
          refine hK.out _ _ trivial (fun hHeld => ?_)
          clear hK K
          try simp only [Act.put, List.getElem_toArray, List.getElem_cons_succ, List.getElem_cons_zero, List.setIfInBounds_toArray, List.set_cons_zero, List.set_cons_succ]
          refine wpAnyH_take (i := 8) (oi := _) (v := ?_) rfl (by kernel_rfl) (by kernel_rfl) (by kernel_rfl) (fun _ _ _ h => h) (Or.inl ⟨by rfl, ?_⟩) hHeld ?_
          rotate_left
          · (intro w' hSw; (try dsimp only at hSw); go_simp <;> with_reducible rfl)
          try simp only [Act.put, List.getElem_toArray, List.getElem_cons_succ, List.getElem_cons_zero, List.setIfInBounds_toArray, List.set_cons_zero, List.set_cons_succ]
          refine wpAnyH_ready (rs := [9]) (by kernel_rfl) (by simp) (AllReadyH.cons (o := _) rfl (fun K hK => ?_) AllReadyH.nil)
          try simp only [Act.put, List.getElem_toArray, List.getElem_cons_succ, List.getElem_cons_zero, List.setIfInBounds_toArray, List.set_cons_zero, List.set_cons_succ]
          go_simp
          refine hK.out _ _ trivial (fun hHeld => ?_)
          clear hK K
          try simp only [Act.put, List.getElem_toArray, List.getElem_cons_succ, List.getElem_cons_zero, List.setIfInBounds_toArray, List.set_cons_zero, List.set_cons_succ]
          refine wpAnyH_done (by kernel_rfl) ?_ _
          obtain ⟨W7, hW7⟩ : ∃ W7, w7.setCell ⟨w2.heap.size + 1, 1, none⟩ (.slice Aa7 (out.length + 1) ca7) = W7 := ⟨_, rfl⟩
          rw [hW7] at S7 ⊢
          clear hW7 k1 kf k2 kb hHeld S5 Sa5 s1 s3 s5 t3
          have S9 : CpSt w w.heap.size (w.heap.size + 1) A q.m.length c A2 q.rs.length c2 (w2.heap.size + 1) q.m (setA q.rs t x) W7 := by rw [HALL.out]; exact S7
          clear S7 S Sd
          obtain ⟨Am9, cm9, Aa9, ca9, -, S1, S2, S3, S4, S5, S6⟩ := S9
          obtain ⟨t0, t1, tf⟩ := id S1.reads
          obtain ⟨j0, j1, -⟩ := id S2.reads
          go_wp2
          have u1 := (S1.set0 (.slice Am9 q.m.length cm9)).set1 (.slice Aa9 (setA q.rs t x).length ca9)
          obtain ⟨p0, p1, -⟩ := id u1.reads
          refine bodyPost_ret (v := .agg #[.slice Am9 q.m.length cm9, .slice Aa9 (setA q.rs t x).length ca9]) (by simp [results, Try.results69, go_sem, p0, p1]) rfl ⟨_, rfl, OwnQ.mk_ (q := ⟨q.m, setA q.rs t x⟩) ((S4.farQ S1 0 _).farQ (S1.set0 _) 1 _) ((S5.farQ S1 0 _).farQ (S1.set0 _) 1 _), (S6.setCell (p := ⟨w.heap.size + 1, 0, none⟩) (Nat.le_succ _) _).setCell (p := ⟨w.heap.size + 1, 1, none⟩) (Nat.le_succ _) _⟩
        · skip
          try simp only [Act.put, List.getElem_toArray, List.getElem_cons_succ, List.getElem_cons_zero, List.setIfInBounds_toArray, List.set_cons_zero, List.set_cons_succ]
          go_simp
          go_at_call 103
          refine (l1Copy_any A3 c3 x _ hxd hxs.2 hxs.1).mono ?_
          rintro e w5 ⟨v5, rfl, o5', b5⟩
          have S5 := Sd.call b5
          have o5 := o5'.base Sd.reads.2.2.2.2.2
          obtain ⟨A5, c5, rfl, -, hc5⟩ := o5.formq
          obtain ⟨-, s1, -, s3, -, s5⟩ := S5.reads
          obtain ⟨ys, hrow, har⟩ := S5.2.2.2.2.2.1
          have oA := World.ownsRow.alloc hrow (.cells #[.int .i64 t, .slice A5 x.length c5] 84)
          have rA := row_two w5 (.int .i64 t) (.slice A5 x.length c5) 84
          have Sa5 := S5.call ((Below.refl w5.heap.size w5).alloc (Nat.le_refl _) (.cells #[.int .i64 t, .slice A5 x.length c5] 84))
          obtain ⟨-, -, -, t3, -, -⟩ := Sa5.reads
          clear o5' b5
          refine hK.out _ _ trivial (fun hHeld => ?_)
          clear hK K
          try simp only [Act.put, List.getElem_toArray, List.getElem_cons_succ, List.getElem_cons_zero, List.setIfInBounds_toArray, List.set_cons_zero, List.set_cons_succ]
          refine wpAnyH_take (i := 5) (oi := _) (v := ?_) rfl (by kernel_rfl) (by kernel_rfl) (by kernel_rfl) (fun _ _ _ h => h) (Or.inl ⟨by rfl, ?_⟩) hHeld ?_
          rotate_left
          · (intro w' hSw; (try dsimp only at hSw); go_simp <;> with_reducible rfl)
          try simp only [Act.put, List.getElem_toArray, List.getElem_cons_succ, List.getElem_cons_zero, List.setIfInBounds_toArray, List.set_cons_zero, List.set_cons_succ]
          refine wpAnyH_ready (rs := [1, 6]) (by kernel_rfl) (by simp) (AllReadyH.cons (o := _) rfl (fun K hK => ?_) (AllReadyH.cons (o := _) rfl (fun K hK => ?_) AllReadyH.nil))
          · skip
            try simp only [Act.put, List.getElem_toArray, List.getElem_cons_succ, List.getElem_cons_zero, List.setIfInBounds_toArray, List.set_cons_zero, List.set_cons_succ]
            go_simp
            refine hK.out _ _ trivial (fun hHeld => ?_)
            clear hK K
            try simp only [Act.put, List.getElem_toArray, List.getElem_cons_succ, List.getElem_cons_zero, List.setIfInBounds_toArray, List.set_cons_zero, List.set_cons_succ]
            refine wpAnyH_ready (rs := [6]) (by kernel_rfl) (by simp) (AllReadyH.cons (o := _) rfl (fun K hK => ?_) AllReadyH.nil)
            try simp only [Act.put, List.getElem_toArray, List.getElem_cons_succ, List.getElem_cons_zero, List.setIfInBounds_toArray, List.set_cons_zero, List.set_cons_succ]
            go_simp
            refine hK.out _ _ trivial (fun hHeld => ?_)
            clear hK K
            try simp only [Act.put, List.getElem_toArray, List.getElem_cons_succ, List.getElem_cons_zero, List.setIfInBounds_toArray, List.set_cons_zero, List.set_cons_succ]
            refine wpAnyH_ready (rs := [7]) (by kernel_rfl) (by simp) (AllReadyH.cons (o := _) rfl (fun K hK => ?_) AllReadyH.nil)
            try simp only [Act.put, List.getElem_toArray, List.getElem_cons_succ, List.getElem_cons_zero, List.setIfInBounds_toArray, List.set_cons_zero, List.set_cons_succ]
            rw [if_pos (by rfl)]
            refine op_append_row _ (by rfl) _ _ 24 (by rfl) w.heap.size 84 i0 (.agg #[.int .i64 0, .slice none 0 0]) 2 32 Try.underlying24 hi hz0 hz1 hz2 rfl (by decide) (.slice Aa out.length ca) out.length ys (by rfl) oA _ (some ⟨w5.heap.size, 0, none⟩) 1 1 [.int .i64 t, .slice A5 x.length c5] (by rfl) rA rfl (ar_cells _ _ _ _) (by unfold maxLen; omega) (by omega) (by simp; omega) ?_
            intro v7 w7 hown hg
            obtain ⟨Aa7, ca7, rfl, ⟨k1, kf, k2, kb⟩, S7⟩ := S5.put (a := ⟨t, x⟩) hrow har o5 hc5 hown hg
            clear hown hg oA rA hrow har o5
            refine hK.out _ _ trivial (fun hHeld => ?_)
            clear hK K
            try simp only [Act.put, List.getElem_toArray, List.getElem_cons_succ, List.getElem_cons_zero, List.setIfInBounds_toArray, List.set_cons_zero, List.set_cons_succ]
            refine wpAnyH_take (i := 8) (oi := _) (v := ?_) rfl (by kernel_rfl) (by kernel_rfl) (by kernel_rfl) (fun _ _ _ h => h) (Or.inl ⟨by rfl, ?_⟩) hHeld ?_
            rotate_left
            · (intro w' hSw; (try dsimp only at hSw); go_simp <;> with_reducible rfl)
            try simp only [Act.put, List.getElem_toArray, List.getElem_cons_succ, List.getElem_cons_zero, List.setIfInBounds_toArray, List.set_cons_zero, List.set_cons_succ]
            refine wpAnyH_ready (rs := [9]) (by kernel_rfl) (by simp) (AllReadyH.cons (o := _) rfl (fun K hK => ?_) AllReadyH.nil)
            try simp only [Act.put, List.getElem_toArray, List.getElem_cons_succ, List.getElem_cons_zero, List.setIfInBounds_toArray, List.set_cons_zero, List.set_cons_succ]
            go_simp
            refine hK.out _ _ trivial (fun hHeld => ?_)
            clear hK K
            try simp only [Act.put, List.getElem_toArray, List.getElem_cons_succ, List.getElem_cons_zero, List.setIfInBounds_toArray, List.set_cons_zero, List.set_cons_succ]
            refine wpAnyH_done (by kernel_rfl) ?_ _
            obtain ⟨W7, hW7⟩ : ∃ W7, w7.setCell ⟨w2.heap.size + 1, 1, none⟩ (.slice Aa7 (out.length + 1) ca7) = W7 := ⟨_, rfl⟩
            rw [hW7] at S7 ⊢
            clear hW7 k1 kf k2 kb hHeld S5 Sa5 s1 s3 s5 t3
            have S9 : CpSt w w.heap.size (w.heap.size + 1) A q.m.length c A2 q.rs.length c2 (w2.heap.size + 1) q.m (setA q.rs t x) W7 := by rw [HALL.out]; exact S7
            clear S7 S Sd
            obtain ⟨Am9, cm9, Aa9, ca9, -, S1, S2, S3, S4, S5, S6⟩ := S9
            obtain ⟨t0, t1, tf⟩ := id S1.reads
            obtain ⟨j0, j1, -⟩ := id S2.reads
            go_wp2
            have u1 := (S1.set0 (.slice Am9 q.m.length cm9)).set1 (.slice Aa9 (setA q.rs t x).length ca9)
            obtain ⟨p0, p1, -⟩ := id u1.reads
            refine bodyPost_ret (v := .agg #[.slice Am9 q.m.length cm9, .slice Aa9 (setA q.rs t x).length ca9]) (by simp [results, Try.results69, go_sem, p0, p1]) rfl ⟨_, rfl, OwnQ.mk_ (q := ⟨q.m, setA q.rs t x⟩) ((S4.farQ S1 0 _).farQ (S1.set0 _) 1 _) ((S5.farQ S1 0 _).farQ (S1.set0 _) 1 _), (S6.setCell (p := ⟨w.heap.size + 1, 0, none⟩) (Nat.le_succ _) _).setCell (p := ⟨w.heap.size + 1, 1, none⟩) (Nat.le_succ _) _⟩
          · skip
            try simp only [Act.put, List.getElem_toArray, List.getElem_cons_succ, List.getElem_cons_zero, List.setIfInBounds_toArray, List.set_cons_zero, List.set_cons_succ]
            go_simp
            refine hK.out _ _ trivial (fun hHeld => ?_)
            clear hK K
            try simp only [Act.put, List.getElem_toArray, List.getElem_cons_succ, List.getElem_cons_zero, List.setIfInBounds_toArray, List.set_cons_zero, List.set_cons_succ]
            refine wpAnyH_ready (rs := [1]) (by kernel_rfl) (by simp) (AllReadyH.cons (o := _) rfl (fun K hK => ?_) AllReadyH.nil)
            try simp only [Act.put, List.getElem_toArray, List.getElem_cons_succ, List.getElem_cons_zero, List.setIfInBounds_toArray, List.set_cons_zero, List.set_cons_succ]
            go_simp
            refine hK.out _ _ trivial (fun hHeld => ?_)
            clear hK K
            try simp only [Act.put, List.getElem_toArray, List.getElem_cons_succ, List.getElem_cons_zero, List.setIfInBounds_toArray, List.set_cons_zero, List.set_cons_succ]
            refine wpAnyH_ready (rs := [7]) (by kernel_rfl) (by simp) (AllReadyH.cons (o := _) rfl (fun K hK => ?_) AllReadyH.nil)
            try simp only [Act.put, List.getElem_toArray, List.getElem_cons_succ, List.getElem_cons_zero, List.setIfInBounds_toArray, List.set_cons_zero, List.set_cons_succ]
            rw [if_pos (by rfl)]
            refine op_append_row _ (by rfl) _ _ 24 (by rfl) w.heap.size 84 i0 (.agg #[.int .i64 0, .slice none 0 0]) 2 32 Try.underlying24 hi hz0 hz1 hz2 rfl (by decide) (.slice Aa out.length ca) out.length ys (by rfl) oA _ (some ⟨w5.heap.size, 0, none⟩) 1 1 [.int .i64 t, .slice A5 x.length c5] (by rfl) rA rfl (ar_cells _ _ _ _) (by unfold maxLen; omega) (by omega) (by simp; omega) ?_
            intro v7 w7 hown hg
            obtain ⟨Aa7, ca7, rfl, ⟨k1, kf, k2, kb⟩, S7⟩ := S5.put (a := ⟨t, x⟩) hrow har o5 hc5 hown hg
            clear hown hg oA rA hrow har o5
            refine hK.out _ _ trivial (fun hHeld => ?_)
            clear hK K
            try simp only [Act.put, List.getElem_toArray, List.getElem_cons_succ, List.getElem_cons_zero, List.setIfInBounds_toArray, List.set_cons_zero, List.set_cons_succ]
            refine wpAnyH_take (i := 8) (oi := _) (v := ?_) rfl (by kernel_rfl) (by kernel_rfl) (by kernel_rfl) (fun _ _ _ h => h) (Or.inl ⟨by rfl, ?_⟩) hHeld ?_
            rotate_left
            · (intro w' hSw; (try dsimp only at hSw); go_simp <;> with_reducible rfl)
            try simp only [Act.put, List.getElem_toArray, List.getElem_cons_succ, List.getElem_cons_zero, List.setIfInBounds_toArray, List.set_cons_zero, List.set_cons_succ]
            refine wpAnyH_ready (rs := [9]) (by kernel_rfl) (by simp) (AllReadyH.cons (o := _) rfl (fun K hK => ?_) AllReadyH.nil)
            try simp only [Act.put, List.getElem_toArray, List.getElem_cons_succ, List.getElem_cons_zero, List.setIfInBounds_toArray, List.set_cons_zero, List.set_cons_succ]
            go_simp
            refine hK.out _ _ trivial (fun hHeld => ?_)
            clear hK K
            try simp only [Act.put, List.getElem_toArray, List.getElem_cons_succ, List.getElem_cons_zero, List.setIfInBounds_toArray, List.set_cons_zero, List.set_cons_succ]
            refine wpAnyH_done (by kernel_rfl) ?_ _
            obtain ⟨W7, hW7⟩ : ∃ W7, w7.setCell ⟨w2.heap.size + 1, 1, none⟩ (.slice Aa7 (out.length + 1) ca7) = W7 := ⟨_, rfl⟩
            rw [hW7] at S7 ⊢
            clear hW7 k1 kf k2 kb hHeld S5 Sa5 s1 s3 s5 t3
            have S9 : CpSt w w.heap.size (w.heap.size + 1) A q.m.length c A2 q.rs.length c2 (w2.heap.size + 1) q.m (setA q.rs t x) W7 := by rw [HALL.out]; exact S7
            clear S7 S Sd
            obtain ⟨Am9, cm9, Aa9, ca9, -, S1, S2, S3, S4, S5, S6⟩ := S9
            obtain ⟨t0, t1, tf⟩ := id S1.reads
            obtain ⟨j0, j1, -⟩ := id S2.reads
            go_wp2
            have u1 := (S1.set0 (.slice Am9 q.m.length cm9)).set1 (.slice Aa9 (setA q.rs t x).length ca9)
            obtain ⟨p0, p1, -⟩ := id u1.reads
            refine bodyPost_ret (v := .agg #[.slice Am9 q.m.length cm9, .slice Aa9 (setA q.rs t x).length ca9]) (by simp [results, Try.results69, go_sem, p0, p1]) rfl ⟨_, rfl, OwnQ.mk_ (q := ⟨q.m, setA q.rs t x⟩) ((S4.farQ S1 0 _).farQ (S1.set0 _) 1 _) ((S5.farQ S1 0 _).farQ (S1.set0 _) 1 _), (S6.setCell (p := ⟨w.heap.size + 1, 0, none⟩) (Nat.le_succ _) _).setCell (p := ⟨w.heap.size + 1, 1, none⟩) (Nat.le_succ _) _⟩
end Go.Proofs.Ytblknnifccmpkaa
