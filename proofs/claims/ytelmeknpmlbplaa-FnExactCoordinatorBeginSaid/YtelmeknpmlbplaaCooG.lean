/- The coordinator with the slices $SA and $SB is stored as the answer, with the word $BB. -/
/- Laws on coordinators: a coordinator is boxed. -/
/-
  Walks: the refs after some committed transactions, by the model.
-/
import Derived.Test.YtelmeknpmlbplaaG5C
import Derived.Test.YtelmeknpmlbplaaBegM
namespace Go.Proofs.Ytelmeknpmlbplaa
open Go.RowKit Wo Pu Rf Co

set_option linter.unusedVariables false in
/-- Behind it: numbers that can be read. -/
def ReadI (zs : List Int) (w : World) (e : Ending) (w' : World) : Prop := ∃ A c, e = .returned (.slice A zs.length c) ∧ Row w' w'.heap.size A (ints zs) ∧ zs.length ≤ c ∧ Below w.heap.size w w'
set_option linter.unusedVariables false in
set_option linter.unusedSimpArgs false in
theorem usAt_at {ps : List Part} {s : Int} {k : Nat} (hk : k < ps.length) (h1 : ps[k].s = s) (h2 : ∀ j (hj : j < ps.length), j < k → ps[j].s ≠ s) : usAt ps s = ps[k].us := by
  unfold usAt
  have : ps.find? (fun p => p.s == s) = some ps[k] := List.find?_eq_some_iff_getElem.2 ⟨by simpa using h1, k, hk, rfl, fun j hj => by simpa using h2 j (by omega) hj⟩
  rw [this]
set_option linter.unusedVariables false in
set_option linter.unusedSimpArgs false in
theorem usAt_no {ps : List Part} {s : Int} (h : ∀ j (hj : j < ps.length), ps[j].s ≠ s) : usAt ps s = [] := by
  unfold usAt
  rw [List.find?_eq_none.2 fun p hp => by obtain ⟨j, hj, rfl⟩ := List.getElem_of_mem hp; simpa using h j hj]
set_option linter.unusedVariables false in
set_option linter.unusedSimpArgs false in
theorem usAt_valid {ps : List Part} {s : Int} (h : PartsV ps) : Refs4 (usAt ps s) := by
  unfold usAt
  rcases hf : ps.find? (fun p => p.s == s) with _ | p
  · exact fun u hu => by rw [hf] at hu; cases hu
  · rw [hf]
    exact refs4_of ((h.2.1 p (List.mem_of_find?_eq_some hf)).2.2)
set_option linter.unusedVariables false in
set_option linter.unusedSimpArgs false in
theorem foldC_len (c : Crd) (s : Int) : ∀ (l : List Int) (z : List Int), (l.foldl (fun z o => match c.ts[o.toNat]? with
  | some t => setR z (usAt t.ps s)
  | none => z) z).length = z.length := by
  intro l
  induction l with
  | nil => intro z; rfl
  | cons o l ih =>
    intro z
    rw [List.foldl_cons, ih]
    rcases c.ts[o.toNat]? with _ | t
    · rfl
    · exact setR_length _ _
set_option linter.unusedVariables false in
set_option linter.unusedSimpArgs false in
theorem refsC_len (c : Crd) (s : Int) (m : Nat) : (refsC c s m).length = 4 := by
  unfold refsC
  exact foldC_len c s (c.os.take m) Sh.start
set_option linter.unusedVariables false in
set_option linter.unusedSimpArgs false in
theorem refsC_zero (c : Crd) (s : Int) : refsC c s 0 = [-1, -1, -1, -1] := rfl
set_option linter.unusedVariables false in
set_option linter.unusedSimpArgs false in
theorem field_refs (A : Option Addr) (n c : Nat) (A2 : Option Addr) (n2 c2 : Nat) (W : World) : (Instr.field 112 (.agg #[.slice A n c, .slice A2 n2 c2]) 0).run Try.prog W = .ok (.slice A n c) W := by kernel_rfl
set_option linter.unusedSimpArgs false in
set_option linter.unusedVariables false in
set_option maxRecDepth 100000 in
set_option maxHeartbeats 16000000 in
theorem l22Refs_any (v : Value) (q : Crd) (s : Int) (m : Nat) (w : World) (h : Crdd w w.heap.size v q) (hf : FitC q) (hv : CV q) (hm : m ≤ q.os.length) :
    Calls Try.prog 54 #[v, .int .i64 s, .int .i64 m] w (ReadI (refsC q s m) w) := by
  have HV := hid hv
  have HF := hid hf
  have hf2 := hf.os
  have hf1 := hf.ts
  obtain ⟨A, c, A2, c2, rfl, hT, hc, hO, hc2⟩ := h
  clear hv hf
  unfold crV at *
  have b1 := (Below.refl w.heap.size w).alloc (Nat.le_refl _) (.cells #[.slice A q.ts.length c, .slice A2 q.os.length c2] 26)
  have x0 := Blk2s.new_ w 26 (.slice A q.ts.length c) (.slice A2 q.os.length c2)
  go_enter Try.func54, Try.ntmps54
  go_upto_region 1 with fail
  obtain ⟨w1, hw1⟩ : ∃ x, w.alloc (.cells #[.slice A q.ts.length c, .slice A2 q.os.length c2] 26) = x := ⟨_, rfl⟩
  rw [hw1] at b1 x0 ⊢
  clear hw1
  go_wp2_with fail
  refine (l21Begin_any w1).mono ?_
  rintro e w2 ⟨v2, rfl, ⟨A3, c3, A4, c4, rfl, r3, hc3, -, -⟩, d⟩
  unfold stV
  have hfr := field_refs A3 4 c3 A4 4 c4
  have hb2 := b1.trans (d.mono b1.size)
  have y0 := x0.later d
  clear b1 x0 d
  go_wp2_with fail
  go_loopw [7, 8] (fun o i wr => ∃ (k : Nat) (Ar : Option Addr) (cr : Nat) (zs : List Int), k ≤ m ∧ i = .int .i64 k ∧ o = .slice Ar 4 cr ∧ 4 ≤ cr ∧ zs.length = 4 ∧ Hid (zs = refsC q s k) ∧ Row wr wr.heap.size Ar (ints zs) ∧ Blk2s wr w.heap.size 26 (.slice A q.ts.length c) (.slice A2 q.os.length c2) ∧ Below w.heap.size w wr) (fun _ i _ => m - (intOf i).toNat)
  case atStart => exact ⟨0, _, _, _, Nat.zero_le _, rfl, rfl, hc3, rfl, rfl, r3, y0, hb2⟩
  case round =>
    obtain ⟨k, Ar, cr, zs, hk, rfl, rfl, hcr, hzl, HZ, rr, x0, hb⟩ := hrel
    clear r3 y0 hb2 hc3 hfr
    have hz := hb.size
    by_cases hlt : k < m
    · have hko : k < q.os.length := by omega
      obtain ⟨n, hn, eo, -⟩ := HV.out.order.2 _ (List.getElem_mem hko)
      obtain ⟨ad2, rfl, hbl2, hc9⟩ := hO.int_ hko
      rw [eo] at hc9
      obtain ⟨t, ad, A', c', A9, c9, ho, rfl, had, g0, g1, g2, -, -, g5, -⟩ := hT.tx hn
      have htv := HV.out.txs t (by rw [← ho]; exact List.getElem_mem hn)
      have hps := (HF.out.ps t (by rw [← ho]; exact List.getElem_mem hn)).1
      have hus := HF.out.us t (by rw [← ho]; exact List.getElem_mem hn)
      have q0 : (0 : Int) ≤ (k : Int) := by omega
      have q1 : (k : Int) < (q.os.length : Int) := by omega
      have q2 : (0 : Int) ≤ (n : Int) := by omega
      have q3 : (n : Int) < (q.ts.length : Int) := by omega
      have q4 : decide ((k : Int) < (m : Int)) = true := decide_eq_true (by omega)
      have q5 : decide (k < m) = true := decide_eq_true hlt
      have HR : Hid (refsC q s (k + 1) = setR zs (usAt t.ps s)) := by
        show _ = _
        rw [refsC_succ hko hn eo, HZ.out, ho]
      obtain ⟨z, hzx⟩ := ix_ex t.ps s
      have HS : Hid (∀ x, Blk2s x w.heap.size 26 (.slice (some ad) q.ts.length c) (.slice (some ad2) q.os.length c2) → Below w.heap.size w x → x.cell? ⟨w.heap.size, 0, none⟩ = some (.slice (some ad) q.ts.length c) ∧ x.cell? ⟨w.heap.size, 1, none⟩ = some (.slice (some ad2) q.os.length c2) ∧ x.cell? (ad2.add k) = some (.int .i64 n) ∧
          x.cell? (ad.add (n * 3)) = some (.slice A' t.ps.length c') ∧ x.cell? ⟨(ad.add (n * 3)).block, (ad.add (n * 3)).off + 1, none⟩ = some (.slice A9 t.vs.length c9) ∧ x.cell? ⟨(ad.add (n * 3)).block, (ad.add (n * 3)).off + 2, none⟩ = some (.int .i64 t.d)) := fun x h1 hx =>
        ⟨h1.reads.1, h1.reads.2.1, (hx.cell (by rw [add_block]; exact hbl2)).trans hc9, (hx.cell had).trans g0, (hx.cell (p := ⟨(ad.add (n * 3)).block, (ad.add (n * 3)).off + 1, none⟩) had).trans g1, (hx.cell (p := ⟨(ad.add (n * 3)).block, (ad.add (n * 3)).off + 2, none⟩) had).trans g2⟩
      have CS : Hid (∀ x, Below w.heap.size w x → Calls Try.prog 66 #[.slice A' t.ps.length c', .int .i64 s] x (Same (.int .i64 z) x)) := fun x hx => l22Shard_is z A' c' t.ps s x w.heap.size (g5.below hx (Nat.le_refl _)) (by omega) hzx
      have HT := hid htv
      have HX := hid hzx
      clear hc9 g0 g1 g2 hps eo ho htv hzx
      go_upto_region 5 with fail
      have D : Below wr.heap.size wr wr.drew := (Below.refl _ _).drew
      refine wp_region_held_drew (S := fun x => x.cell? ⟨w.heap.size, 0, none⟩ = some (.slice (some ad) q.ts.length c) ∧ x.cell? ⟨w.heap.size, 1, none⟩ = some (.slice (some ad2) q.os.length c2) ∧ x.cell? (ad2.add k) = some (.int .i64 n) ∧
          x.cell? (ad.add (n * 3)) = some (.slice A' t.ps.length c') ∧ x.cell? ⟨(ad.add (n * 3)).block, (ad.add (n * 3)).off + 1, none⟩ = some (.slice A9 t.vs.length c9) ∧ x.cell? ⟨(ad.add (n * 3)).block, (ad.add (n * 3)).off + 2, none⟩ = some (.int .i64 t.d)) (by kernel_rfl) (HS.out _ (x0.later D) (hb.trans (D.mono hz))) (fun hHeld => ?_)
      obtain ⟨W, hW⟩ : ∃ x, wr.drew = x := ⟨_, rfl⟩
      rw [hW] at D hHeld ⊢
      clear hW
      replace rr := (rr.below D (Nat.le_refl _)).more D.size
      replace x0 := x0.later D
      replace hb := hb.trans (D.mono hz)
      clear D hz
      have hz := hb.size
      try simp only [Act.put, List.getElem_toArray, List.getElem_cons_succ, List.getElem_cons_zero, List.setIfInBounds_toArray, List.set_cons_zero, List.set_cons_succ]
      refine wpAnyH_take (i := 0) (oi := _) (v := ?_) rfl (by kernel_rfl) (by kernel_rfl) (by kernel_rfl) (fun _ _ _ h => h) (Or.inl ⟨by rfl, ?_⟩) hHeld ?_
      rotate_left
      · (intro w' hSw; (try dsimp only at hSw); go_simp <;> with_reducible rfl)
      try simp only [Act.put, List.getElem_toArray, List.getElem_cons_succ, List.getElem_cons_zero, List.setIfInBounds_toArray, List.set_cons_zero, List.set_cons_succ]
      refine wpAnyH_take (i := 1) (oi := _) (v := ?_) rfl (by kernel_rfl) (by kernel_rfl) (by kernel_rfl) (fun _ _ _ h => h) (Or.inl ⟨by rfl, ?_⟩) hHeld ?_
      rotate_left
      · (intro w' hSw; (try dsimp only at hSw); go_simp <;> with_reducible rfl)
      try simp only [Act.put, List.getElem_toArray, List.getElem_cons_succ, List.getElem_cons_zero, List.setIfInBounds_toArray, List.set_cons_zero, List.set_cons_succ]
      refine wpAnyH_take (i := 2) (oi := _) (v := ?_) rfl (by kernel_rfl) (by kernel_rfl) (by kernel_rfl) (fun _ _ _ h => h) (Or.inl ⟨by rfl, ?_⟩) hHeld ?_
      rotate_left
      · (intro w' hSw; (try dsimp only at hSw); go_simp <;> with_reducible rfl)
      try simp only [Act.put, List.getElem_toArray, List.getElem_cons_succ, List.getElem_cons_zero, List.setIfInBounds_toArray, List.set_cons_zero, List.set_cons_succ]
      refine wpAnyH_take (i := 3) (oi := _) (v := ?_) rfl (by kernel_rfl) (by kernel_rfl) (by kernel_rfl) (fun _ _ _ h => h) (Or.inl ⟨by rfl, ?_⟩) hHeld ?_
      rotate_left
      · (intro w' hSw; (try dsimp only at hSw); go_simp <;> with_reducible rfl)
      try simp only [Act.put, List.getElem_toArray, List.getElem_cons_succ, List.getElem_cons_zero, List.setIfInBounds_toArray, List.set_cons_zero, List.set_cons_succ]
      refine wpAnyH_take (i := 4) (oi := _) (v := ?_) rfl (by kernel_rfl) (by kernel_rfl) (by kernel_rfl) (fun _ _ _ h => h) (Or.inl ⟨by rfl, ?_⟩) hHeld ?_
      rotate_left
      · (intro w' hSw; (try dsimp only at hSw); go_simp <;> with_reducible rfl)
      try simp only [Act.put, List.getElem_toArray, List.getElem_cons_succ, List.getElem_cons_zero, List.setIfInBounds_toArray, List.set_cons_zero, List.set_cons_succ]
      refine wpAnyH_take (i := 5) (oi := _) (v := ?_) rfl (by kernel_rfl) (by kernel_rfl) (by kernel_rfl) (fun _ _ _ h => h) (Or.inl ⟨by rfl, ?_⟩) hHeld ?_
      rotate_left
      · (intro w' hSw; (try dsimp only at hSw); go_simp <;> with_reducible rfl)
      try simp only [Act.put, List.getElem_toArray, List.getElem_cons_succ, List.getElem_cons_zero, List.setIfInBounds_toArray, List.set_cons_zero, List.set_cons_succ]
      refine wpAnyH_take (i := 6) (oi := _) (v := ?_) rfl (by kernel_rfl) (by kernel_rfl) (by kernel_rfl) (fun _ _ _ h => h) (Or.inl ⟨by rfl, ?_⟩) hHeld ?_
      rotate_left
      · (intro w' hSw; (try dsimp only at hSw); go_simp <;> with_reducible rfl)
      try simp only [Act.put, List.getElem_toArray, List.getElem_cons_succ, List.getElem_cons_zero, List.setIfInBounds_toArray, List.set_cons_zero, List.set_cons_succ]
      refine wpAnyH_take (i := 7) (oi := _) (v := ?_) rfl (by kernel_rfl) (by kernel_rfl) (by kernel_rfl) (fun _ _ _ h => h) (Or.inl ⟨by rfl, ?_⟩) hHeld ?_
      rotate_left
      · (intro w' hSw; (try dsimp only at hSw); go_simp <;> with_reducible rfl)
      try simp only [Act.put, List.getElem_toArray, List.getElem_cons_succ, List.getElem_cons_zero, List.setIfInBounds_toArray, List.set_cons_zero, List.set_cons_succ]
      refine wpAnyH_take (i := 8) (oi := _) (v := ?_) rfl (by kernel_rfl) (by kernel_rfl) (by kernel_rfl) (fun _ _ _ h => h) (Or.inl ⟨by rfl, ?_⟩) hHeld ?_
      rotate_left
      · (intro w' hSw; (try dsimp only at hSw); go_simp <;> with_reducible rfl)
      try simp only [Act.put, List.getElem_toArray, List.getElem_cons_succ, List.getElem_cons_zero, List.setIfInBounds_toArray, List.set_cons_zero, List.set_cons_succ]
      refine wpAnyH_ready (rs := [9]) (by kernel_rfl) (by simp) (AllReadyH.cons (o := _) rfl (fun K hK => ?_) AllReadyH.nil)
      try simp only [Act.put, List.getElem_toArray, List.getElem_cons_succ, List.getElem_cons_zero, List.setIfInBounds_toArray, List.set_cons_zero, List.set_cons_succ]
      have hx0 : w.heap.size < W.heap.size := x0.lt
      obtain ⟨gB, hgB⟩ : ∃ x, W.heap.size = x := ⟨_, rfl⟩
      have D : Below gB W (W.alloc (.cells #[.slice none 0 0, .slice none 0 0, .int .i64 0] 33)) := (Below.refl gB W).alloc (by omega) _
      have x9 := Blk3s.new_ W 33 (.slice none 0 0) (.slice none 0 0) (.int .i64 0)
      rw [hgB] at x9 hx0 hz rr
      go_simp
      try rw [hgB]
      obtain ⟨W2, hW⟩ : ∃ x, W.alloc (.cells #[.slice none 0 0, .slice none 0 0, .int .i64 0] 33) = x := ⟨_, rfl⟩
      rw [hW] at D x9 ⊢
      clear hW hgB
      have x02 := x0.below D hx0
      refine hK.out _ _ (HS.out _ x02 (hb.trans (D.mono hz))) (fun hHeld => ?_)
      clear hK K
      try simp only [Act.put, List.getElem_toArray, List.getElem_cons_succ, List.getElem_cons_zero, List.setIfInBounds_toArray, List.set_cons_zero, List.set_cons_succ]
      obtain ⟨t0, t1, t2, tf⟩ := id x9.reads
      have tf0 := tf 0
      have tf1 := tf 1
      have tf2 := tf 2
      clear tf
      replace D := ((D.setCell (p := ⟨gB, 0, none⟩) (Nat.le_refl _) (.slice A' t.ps.length c')).setCell (p := ⟨gB, 1, none⟩) (Nat.le_refl _) (.slice A9 t.vs.length c9)).setCell (p := ⟨gB, 2, none⟩) (Nat.le_refl _) (.int .i64 t.d)
      replace x9 := ((x9.set0 (.slice A' t.ps.length c')).set1 (.slice A9 t.vs.length c9)).set2 (.int .i64 t.d)
      refine wpAnyH_ready (rs := [10]) (by kernel_rfl) (by simp) (AllReadyH.cons (o := _) rfl (fun K hK => ?_) AllReadyH.nil)
      try simp only [Act.put, List.getElem_toArray, List.getElem_cons_succ, List.getElem_cons_zero, List.setIfInBounds_toArray, List.set_cons_zero, List.set_cons_succ]
      go_simp
      clear t0 t1 t2 tf0 tf1 tf2 x02
      obtain ⟨W3, hW⟩ : ∃ x, ((W2.setCell ⟨gB, 0, none⟩ (.slice A' t.ps.length c')).setCell ⟨gB, 1, none⟩ (.slice A9 t.vs.length c9)).setCell ⟨gB, 2, none⟩ (.int .i64 t.d) = x := ⟨_, rfl⟩
      rw [hW] at D x9 ⊢
      clear hW
      replace x0 := x0.below D hx0
      replace hb := hb.trans (D.mono hz)
      have zB : gB ≤ W3.heap.size := by have := x9.lt; omega
      replace rr := (rr.below D (Nat.le_refl _)).more zB
      refine hK.out _ _ (HS.out _ x0 hb) (fun hHeld => ?_)
      clear hK K
      try simp only [Act.put, List.getElem_toArray, List.getElem_cons_succ, List.getElem_cons_zero, List.setIfInBounds_toArray, List.set_cons_zero, List.set_cons_succ]
      refine wpAnyH_done (by kernel_rfl) ?_ _
      clear hHeld D HS
      obtain ⟨y9, -⟩ := id x9.reads
      go_wp2_with fail
      refine (CS.out _ hb).mono ?_
      rintro e W4 ⟨rfl, rfl⟩
      clear CS
      rcases HX.out with ⟨j, hj, rfl, hjs, hjn⟩ | ⟨rfl, hjn⟩
      · obtain ⟨p, ad3, A5, c5, hop, rfl, hbp, k0, k1, k2, k3⟩ := (g5.below hb (Nat.le_refl _)).part hj
        have hul := hus p (by rw [← hop]; exact List.getElem_mem hj)
        have hue : usAt t.ps s = p.us := by rw [usAt_at hj hjs hjn, hop]
        have h4r : Refs4 p.us := by rw [← hue]; exact usAt_valid HT.out.parts
        have zW := hb.size
        have CL := hid (l11Set_any Ar A5 cr c5 zs p.us W3 rr hzl (k3.more zW) h4r (by omega))
        rw [hzl] at CL
        have j0 : (0 : Int) ≤ (j : Int) := by omega
        have j1 : (j : Int) < (t.ps.length : Int) := by omega
        have HU := hid hue
        clear hjs hjn hue h4r k3 hop hus
        go_wp2_with fail
        refine CL.out.mono ?_
        rintro e W4 ⟨A6, c6, rfl, o6, d6⟩
        have hl6 : (setR zs p.us).length = 4 := by rw [setR_length]; exact hzl
        obtain ⟨A7, c7, e7, r6, hc6⟩ := o6.form
        injection e7 with e7 e8 e9
        subst e7
        subst e9
        rw [hl6] at hc6 ⊢
        have hb6 := hb.trans (d6.mono zW)
        have x6 := x0.later d6
        clear CL o6 d6
        go_wp2
        go_roundw
        case rel => exact ⟨k + 1, A6, c6, setR zs p.us, by omega, by go_num, rfl, hc6, hl6, by show _ = _; rw [HR.out, HU.out], r6, x6, hb6⟩
        case measure => simp [intOf]; omega
      · have HU : Hid (usAt t.ps s = []) := usAt_no hjn
        clear hjn hus
        go_wp2
        go_roundw
        case rel => exact ⟨k + 1, Ar, cr, zs, by omega, by go_num, rfl, hcr, hzl, by show _ = _; rw [HR.out, HU.out]; rfl, rr, x0, hb⟩
        case measure => simp [intOf]; omega
    · have hk' : k = m := by omega
      subst hk'
      have q4 : decide ((k : Int) < (k : Int)) = false := decide_eq_false (by omega)
      go_wp2
      go_ret
      have e := HZ.out
      subst e
      exact ⟨Ar, cr, by rw [hzl]; rfl, rr, by omega, hb⟩
set_option linter.unusedVariables false in
/-- The refs that CoordinatorRefs answers. -/
def RefsC (q : Crd) (s m : Int) (zs : List Int) : Prop := (∃ k : Nat, m = (k : Int) ∧ CV q ∧ (0 ≤ s ∧ s ≤ 2) ∧ k ≤ q.os.length ∧ zs = refsC q s k) ∨ (¬ (CV q ∧ (0 ≤ s ∧ s ≤ 2) ∧ (0 ≤ m ∧ m ≤ (q.os.length : Int))) ∧ zs = [])
set_option linter.unusedVariables false in
set_option linter.unusedSimpArgs false in
theorem refsC_ex (q : Crd) (s m : Int) : ∃ zs, RefsC q s m zs := by
  by_cases h : CV q ∧ (0 ≤ s ∧ s ≤ 2) ∧ (0 ≤ m ∧ m ≤ (q.os.length : Int))
  · obtain ⟨h1, h2, h3, h4⟩ := h
    obtain ⟨k, rfl⟩ := Int.eq_ofNat_of_zero_le h3
    exact ⟨_, .inl ⟨k, rfl, h1, h2, by omega, rfl⟩⟩
  · exact ⟨_, .inr ⟨h, rfl⟩⟩
set_option linter.unusedVariables false in
set_option linter.unusedSimpArgs false in
theorem RefsC.no_ {q : Crd} {s m : Int} {zs : List Int} (h : RefsC q s m zs) (hn : ¬ (CV q ∧ (0 ≤ s ∧ s ≤ 2) ∧ (0 ≤ m ∧ m ≤ (q.os.length : Int)))) : zs = [] := by
  rcases h with ⟨k, rfl, h1, h2, h3, -⟩ | ⟨-, h⟩
  · exact absurd ⟨h1, h2, by omega, by omega⟩ hn
  · exact h
/- Nothing is answered. -/
set_option linter.unusedSimpArgs false in
set_option linter.unusedVariables false in
set_option maxRecDepth 100000 in
set_option maxHeartbeats 16000000 in
theorem specCoordinatorRefs_is (zs : List Int) (v : Value) (q : Crd) (s m : Int) (w : World) (h : Crdd w w.heap.size v q) (hf : FitC q) (hz : RefsC q s m zs) :
    Calls Try.prog 16 #[v, .int .i64 s, .int .i64 m] w (ReadI zs w) := by
  obtain ⟨bv, hbv⟩ := bool_ofP' (CV q)
  obtain ⟨bs, hbs⟩ := bool_of (0 ≤ s ∧ s ≤ 2)
  obtain ⟨bm, hbm⟩ := bool_of (0 ≤ m ∧ m ≤ (q.os.length : Int))
  have HZ := hid hz
  have HBV := hid hbv
  have HBS := hid hbs
  have HBM := hid hbm
  have CVal : Hid (∀ y, Below w.heap.size w y → Calls Try.prog 22 #[v] y (Ret (.bool bv) y)) := fun y hy => specCoordinatorValid_is bv v q y (h.on hy hy.size) hf hbv
  have C1 : Hid (∀ y, Calls Try.prog 53 #[.int .i64 s, .int .i64 0, .int .i64 2] y (Same (.bool bs) y)) := fun y => l6In_is bs _ _ _ y hbs
  have C2 : Hid (∀ y, Calls Try.prog 53 #[.int .i64 m, .int .i64 0, .int .i64 (q.os.length : Int)] y (Same (.bool bm) y)) := fun y => l6In_is bm _ _ _ y hbm
  have CR : Hid (∀ y (k : Nat), Below w.heap.size w y → CV q → k ≤ q.os.length → Calls Try.prog 54 #[v, .int .i64 s, .int .i64 k] y (ReadI (refsC q s k) y)) := fun y k hy hv hk => l22Refs_any v q s k y (h.on hy hy.size) hf hv hk
  have hf1 := hf.ts
  clear hz hbv hbs hbm
  obtain ⟨A, c, A2, c2, rfl, -, hc, -, hc2⟩ := h
  clear hf
  unfold crV at *
  have b1 := (Below.refl w.heap.size w).alloc (Nat.le_refl _) (.cells #[.slice A q.ts.length c, .slice A2 q.os.length c2] 26)
  have x0 := Blk2s.new_ w 26 (.slice A q.ts.length c) (.slice A2 q.os.length c2)
  go_enter Try.func16, Try.ntmps16
  go_upto_region 1 with fail
  obtain ⟨w1, hw1⟩ : ∃ x, w.alloc (.cells #[.slice A q.ts.length c, .slice A2 q.os.length c2] 26) = x := ⟨_, rfl⟩
  rw [hw1] at b1 x0 ⊢
  clear hw1
  obtain ⟨y0, y1, -⟩ := id x0.reads
  go_wp2_with fail
  refine (CVal.out _ b1).mono ?_
  rintro e w2 ⟨rfl, d⟩
  replace b1 := b1.trans (d.mono b1.size)
  replace x0 := x0.later d
  clear y0 y1 d CVal
  obtain ⟨y0, y1, -⟩ := id x0.reads
  cases bv with
  | false =>
    have HNo : Hid (¬ (CV q ∧ (0 ≤ s ∧ s ≤ 2) ∧ (0 ≤ m ∧ m ≤ (q.os.length : Int)))) := fun e => by have := HBV.out.2 e.1; cases this
    clear C1 C2 CR HBV HBS HBM
    have ez : zs = [] := HZ.out.no_ HNo.out
    subst ez
    have al := (Below.refl w2.heap.size w2).alloc (Nat.le_refl _) (.cells #[] 3)
    have b9 := b1.trans (al.mono b1.size)
    go_wp2
    go_ret
    exact ⟨_, 0, rfl, .inl rfl, Nat.le_refl _, b9⟩
  | true =>
    have HVq := hid (HBV.out.1 rfl)
    go_wp2_with fail
    refine (C1.out _).mono ?_
    rintro e w3 ⟨rfl, rfl⟩
    cases bs with
    | false =>
      have HNo : Hid (¬ (CV q ∧ (0 ≤ s ∧ s ≤ 2) ∧ (0 ≤ m ∧ m ≤ (q.os.length : Int)))) := fun e => by have := HBS.out.2 e.2.1; cases this
      clear C1 C2 CR HBV HBS HBM
      have ez : zs = [] := HZ.out.no_ HNo.out
      subst ez
      have al := (Below.refl w2.heap.size w2).alloc (Nat.le_refl _) (.cells #[] 3)
      have b9 := b1.trans (al.mono b1.size)
      go_wp2
      go_ret
      exact ⟨_, 0, rfl, .inl rfl, Nat.le_refl _, b9⟩
    | true =>
      have HBs := hid (HBS.out.1 rfl)
      go_wp2_with fail
      refine (C2.out _).mono ?_
      rintro e w3 ⟨rfl, rfl⟩
      cases bm with
      | false =>
        have HNo : Hid (¬ (CV q ∧ (0 ≤ s ∧ s ≤ 2) ∧ (0 ≤ m ∧ m ≤ (q.os.length : Int)))) := fun e => by have := HBM.out.2 e.2.2; cases this
        clear C1 C2 CR HBV HBS HBM
        have ez : zs = [] := HZ.out.no_ HNo.out
        subst ez
        have al := (Below.refl w2.heap.size w2).alloc (Nat.le_refl _) (.cells #[] 3)
        have b9 := b1.trans (al.mono b1.size)
        go_wp2
        go_ret
        exact ⟨_, 0, rfl, .inl rfl, Nat.le_refl _, b9⟩
      | true =>
        have hm := HBM.out.1 rfl
        have hs := HBs.out
        obtain ⟨k, rfl⟩ := Int.eq_ofNat_of_zero_le hm.1
        have hk : k ≤ q.os.length := by omega
        have ez : zs = refsC q s k := by
          rcases HZ.out with ⟨k', e, -, -, -, e2⟩ | ⟨hn, -⟩
          · have e3 : k' = k := by omega
            rw [e2, e3]
          · exact absurd ⟨HVq.out, hs, hm⟩ hn
        subst ez
        have CRR := hid (CR.out w2 k b1 HVq.out hk)
        clear C1 C2 CR HBV HBS HBM hm hs HZ
        go_wp2_with fail
        refine CRR.out.mono ?_
        rintro e w3 ⟨A5, c5, rfl, r5, hc5, d⟩
        have b9 := b1.trans (d.mono b1.size)
        clear CRR
        go_wp2
        go_ret
        exact ⟨A5, c5, rfl, r5, hc5, b9⟩
end Go.Proofs.Ytelmeknpmlbplaa
