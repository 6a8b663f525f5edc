/- The coordinator with the slices $SA and $SB is stored as the answer, with the word $BB. -/
/-
  Walk of the law that a commit is the last one.
-/
import Derived.Test.YteeffchnbkkpfabDoorLawSh7
import Derived.Maps.AppendAt
namespace Go.Proofs.YteeffchnbkkpfabDoor
open Go.RowKit Wo Pu Rf Lk Sh

/-! ### Appends, and where the new slice lies. -/
theorem op_append_at {P : Program} (w : World) {o : Oper} {a : Act} {K : Act → World → Prop} {Q : Exit → Act → World → Prop} (s x : Operand) (t : TypeId)
    (ho : o.op = .call { callee := .builtin .append, args := #[s, x], argTypes := #[t, t] })
    (base : Nat) (e : TypeId) (i : TypeInfo) (z : Value) (size bytes : Nat) (ht : P.underlying t = some (.slice e)) (hi : P.info? e = some i) (hz : i.zero = some z)
    (hsize : i.size = size) (hby : i.bytes = bytes) (hzs : z.cells.size = size) (hsz : 0 < size)
    (v : Value) (n : Nat) (xs : List Value) (hs : a.eval s = v) (hown : w.ownsRow base e size v n xs)
    (B : Nat) (A : Option Addr) (m c : Nat) (news : List Value) (hx : a.eval x = .slice A m c) (hr : Row w B A news) (hl : news.length = m * size) (h1 : ∀ u ∈ news, u.oneCell' = true)
    (h63 : n + m ≤ maxLen) (hbytes : (n + m) * bytes ≤ 140737488355328) (hbase : base ≤ w.heap.size)
    (h : ∀ v' w', w'.ownsRow base e size v' (n + m) (xs ++ news) → w.grownBy w' v.ownBlock → (v'.ownBlock = v.ownBlock ∨ v'.ownBlock = some w.heap.size) → K (a.put o.dst v') w') : Oper.wp P o a w K Q := by
  rcases A with _ | ad
  · have hnil : news = [] := by
      rcases hr with hr | ⟨ad, e, _⟩
      · exact hr
      · cases e
    subst hnil
    have hm : m = 0 := by
      rcases Nat.eq_zero_or_pos m with hm | hm
      · exact hm
      · have := Nat.mul_pos hm hsz
        simp at hl
        omega
    subst hm
    have hrun := run_append_nothing (P := P) w base t o.type e i size ht hi v n xs hown c
    unfold Oper.wp
    simp [execOp, ho, resolve, invoke, builtin, hs, hx, hrun, Result.andThen]
    exact h v w (by simpa using hown) (World.grownBy.refl w _) (.inl rfl)
  · obtain ⟨v', w', hr', h2, h3, _, h5⟩ := run_append_own_at (P := P) w base t o.type e i z size bytes ht hi hz hsize hby hzs hsz v n xs hown ad m c news hl (row_news hr) h1 h63 hbytes hbase
    unfold Oper.wp execOp
    simp only [ho, resolve, invoke, builtin, Sem.run_bind, Sem.run_pure, Result.andThen_ok, List.map_toArray, List.map_cons, List.map_nil, hs, hx, hr']
    exact h v' w' h2 h3 h5
theorem rowJ_on {w w' : World} {A : Option Addr} {vs : List Value} (h : Row w w.heap.size A vs) (hb : Below w.heap.size w w') : Row w' w'.heap.size A vs := (h.below hb (Nat.le_refl _)).more hb.size
theorem row_apart {w : World} {g : Nat} {T : TypeId} {fr : Nat × Nat} {A : Option Addr} {zs : List Int} (h : Row w w.heap.size A (ints zs)) (hz : zs ≠ []) (hn : w.heap[g]? = some (.cells #[] T fr)) : ∃ ad, A = some ad ∧ ad.block ≠ g ∧ ad.block < w.heap.size := by
  cases zs with
  | nil => exact absurd rfl hz
  | cons z zs =>
    rcases h with h | ⟨ad, e, hb, hc⟩
    · cases h
    · refine ⟨ad, e, fun e2 => ?_, hb⟩
      have h0 := hc 0 (.int .i64 z) rfl
      rw [add_zero] at h0
      unfold World.cell? at h0
      rw [e2, hn] at h0
      simp only at h0
      split at h0
      · cases h0
      · simp at h0
theorem row_far_at {w w' : World} {row : Option Nat} {ad : Addr} {vs : List Value} (h : Row w w.heap.size (some ad) vs) (hne : some ad.block ≠ row) (hg : w.grownBy w' row) : Row w' w'.heap.size (some ad) vs := by
  rcases h with h | ⟨ad', e, hb, hc⟩
  · exact .inl h
  · injection e with e
    subst e
    exact .inr ⟨ad, rfl, Nat.lt_of_lt_of_le hb hg.size, fun j v hj => (World.cell?_of_block (by rw [add_block]; exact hg.block ad.block hb hne)).trans (hc j v hj)⟩
theorem row_single (w : World) (T : TypeId) (t : Int) : Row (w.alloc (.cells #[.int .i64 t] T)) (w.alloc (.cells #[.int .i64 t] T)).heap.size (some ⟨w.heap.size, 0, none⟩) (ints [t]) := by
  refine .inr ⟨_, rfl, by simp, fun j u hu => ?_⟩
  rw [add_lit]
  have e := heap_alloc_new w (.cells #[.int .i64 t] T)
  simp only [World.cell?, e]
  match j with
  | 0 => simp [ints] at hu; subst hu; simp
  | j + 1 => simp [ints] at hu
theorem own_nil {w : World} {B g : Nat} {T : TypeId} (h : w.heap[g]? = some (.cells #[] T (0, 0))) (hB : B ≤ g) : w.ownsRow B T 1 (.slice (some ⟨g, 0, none⟩) 0 0) 0 [] :=
  ⟨by simp, .inr ⟨g, 0, #[], rfl, hB, h, Nat.le_refl _, by decide, by simp, by simp⟩⟩
theorem FnCommittedAdd_no (A : Option Addr) (c : Nat) (bs : List Int) (w : World) (h : Code_ w A c bs) (hl : ¬ bs.length ≤ 1048576) :
    Calls Tryd.prog 7 #[.slice A bs.length c] w (Ret (.bool true) w) := by
  have hc := h.2.1
  have hm := h.2.2.1
  unfold maxLen at hm
  go_enter Tryd.func7, Tryd.ntmps7
  go_wp2
  go_ret
  exact .mk_ (Below.refl _ _)
set_option linter.unusedSimpArgs false in
set_option maxRecDepth 100000 in
set_option maxHeartbeats 16000000 in
theorem FnCommittedAdd_yes (A : Option Addr) (c : Nat) (bs : List Int) (w : World) (h : Code_ w A c bs) (hl : bs.length ≤ 1048576) (er0 er1 : Addr) (HE : Hid (Errs er0 er1 w)) :
    Calls Tryd.prog 7 #[.slice A bs.length c] w (Ret (.bool true) w) := by
  go_enter Tryd.func7, Tryd.ntmps7
  go_wp2_with fail
  refine (DrawShardDecide_any A c bs _ h).mono ?_
  rintro e w1 ⟨v1, rs, t, cm, rfl, s1, hl, hs, ht0, ht1, bw⟩
  obtain ⟨A1, c1, rfl, r1, hc1⟩ := s1
  unfold shV
  obtain ⟨kk, hkk⟩ : ∃ kk : Int, kk = if cm then 2 else 3 := ⟨_, rfl⟩
  obtain ⟨xs, b, hv⟩ := decided_ex rs t kk
  have HKK := hid hkk
  have HV := hid hv
  have HSM := hid hs
  have HSX := hid (decided_small hv hs)
  have hlx : xs.length ≤ 31 := Nat.le_succ_of_le (decided_valid hv).2
  have CS := hid (specShardDecide_is xs b · rs t kk cm · · (hs.fit (by omega)) hkk hv)
  have CI := hid (implShardDecide_is er0 er1 xs b · rs t kk cm · · · (hs.fit (by omega)) hkk hv)
  clear hv hs hkk
  go_upto_region 4 with fail
  have al := (Below.refl (w1).heap.size w1).alloc (Nat.le_refl _) (.cells #[.slice A1 rs.length c1] 25)
  have xn := Blk1.new_ w1 25 (.slice A1 rs.length c1)
  obtain ⟨w2, hw'⟩ : ∃ x, (w1).alloc (.cells #[.slice A1 rs.length c1] 25) = x := ⟨_, rfl⟩
  rw [hw'] at al xn ⊢
  clear hw'
  have x1 := xn
  have z2 := al.size
  have r2 := r1.on al
  obtain ⟨y1, -⟩ := id x1.reads
  have b2 := bw.trans (al.mono bw.size)
  clear xn al r1 bw z2
  go_wp2_with fail
  refine (CI.out _ w2 ⟨A1, c1, rfl, r2, hc1⟩ (HE.out.below b2)).mono ?_
  rintro e w3 ⟨v3, rfl, ⟨A2, c2, rfl, o3, hc2⟩, d3⟩
  unfold shV
  go_upto_region 5 with fail
  have al := (Below.refl (w3).heap.size w3).alloc (Nat.le_refl _) (.cells #[.slice A2 xs.length c2] 25)
  have xn := Blk1.new_ w3 25 (.slice A2 xs.length c2)
  obtain ⟨w4, hw'⟩ : ∃ x, (w3).alloc (.cells #[.slice A2 xs.length c2] 25) = x := ⟨_, rfl⟩
  rw [hw'] at al xn ⊢
  clear hw'
  have d4 := d3.trans (al.mono d3.size)
  have r4 := r2.on d4
  have q4 := (OwnSh.mk_ (o3.below al)).shd
  have x2 := xn
  replace x1 := x1.later d4
  have b4 := b2.trans (d4.mono b2.size)
  clear y1
  obtain ⟨y1, -⟩ := id x1.reads
  clear xn al r2 b2 d3 d4 o3 CI
  go_wp2_with fail
  refine (CS.out _ w4 ⟨A1, c1, rfl, r4, hc1⟩).mono ?_
  rintro e w5 ⟨v5, rfl, ⟨A3, c3, rfl, o5, hc3⟩, d5⟩
  unfold shV
  go_upto_region 6 with fail
  have al := (Below.refl (w5).heap.size w5).alloc (Nat.le_refl _) (.cells #[.slice A3 xs.length c3] 25)
  have xn := Blk1.new_ w5 25 (.slice A3 xs.length c3)
  obtain ⟨w6, hw'⟩ : ∃ x, (w5).alloc (.cells #[.slice A3 xs.length c3] 25) = x := ⟨_, rfl⟩
  rw [hw'] at al xn ⊢
  clear hw'
  have d6 := d5.trans (al.mono d5.size)
  have r6 := r4.on d6
  have q6 := q4.on d6 d6.size
  have p6 := (OwnSh.mk_ (o5.below al)).shd
  have bw := b4.trans (d6.mono b4.size)
  have X1 := x1.later d6
  have X2 := x2.later d6
  have HEx : Hid (∀ x, Below w6.heap.size w6 x → Errs er0 er1 x) := fun x hx => HE.out.below (bw.trans (hx.mono bw.size))
  have HF : Hid (∀ x, Below w6.heap.size w6 x → x.cell? ⟨w1.heap.size, 0, none⟩ = some (.slice A1 rs.length c1) ∧ x.cell? ⟨w3.heap.size, 0, none⟩ = some (.slice A2 xs.length c2) ∧ x.cell? ⟨w5.heap.size, 0, none⟩ = some (.slice A3 xs.length c3)) := fun x hx => ⟨(X1.later hx).reads.1, (X2.later hx).reads.1, (xn.later hx).reads.1⟩
  have HR1 : Hid (∀ x, Below w6.heap.size w6 x → Recs x x.heap.size A1 rs) := fun x hx => r6.on hx
  have HS2 : Hid (∀ x, Below w6.heap.size w6 x → Shd x x.heap.size (.agg #[.slice A2 xs.length c2]) xs) := fun x hx => q6.on hx hx.size
  have HS3 : Hid (∀ x, Below w6.heap.size w6 x → Shd x x.heap.size (.agg #[.slice A3 xs.length c3]) xs) := fun x hx => p6.on hx hx.size
  have HS1 : Hid (∀ x, Below w6.heap.size w6 x → Shd x x.heap.size (.agg #[.slice A1 rs.length c1]) rs) := fun x hx => ⟨A1, c1, rfl, HR1.out x hx, hc1⟩
  have dx := Below.refl w6.heap.size w6
  have HLT : Hid (w1.heap.size < w6.heap.size ∧ w3.heap.size < w6.heap.size ∧ w5.heap.size < w6.heap.size) := ⟨X1.lt, X2.lt, xn.lt⟩
  clear y1 al xn x1 x2 X1 X2 r4 q4 r6 q6 p6 o5 d5 d6 b4 CS
  obtain ⟨y1, y2, y3⟩ := HF.out _ dx
  go_wp2_with fail
  refine (sameShard_is _ _ xs _ (HS2.out _ dx) (HS3.out _ dx) (HSX.out.fit (by omega))).mono ?_
  rintro e w7 ⟨rfl, dn⟩
  replace dx := dx.trans ((dn).mono dx.size)
  clear y1 y2 y3 dn
  obtain ⟨y1, y2, y3⟩ := HF.out _ dx
  cases b with
  | false =>
    go_wp2_with fail
    refine (sameShard_is _ _ xs _ (HS2.out _ dx) (HS3.out _ dx) (HSX.out.fit (by omega))).mono ?_
    rintro e w8 ⟨rfl, dn⟩
    replace dx := dx.trans ((dn).mono dx.size)
    clear y1 y2 y3 dn
    obtain ⟨y1, y2, y3⟩ := HF.out _ dx
    go_wp2
    go_ret
    exact .mk_ (bw.trans (dx.mono bw.size))
  | true =>
    cases cm with
    | false =>
      go_wp2_with fail
      refine (sameShard_is _ _ xs _ (HS2.out _ dx) (HS3.out _ dx) (HSX.out.fit (by omega))).mono ?_
      rintro e w8 ⟨rfl, dn⟩
      replace dx := dx.trans ((dn).mono dx.size)
      clear y1 y2 y3 dn
      obtain ⟨y1, y2, y3⟩ := HF.out _ dx
      go_wp2
      go_ret
      exact .mk_ (bw.trans (dx.mono bw.size))
    | true =>
      obtain rfl : kk = 2 := HKK.out
      obtain ⟨z, hz⟩ : ∃ z : Int, (Vld rs ∧ TV t ∧ z = Sh.ask rs t) ∨ (¬ (Vld rs ∧ TV t) ∧ z = -1) := by
        by_cases e : Vld rs ∧ TV t
        · exact ⟨_, .inl ⟨e.1, e.2, rfl⟩⟩
        · exact ⟨_, .inr ⟨e, rfl⟩⟩
      have HZ := hid hz
      clear hz
      go_wp2_with fail
      refine (specShardAsk_is z _ rs t w7 (HS1.out _ dx) (HSM.out.fit (by omega)) HZ.out).mono ?_
      rintro e w8 ⟨rfl, dn⟩
      replace dx := dx.trans ((dn).mono dx.size)
      clear y1 y2 y3 dn
      obtain ⟨y1, y2, y3⟩ := HF.out _ dx
      by_cases h0 : z = 1
      · subst h0
        have HZ0 : Hid (Vld rs ∧ TV t ∧ Sh.ask rs t = 1) := by
          rcases HZ.out with ⟨h2, h3, h4⟩ | ⟨-, h4⟩
          · exact ⟨h2, h3, h4.symm⟩
          · omega
        obtain ⟨s, F, G, hY⟩ := com_one HV.out HZ0.out.2.2 HZ0.out.1 HZ0.out.2.1
        have HY := hid hY
        obtain ⟨zs, hzs⟩ : ∃ zs, Sh.com rs = zs := ⟨_, rfl⟩
        have hzl : zs.length ≤ 31 := by rw [← hzs]; have := com_len rs; omega
        obtain ⟨ys, hys⟩ : ∃ ys, zs ++ [t] = ys := ⟨_, rfl⟩
        have HYS := hid hys
        have HYN : Hid (ys ≠ []) := by show ys ≠ []; rw [← hys]; simp
        have hyl : ys.length ≤ 32 := by rw [← hys, List.length_append]; simp; omega
        have C1 : Hid (∀ x v, Below w6.heap.size w6 x → Shd x x.heap.size v rs → Calls Tryd.prog 15 #[v] x (IntsOf zs x)) := fun x v hx hv => implShardCommitted_is er0 er1 zs v rs x hv (HEx.out x hx) (HSM.out.fit (by omega)) (.inl ⟨hY.vr, hzs.symm⟩)
        have C2 : Hid (∀ x v, Below w6.heap.size w6 x → Shd x x.heap.size v xs → Calls Tryd.prog 15 #[v] x (IntsOf ys x)) := fun x v hx hv => implShardCommitted_is er0 er1 ys v xs x hv (HEx.out x hx) (HSX.out.fit (by omega)) (.inl ⟨hY.vx, by rw [hY.com, hzs, hys]⟩)
        obtain ⟨i0, hi, hz0, hz1, hz2⟩ := info_of info_int
        clear hY hzs HZ0 hys
        go_wp2_with fail
        have b0 := (Below.refl w8.heap.size w8).drew
        have HKP : Hid (∀ x, Below w8.heap.size w8 x → x.cell? ⟨w1.heap.size, 0, none⟩ = some (.slice A1 rs.length c1) ∧ x.cell? ⟨w3.heap.size, 0, none⟩ = some (.slice A2 xs.length c2)) := fun x hx => by
          obtain ⟨k1, k2, -⟩ := HF.out _ (dx.trans (hx.mono dx.size))
          exact ⟨k1, k2⟩
        clear y1 y2 y3
        refine wp_region_held_drew (S := fun x => x.cell? ⟨w1.heap.size, 0, none⟩ = some (.slice A1 rs.length c1) ∧ x.cell? ⟨w3.heap.size, 0, none⟩ = some (.slice A2 xs.length c2)) (by kernel_rfl) (HKP.out _ b0) (fun hHeld => ?_)
        obtain ⟨wd, hwd⟩ : ∃ wd, w8.drew = wd := ⟨_, rfl⟩
        rw [hwd] at hHeld b0 ⊢
        clear hwd
        have D8 := b0
        clear b0
        refine wpAnyH_take (i := 0) (oi := _) (v := ?_) rfl (by kernel_rfl) (by kernel_rfl) (by kernel_rfl) (fun _ _ _ h => h) (Or.inl ⟨by rfl, ?_⟩) hHeld ?_
        rotate_left
        · (intro w' hSw; (try dsimp only at hSw); go_simp <;> with_reducible rfl)
        try simp only [Act.put, List.getElem_toArray, List.getElem_cons_succ, List.getElem_cons_zero, List.setIfInBounds_toArray, List.set_cons_zero, List.set_cons_succ]
        refine wpAnyH_take (i := 3) (oi := _) (v := ?_) rfl (by kernel_rfl) (by kernel_rfl) (by kernel_rfl) (fun _ _ _ h => h) (Or.inl ⟨by rfl, ?_⟩) hHeld ?_
        rotate_left
        · (intro w' hSw; (try dsimp only at hSw); go_simp <;> with_reducible rfl)
        try simp only [Act.put, List.getElem_toArray, List.getElem_cons_succ, List.getElem_cons_zero, List.setIfInBounds_toArray, List.set_cons_zero, List.set_cons_succ]
        refine wpAnyH_take (i := 6) (oi := _) (v := ?_) rfl (by kernel_rfl) (by kernel_rfl) (by kernel_rfl) (fun _ _ _ h => h) (Or.inl ⟨by rfl, ?_⟩) hHeld ?_
        rotate_left
        · (intro w' hSw; (try dsimp only at hSw); go_simp <;> with_reducible rfl)
        try simp only [Act.put, List.getElem_toArray, List.getElem_cons_succ, List.getElem_cons_zero, List.setIfInBounds_toArray, List.set_cons_zero, List.set_cons_succ]
        refine wpAnyH_ready (rs := [1, 2, 7]) (by kernel_rfl) (by simp) (AllReadyH.cons (o := _) rfl (fun K hK => ?_) (AllReadyH.cons (o := _) rfl (fun K hK => ?_) (AllReadyH.cons (o := _) rfl (fun K hK => ?_) AllReadyH.nil)))
        · skip
          try simp only [Act.put, List.getElem_toArray, List.getElem_cons_succ, List.getElem_cons_zero, List.setIfInBounds_toArray, List.set_cons_zero, List.set_cons_succ]
          go_simp
          go_at_call 15
          refine (C2.out _ _ (dx.trans (D8.mono dx.size)) (HS2.out _ (dx.trans (D8.mono dx.size)))).mono ?_
          rintro e wd ⟨Pa, pc, rfl, o9, d9⟩
          replace D8 := D8.trans ((d9).mono D8.size)
          try replace hP := rowJ_on hP d9
          try replace hQ := rowJ_on hQ d9
          try replace hT := rowJ_on hT d9
          try replace nE := ((d9).block _ (blk_lt nE)).trans nE
          try replace hown := own_below hown d9 (Nat.le_refl _)
          have hP := o9.row
          clear o9 d9
          refine hK.out _ _ (HKP.out _ D8) (fun hHeld => ?_)
          clear hK K
          try simp only [Act.put, List.getElem_toArray, List.getElem_cons_succ, List.getElem_cons_zero, List.setIfInBounds_toArray, List.set_cons_zero, List.set_cons_succ]
          refine wpAnyH_ready (rs := [2, 4, 7]) (by kernel_rfl) (by simp) (AllReadyH.cons (o := _) rfl (fun K hK => ?_) (AllReadyH.cons (o := _) rfl (fun K hK => ?_) (AllReadyH.cons (o := _) rfl (fun K hK => ?_) AllReadyH.nil)))
          · skip
            try simp only [Act.put, List.getElem_toArray, List.getElem_cons_succ, List.getElem_cons_zero, List.setIfInBounds_toArray, List.set_cons_zero, List.set_cons_succ]
            go_simp
            have al9 := (Below.refl wd.heap.size wd).alloc (Nat.le_refl _) (.cells #[] 3)
            have nE' := heap_alloc_new wd (.cells #[] 3)
            have hgB' := D8.size
            obtain ⟨gE, hgE⟩ : ∃ g, wd.heap.size = g := ⟨_, rfl⟩
            obtain ⟨wd, hV⟩ : ∃ y, wd.alloc (.cells #[] 3) = y := ⟨_, rfl⟩
            rw [hV] at al9 nE' ⊢
            replace D8 := D8.trans ((al9).mono D8.size)
            try replace hP := rowJ_on hP al9
            try replace hQ := rowJ_on hQ al9
            try replace hT := rowJ_on hT al9
            try replace nE := ((al9).block _ (blk_lt nE)).trans nE
            try replace hown := own_below hown al9 (Nat.le_refl _)
            have nE := nE'
            have hgB : w8.heap.size ≤ gE := by omega
            rw [hgE] at nE ⊢
            clear al9 nE' hgE hgB' hV
            refine hK.out _ _ (HKP.out _ D8) (fun hHeld => ?_)
            clear hK K
            try simp only [Act.put, List.getElem_toArray, List.getElem_cons_succ, List.getElem_cons_zero, List.setIfInBounds_toArray, List.set_cons_zero, List.set_cons_succ]
            refine wpAnyH_ready (rs := [4, 7]) (by kernel_rfl) (by simp) (AllReadyH.cons (o := _) rfl (fun K hK => ?_) (AllReadyH.cons (o := _) rfl (fun K hK => ?_) AllReadyH.nil))
            · skip
              try simp only [Act.put, List.getElem_toArray, List.getElem_cons_succ, List.getElem_cons_zero, List.setIfInBounds_toArray, List.set_cons_zero, List.set_cons_succ]
              go_simp
              go_at_call 15
              refine (C1.out _ _ (dx.trans (D8.mono dx.size)) (HS1.out _ (dx.trans (D8.mono dx.size)))).mono ?_
              rintro e wd ⟨Qa, qc, rfl, o9, d9⟩
              replace D8 := D8.trans ((d9).mono D8.size)
              try replace hP := rowJ_on hP d9
              try replace hQ := rowJ_on hQ d9
              try replace hT := rowJ_on hT d9
              try replace nE := ((d9).block _ (blk_lt nE)).trans nE
              try replace hown := own_below hown d9 (Nat.le_refl _)
              have hQ := o9.row
              clear o9 d9
              refine hK.out _ _ (HKP.out _ D8) (fun hHeld => ?_)
              clear hK K
              try simp only [Act.put, List.getElem_toArray, List.getElem_cons_succ, List.getElem_cons_zero, List.setIfInBounds_toArray, List.set_cons_zero, List.set_cons_succ]
              refine wpAnyH_ready (rs := [5, 7]) (by kernel_rfl) (by simp) (AllReadyH.cons (o := _) rfl (fun K hK => ?_) (AllReadyH.cons (o := _) rfl (fun K hK => ?_) AllReadyH.nil))
              · skip
                try simp only [Act.put, List.getElem_toArray, List.getElem_cons_succ, List.getElem_cons_zero, List.setIfInBounds_toArray, List.set_cons_zero, List.set_cons_succ]
                rw [if_pos (by rfl)]
                obtain ⟨pd, rfl, pne, plt⟩ := row_apart hP HYN.out nE
                refine op_append_at _ _ _ 27 (by rfl) w8.heap.size 3 i0 (.int .i64 0) 1 8 Tryd.underlying27 hi hz0 hz1 hz2 rfl (by decide) (.slice (some ⟨gE, 0, none⟩) 0 0) 0 [] (by rfl) (own_nil nE hgB) wd.heap.size Qa _ qc (ints zs) (by rfl) hQ (by rw [ints_length]; omega) (by intro u hu; obtain ⟨x, _, rfl⟩ := List.mem_map.1 hu; rfl) (by unfold maxLen; omega) (by omega) D8.size ?_
                intro v5 wd hown hg hat
                have hpv : some pd.block ≠ v5.ownBlock := by
                  rcases hat with e | e
                  · rw [e]; intro e2; injection e2 with e2; exact pne e2
                  · rw [e]; intro e2; injection e2 with e2; omega
                replace hP := row_far_nil hP nE hg
                try replace hT := row_far_nil hT nE hg
                replace D8 := D8.grown hg D8.size (fun j hj => by have hj : gE = j := (by simpa [Value.ownBlock] using hj); omega)
                clear nE hQ hg hat pne plt
                refine hK.out _ _ (HKP.out _ D8) (fun hHeld => ?_)
                clear hK K
                try simp only [Act.put, List.getElem_toArray, List.getElem_cons_succ, List.getElem_cons_zero, List.setIfInBounds_toArray, List.set_cons_zero, List.set_cons_succ]
                refine wpAnyH_ready (rs := [7]) (by kernel_rfl) (by simp) (AllReadyH.cons (o := _) rfl (fun K hK => ?_) AllReadyH.nil)
                try simp only [Act.put, List.getElem_toArray, List.getElem_cons_succ, List.getElem_cons_zero, List.setIfInBounds_toArray, List.set_cons_zero, List.set_cons_succ]
                go_simp
                have al9 := (Below.refl wd.heap.size wd).alloc (Nat.le_refl _) (.cells #[.int .i64 t] 3)
                have hT' := row_single wd 3 t
                obtain ⟨gT, hgT⟩ : ∃ g, wd.heap.size = g := ⟨_, rfl⟩
                obtain ⟨wd, hV⟩ : ∃ y, wd.alloc (.cells #[.int .i64 t] 3) = y := ⟨_, rfl⟩
                rw [hV] at al9 hT' ⊢
                replace D8 := D8.trans ((al9).mono D8.size)
                try replace hP := rowJ_on hP al9
                try replace hQ := rowJ_on hQ al9
                try replace hT := rowJ_on hT al9
                try replace nE := ((al9).block _ (blk_lt nE)).trans nE
                try replace hown := own_below hown al9 (Nat.le_refl _)
                have hT := hT'
                rw [hgT] at hT ⊢
                clear al9 hT' hgT hV
                refine hK.out _ _ (HKP.out _ D8) (fun hHeld => ?_)
                clear hK K
                try simp only [Act.put, List.getElem_toArray, List.getElem_cons_succ, List.getElem_cons_zero, List.setIfInBounds_toArray, List.set_cons_zero, List.set_cons_succ]
                refine wpAnyH_ready (rs := [8]) (by kernel_rfl) (by simp) (AllReadyH.cons (o := _) rfl (fun K hK => ?_) AllReadyH.nil)
                try simp only [Act.put, List.getElem_toArray, List.getElem_cons_succ, List.getElem_cons_zero, List.setIfInBounds_toArray, List.set_cons_zero, List.set_cons_succ]
                rw [if_pos (by rfl)]
                refine op_append_at _ _ _ 27 (by rfl) w8.heap.size 3 i0 (.int .i64 0) 1 8 Tryd.underlying27 hi hz0 hz1 hz2 rfl (by decide) v5 (0 + zs.length) ([] ++ ints zs) (by rfl) hown _ _ 1 1 (ints [t]) (by rfl) hT (by rfl) (by intro u hu; obtain ⟨x, _, rfl⟩ := List.mem_map.1 hu; rfl) (by unfold maxLen; omega) (by omega) D8.size ?_
                intro v8 we hown8 hg _
                replace hP := row_far_at hP hpv hg
                have D9 := D8.grown hg D8.size (fun j hj => (World.ownsRow.lt hown j hj).1)
                have o9 : OwnI we w8.heap.size v8 ys := by
                  rw [← HYS.out]
                  unfold OwnI
                  rw [show (zs ++ [t]).length = 0 + zs.length + 1 by simp, show ints (zs ++ [t]) = [] ++ ints zs ++ ints [t] by simp [ints]]
                  exact hown8
                obtain ⟨A8, c8, rfl, r8, -⟩ := o9.form
                clear hown hown8 hg o9 hT hpv D8
                refine hK.out _ _ (HKP.out _ D9) (fun hHeld => ?_)
                clear hK K
                try simp only [Act.put, List.getElem_toArray, List.getElem_cons_succ, List.getElem_cons_zero, List.setIfInBounds_toArray, List.set_cons_zero, List.set_cons_succ]
                refine wpAnyH_ready (rs := [9]) (by kernel_rfl) (by simp) (AllReadyH.cons (o := _) rfl (fun K hK => ?_) AllReadyH.nil)
                try simp only [Act.put, List.getElem_toArray, List.getElem_cons_succ, List.getElem_cons_zero, List.setIfInBounds_toArray, List.set_cons_zero, List.set_cons_succ]
                go_simp
                go_at_call 17
                refine (sameInts_ret (some pd) A8 pc c8 ys we _ _ hP r8 (by unfold maxLen; omega)).mono ?_
                rintro e wf ⟨rfl, d9⟩
                have DF := D9.trans (d9.mono D9.size)
                refine hK.out _ _ (HKP.out _ DF) (fun hHeld => ?_)
                clear hK K
                try simp only [Act.put, List.getElem_toArray, List.getElem_cons_succ, List.getElem_cons_zero, List.setIfInBounds_toArray, List.set_cons_zero, List.set_cons_succ]
                refine wpAnyH_take (i := 10) (oi := _) (v := ?_) rfl (by kernel_rfl) (by kernel_rfl) (by kernel_rfl) (fun _ _ _ h => h) (Or.inl ⟨by rfl, ?_⟩) hHeld ?_
                rotate_left
                · (intro w' hSw; (try dsimp only at hSw); go_simp <;> with_reducible rfl)
                try simp only [Act.put, List.getElem_toArray, List.getElem_cons_succ, List.getElem_cons_zero, List.setIfInBounds_toArray, List.set_cons_zero, List.set_cons_succ]
                refine wpAnyH_done (by kernel_rfl) ?_ _
                have DX := dx.trans (DF.mono dx.size)
                clear hHeld hP r8 d9 D9
                go_wp2
                go_ret
                exact .mk_ (bw.trans (DX.mono bw.size))
              · skip
                try simp only [Act.put, List.getElem_toArray, List.getElem_cons_succ, List.getElem_cons_zero, List.setIfInBounds_toArray, List.set_cons_zero, List.set_cons_succ]
                go_simp
                have al9 := (Below.refl wd.heap.size wd).alloc (Nat.le_refl _) (.cells #[.int .i64 t] 3)
                have hT' := row_single wd 3 t
                obtain ⟨gT, hgT⟩ : ∃ g, wd.heap.size = g := ⟨_, rfl⟩
                obtain ⟨wd, hV⟩ : ∃ y, wd.alloc (.cells #[.int .i64 t] 3) = y := ⟨_, rfl⟩
                rw [hV] at al9 hT' ⊢
                replace D8 := D8.trans ((al9).mono D8.size)
                try replace hP := rowJ_on hP al9
                try replace hQ := rowJ_on hQ al9
                try replace hT := rowJ_on hT al9
                try replace nE := ((al9).block _ (blk_lt nE)).trans nE
                try replace hown := own_below hown al9 (Nat.le_refl _)
                have hT := hT'
                rw [hgT] at hT ⊢
                clear al9 hT' hgT hV
                refine hK.out _ _ (HKP.out _ D8) (fun hHeld => ?_)
                clear hK K
                try simp only [Act.put, List.getElem_toArray, List.getElem_cons_succ, List.getElem_cons_zero, List.setIfInBounds_toArray, List.set_cons_zero, List.set_cons_succ]
                refine wpAnyH_ready (rs := [5]) (by kernel_rfl) (by simp) (AllReadyH.cons (o := _) rfl (fun K hK => ?_) AllReadyH.nil)
                try simp only [Act.put, List.getElem_toArray, List.getElem_cons_succ, List.getElem_cons_zero, List.setIfInBounds_toArray, List.set_cons_zero, List.set_cons_succ]
                rw [if_pos (by rfl)]
                obtain ⟨pd, rfl, pne, plt⟩ := row_apart hP HYN.out nE
                refine op_append_at _ _ _ 27 (by rfl) w8.heap.size 3 i0 (.int .i64 0) 1 8 Tryd.underlying27 hi hz0 hz1 hz2 rfl (by decide) (.slice (some ⟨gE, 0, none⟩) 0 0) 0 [] (by rfl) (own_nil nE hgB) wd.heap.size Qa _ qc (ints zs) (by rfl) hQ (by rw [ints_length]; omega) (by intro u hu; obtain ⟨x, _, rfl⟩ := List.mem_map.1 hu; rfl) (by unfold maxLen; omega) (by omega) D8.size ?_
                intro v5 wd hown hg hat
                have hpv : some pd.block ≠ v5.ownBlock := by
                  rcases hat with e | e
                  · rw [e]; intro e2; injection e2 with e2; exact pne e2
                  · rw [e]; intro e2; injection e2 with e2; omega
                replace hP := row_far_nil hP nE hg
                try replace hT := row_far_nil hT nE hg
                replace D8 := D8.grown hg D8.size (fun j hj => by have hj : gE = j := (by simpa [Value.ownBlock] using hj); omega)
                clear nE hQ hg hat pne plt
                refine hK.out _ _ (HKP.out _ D8) (fun hHeld => ?_)
                clear hK K
                try simp only [Act.put, List.getElem_toArray, List.getElem_cons_succ, List.getElem_cons_zero, List.setIfInBounds_toArray, List.set_cons_zero, List.set_cons_succ]
                refine wpAnyH_ready (rs := [8]) (by kernel_rfl) (by simp) (AllReadyH.cons (o := _) rfl (fun K hK => ?_) AllReadyH.nil)
                try simp only [Act.put, List.getElem_toArray, List.getElem_cons_succ, List.getElem_cons_zero, List.setIfInBounds_toArray, List.set_cons_zero, List.set_cons_succ]
                rw [if_pos (by rfl)]
                refine op_append_at _ _ _ 27 (by rfl) w8.heap.size 3 i0 (.int .i64 0) 1 8 Tryd.underlying27 hi hz0 hz1 hz2 rfl (by decide) v5 (0 + zs.length) ([] ++ ints zs) (by rfl) hown _ _ 1 1 (ints [t]) (by rfl) hT (by rfl) (by intro u hu; obtain ⟨x, _, rfl⟩ := List.mem_map.1 hu; rfl) (by unfold maxLen; omega) (by omega) D8.size ?_
                intro v8 we hown8 hg _
                replace hP := row_far_at hP hpv hg
                have D9 := D8.grown hg D8.size (fun j hj => (World.ownsRow.lt hown j hj).1)
                have o9 : OwnI we w8.heap.size v8 ys := by
                  rw [← HYS.out]
                  unfold OwnI
                  rw [show (zs ++ [t]).length = 0 + zs.length + 1 by simp, show ints (zs ++ [t]) = [] ++ ints zs ++ ints [t] by simp [ints]]
                  exact hown8
                obtain ⟨A8, c8, rfl, r8, -⟩ := o9.form
                clear hown hown8 hg o9 hT hpv D8
                refine hK.out _ _ (HKP.out _ D9) (fun hHeld => ?_)
                clear hK K
                try simp only [Act.put, List.getElem_toArray, List.getElem_cons_succ, List.getElem_cons_zero, List.setIfInBounds_toArray, List.set_cons_zero, List.set_cons_succ]
                refine wpAnyH_ready (rs := [9]) (by kernel_rfl) (by simp) (AllReadyH.cons (o := _) rfl (fun K hK => ?_) AllReadyH.nil)
                try simp only [Act.put, List.getElem_toArray, List.getElem_cons_succ, List.getElem_cons_zero, List.setIfInBounds_toArray, List.set_cons_zero, List.set_cons_succ]
                go_simp
                go_at_call 17
                refine (sameInts_ret (some pd) A8 pc c8 ys we _ _ hP r8 (by unfold maxLen; omega)).mono ?_
                rintro e wf ⟨rfl, d9⟩
                have DF := D9.trans (d9.mono D9.size)
                refine hK.out _ _ (HKP.out _ DF) (fun hHeld => ?_)
                clear hK K
                try simp only [Act.put, List.getElem_toArray, List.getElem_cons_succ, List.getElem_cons_zero, List.setIfInBounds_toArray, List.set_cons_zero, List.set_cons_succ]
                refine wpAnyH_take (i := 10) (oi := _) (v := ?_) rfl (by kernel_rfl) (by kernel_rfl) (by kernel_rfl) (fun _ _ _ h => h) (Or.inl ⟨by rfl, ?_⟩) hHeld ?_
                rotate_left
                · (intro w' hSw; (try dsimp only at hSw); go_simp <;> with_reducible rfl)
                try simp only [Act.put, List.getElem_toArray, List.getElem_cons_succ, List.getElem_cons_zero, List.setIfInBounds_toArray, List.set_cons_zero, List.set_cons_succ]
                refine wpAnyH_done (by kernel_rfl) ?_ _
                have DX := dx.trans (DF.mono dx.size)
                clear hHeld hP r8 d9 D9
                go_wp2
                go_ret
                exact .mk_ (bw.trans (DX.mono bw.size))
            · skip
              try simp only [Act.put, List.getElem_toArray, List.getElem_cons_succ, List.getElem_cons_zero, List.setIfInBounds_toArray, List.set_cons_zero, List.set_cons_succ]
              go_simp
              have al9 := (Below.refl wd.heap.size wd).alloc (Nat.le_refl _) (.cells #[.int .i64 t] 3)
              have hT' := row_single wd 3 t
              obtain ⟨gT, hgT⟩ : ∃ g, wd.heap.size = g := ⟨_, rfl⟩
              obtain ⟨wd, hV⟩ : ∃ y, wd.alloc (.cells #[.int .i64 t] 3) = y := ⟨_, rfl⟩
              rw [hV] at al9 hT' ⊢
              replace D8 := D8.trans ((al9).mono D8.size)
              try replace hP := rowJ_on hP al9
              try replace hQ := rowJ_on hQ al9
              try replace hT := rowJ_on hT al9
              try replace nE := ((al9).block _ (blk_lt nE)).trans nE
              try replace hown := own_below hown al9 (Nat.le_refl _)
              have hT := hT'
              rw [hgT] at hT ⊢
              clear al9 hT' hgT hV
              refine hK.out _ _ (HKP.out _ D8) (fun hHeld => ?_)
              clear hK K
              try simp only [Act.put, List.getElem_toArray, List.getElem_cons_succ, List.getElem_cons_zero, List.setIfInBounds_toArray, List.set_cons_zero, List.set_cons_succ]
              refine wpAnyH_ready (rs := [4]) (by kernel_rfl) (by simp) (AllReadyH.cons (o := _) rfl (fun K hK => ?_) AllReadyH.nil)
              try simp only [Act.put, List.getElem_toArray, List.getElem_cons_succ, List.getElem_cons_zero, List.setIfInBounds_toArray, List.set_cons_zero, List.set_cons_succ]
              go_simp
              go_at_call 15
              refine (C1.out _ _ (dx.trans (D8.mono dx.size)) (HS1.out _ (dx.trans (D8.mono dx.size)))).mono ?_
              rintro e wd ⟨Qa, qc, rfl, o9, d9⟩
              replace D8 := D8.trans ((d9).mono D8.size)
              try replace hP := rowJ_on hP d9
              try replace hQ := rowJ_on hQ d9
              try replace hT := rowJ_on hT d9
              try replace nE := ((d9).block _ (blk_lt nE)).trans nE
              try replace hown := own_below hown d9 (Nat.le_refl _)
              have hQ := o9.row
              clear o9 d9
              refine hK.out _ _ (HKP.out _ D8) (fun hHeld => ?_)
              clear hK K
              try simp only [Act.put, List.getElem_toArray, List.getElem_cons_succ, List.getElem_cons_zero, List.setIfInBounds_toArray, List.set_cons_zero, List.set_cons_succ]
              refine wpAnyH_ready (rs := [5]) (by kernel_rfl) (by simp) (AllReadyH.cons (o := _) rfl (fun K hK => ?_) AllReadyH.nil)
              try simp only [Act.put, List.getElem_toArray, List.getElem_cons_succ, List.getElem_cons_zero, List.setIfInBounds_toArray, List.set_cons_zero, List.set_cons_succ]
              rw [if_pos (by rfl)]
              obtain ⟨pd, rfl, pne, plt⟩ := row_apart hP HYN.out nE
              refine op_append_at _ _ _ 27 (by rfl) w8.heap.size 3 i0 (.int .i64 0) 1 8 Tryd.underlying27 hi hz0 hz1 hz2 rfl (by decide) (.slice (some ⟨gE, 0, none⟩) 0 0) 0 [] (by rfl) (own_nil nE hgB) wd.heap.size Qa _ qc (ints zs) (by rfl) hQ (by rw [ints_length]; omega) (by intro u hu; obtain ⟨x, _, rfl⟩ := List.mem_map.1 hu; rfl) (by unfold maxLen; omega) (by omega) D8.size ?_
              intro v5 wd hown hg hat
              have hpv : some pd.block ≠ v5.ownBlock := by
                rcases hat with e | e
                · rw [e]; intro e2; injection e2 with e2; exact pne e2
                · rw [e]; intro e2; injection e2 with e2; omega
              replace hP := row_far_nil hP nE hg
              try replace hT := row_far_nil hT nE hg
              replace D8 := D8.grown hg D8.size (fun j hj => by have hj : gE = j := (by simpa [Value.ownBlock] using hj); omega)
              clear nE hQ hg hat pne plt
              refine hK.out _ _ (HKP.out _ D8) (fun hHeld => ?_)
              clear hK K
              try simp only [Act.put, List.getElem_toArray, List.getElem_cons_succ, List.getElem_cons_zero, List.setIfInBounds_toArray, List.set_cons_zero, List.set_cons_succ]
              refine wpAnyH_ready (rs := [8]) (by kernel_rfl) (by simp) (AllReadyH.cons (o := _) rfl (fun K hK => ?_) AllReadyH.nil)
              try simp only [Act.put, List.getElem_toArray, List.getElem_cons_succ, List.getElem_cons_zero, List.setIfInBounds_toArray, List.set_cons_zero, List.set_cons_succ]
              rw [if_pos (by rfl)]
              refine op_append_at _ _ _ 27 (by rfl) w8.heap.size 3 i0 (.int .i64 0) 1 8 Tryd.underlying27 hi hz0 hz1 hz2 rfl (by decide) v5 (0 + zs.length) ([] ++ ints zs) (by rfl) hown _ _ 1 1 (ints [t]) (by rfl) hT (by rfl) (by intro u hu; obtain ⟨x, _, rfl⟩ := List.mem_map.1 hu; rfl) (by unfold maxLen; omega) (by omega) D8.size ?_
              intro v8 we hown8 hg _
              replace hP := row_far_at hP hpv hg
              have D9 := D8.grown hg D8.size (fun j hj => (World.ownsRow.lt hown j hj).1)
              have o9 : OwnI we w8.heap.size v8 ys := by
                rw [← HYS.out]
                unfold OwnI
                rw [show (zs ++ [t]).length = 0 + zs.length + 1 by simp, show ints (zs ++ [t]) = [] ++ ints zs ++ ints [t] by simp [ints]]
                exact hown8
              obtain ⟨A8, c8, rfl, r8, -⟩ := o9.form
              clear hown hown8 hg o9 hT hpv D8
              refine hK.out _ _ (HKP.out _ D9) (fun hHeld => ?_)
              clear hK K
              try simp only [Act.put, List.getElem_toArray, List.getElem_cons_succ, List.getElem_cons_zero, List.setIfInBounds_toArray, List.set_cons_zero, List.set_cons_succ]
              refine wpAnyH_ready (rs := [9]) (by kernel_rfl) (by simp) (AllReadyH.cons (o := _) rfl (fun K hK => ?_) AllReadyH.nil)
              try simp only [Act.put, List.getElem_toArray, List.getElem_cons_succ, List.getElem_cons_zero, List.setIfInBounds_toArray, List.set_cons_zero, List.set_cons_succ]
              go_simp
              go_at_call 17
              refine (sameInts_ret (some pd) A8 pc c8 ys we _ _ hP r8 (by unfold maxLen; omega)).mono ?_
              rintro e wf ⟨rfl, d9⟩
              have DF := D9.trans (d9.mono D9.size)
              refine hK.out _ _ (HKP.out _ DF) (fun hHeld => ?_)
              clear hK K
              try simp only [Act.put, List.getElem_toArray, List.getElem_cons_succ, List.getElem_cons_zero, List.setIfInBounds_toArray, List.set_cons_zero, List.set_cons_succ]
              refine wpAnyH_take (i := 10) (oi := _) (v := ?_) rfl (by kernel_rfl) (by kernel_rfl) (by kernel_rfl) (fun _ _ _ h => h) (Or.inl ⟨by rfl, ?_⟩) hHeld ?_
              rotate_left
              · (intro w' hSw; (try dsimp only at hSw); go_simp <;> with_reducible rfl)
              try simp only [Act.put, List.getElem_toArray, List.getElem_cons_succ, List.getElem_cons_zero, List.setIfInBounds_toArray, List.set_cons_zero, List.set_cons_succ]
              refine wpAnyH_done (by kernel_rfl) ?_ _
              have DX := dx.trans (DF.mono dx.size)
              clear hHeld hP r8 d9 D9
              go_wp2
              go_ret
              exact .mk_ (bw.trans (DX.mono bw.size))
          · skip
            try simp only [Act.put, List.getElem_toArray, List.getElem_cons_succ, List.getElem_cons_zero, List.setIfInBounds_toArray, List.set_cons_zero, List.set_cons_succ]
            go_simp
            go_at_call 15
            refine (C1.out _ _ (dx.trans (D8.mono dx.size)) (HS1.out _ (dx.trans (D8.mono dx.size)))).mono ?_
            rintro e wd ⟨Qa, qc, rfl, o9, d9⟩
            replace D8 := D8.trans ((d9).mono D8.size)
            try replace hP := rowJ_on hP d9
            try replace hQ := rowJ_on hQ d9
            try replace hT := rowJ_on hT d9
            try replace nE := ((d9).block _ (blk_lt nE)).trans nE
            try replace hown := own_below hown d9 (Nat.le_refl _)
            have hQ := o9.row
            clear o9 d9
            refine hK.out _ _ (HKP.out _ D8) (fun hHeld => ?_)
            clear hK K
            try simp only [Act.put, List.getElem_toArray, List.getElem_cons_succ, List.getElem_cons_zero, List.setIfInBounds_toArray, List.set_cons_zero, List.set_cons_succ]
            refine wpAnyH_ready (rs := [2, 7]) (by kernel_rfl) (by simp) (AllReadyH.cons (o := _) rfl (fun K hK => ?_) (AllReadyH.cons (o := _) rfl (fun K hK => ?_) AllReadyH.nil))
            · skip
              try simp only [Act.put, List.getElem_toArray, List.getElem_cons_succ, List.getElem_cons_zero, List.setIfInBounds_toArray, List.set_cons_zero, List.set_cons_succ]
              go_simp
              have al9 := (Below.refl wd.heap.size wd).alloc (Nat.le_refl _) (.cells #[] 3)
              have nE' := heap_alloc_new wd (.cells #[] 3)
              have hgB' := D8.size
              obtain ⟨gE, hgE⟩ : ∃ g, wd.heap.size = g := ⟨_, rfl⟩
              obtain ⟨wd, hV⟩ : ∃ y, wd.alloc (.cells #[] 3) = y := ⟨_, rfl⟩
              rw [hV] at al9 nE' ⊢
              replace D8 := D8.trans ((al9).mono D8.size)
              try replace hP := rowJ_on hP al9
              try replace hQ := rowJ_on hQ al9
              try replace hT := rowJ_on hT al9
              try replace nE := ((al9).block _ (blk_lt nE)).trans nE
              try replace hown := own_below hown al9 (Nat.le_refl _)
              have nE := nE'
              have hgB : w8.heap.size ≤ gE := by omega
              rw [hgE] at nE ⊢
              clear al9 nE' hgE hgB' hV
              refine hK.out _ _ (HKP.out _ D8) (fun hHeld => ?_)
              clear hK K
              try simp only [Act.put, List.getElem_toArray, List.getElem_cons_succ, List.getElem_cons_zero, List.setIfInBounds_toArray, List.set_cons_zero, List.set_cons_succ]
              refine wpAnyH_ready (rs := [5, 7]) (by kernel_rfl) (by simp) (AllReadyH.cons (o := _) rfl (fun K hK => ?_) (AllReadyH.cons (o := _) rfl (fun K hK => ?_) AllReadyH.nil))
              · skip
                try simp only [Act.put, List.getElem_toArray, List.getElem_cons_succ, List.getElem_cons_zero, List.setIfInBounds_toArray, List.set_cons_zero, List.set_cons_succ]
                rw [if_pos (by rfl)]
                obtain ⟨pd, rfl, pne, plt⟩ := row_apart hP HYN.out nE
                refine op_append_at _ _ _ 27 (by rfl) w8.heap.size 3 i0 (.int .i64 0) 1 8 Tryd.underlying27 hi hz0 hz1 hz2 rfl (by decide) (.slice (some ⟨gE, 0, none⟩) 0 0) 0 [] (by rfl) (own_nil nE hgB) wd.heap.size Qa _ qc (ints zs) (by rfl) hQ (by rw [ints_length]; omega) (by intro u hu; obtain ⟨x, _, rfl⟩ := List.mem_map.1 hu; rfl) (by unfold maxLen; omega) (by omega) D8.size ?_
                intro v5 wd hown hg hat
                have hpv : some pd.block ≠ v5.ownBlock := by
                  rcases hat with e | e
                  · rw [e]; intro e2; injection e2 with e2; exact pne e2
                  · rw [e]; intro e2; injection e2 with e2; omega
                replace hP := row_far_nil hP nE hg
                try replace hT := row_far_nil hT nE hg
                replace D8 := D8.grown hg D8.size (fun j hj => by have hj : gE = j := (by simpa [Value.ownBlock] using hj); omega)
                clear nE hQ hg hat pne plt
                refine hK.out _ _ (HKP.out _ D8) (fun hHeld => ?_)
                clear hK K
                try simp only [Act.put, List.getElem_toArray, List.getElem_cons_succ, List.getElem_cons_zero, List.setIfInBounds_toArray, List.set_cons_zero, List.set_cons_succ]
                refine wpAnyH_ready (rs := [7]) (by kernel_rfl) (by simp) (AllReadyH.cons (o := _) rfl (fun K hK => ?_) AllReadyH.nil)
                try simp only [Act.put, List.getElem_toArray, List.getElem_cons_succ, List.getElem_cons_zero, List.setIfInBounds_toArray, List.set_cons_zero, List.set_cons_succ]
                go_simp
                have al9 := (Below.refl wd.heap.size wd).alloc (Nat.le_refl _) (.cells #[.int .i64 t] 3)
                have hT' := row_single wd 3 t
                obtain ⟨gT, hgT⟩ : ∃ g, wd.heap.size = g := ⟨_, rfl⟩
                obtain ⟨wd, hV⟩ : ∃ y, wd.alloc (.cells #[.int .i64 t] 3) = y := ⟨_, rfl⟩
                rw [hV] at al9 hT' ⊢
                replace D8 := D8.trans ((al9).mono D8.size)
                try replace hP := rowJ_on hP al9
                try replace hQ := rowJ_on hQ al9
                try replace hT := rowJ_on hT al9
                try replace nE := ((al9).block _ (blk_lt nE)).trans nE
                try replace hown := own_below hown al9 (Nat.le_refl _)
                have hT := hT'
                rw [hgT] at hT ⊢
                clear al9 hT' hgT hV
                refine hK.out _ _ (HKP.out _ D8) (fun hHeld => ?_)
                clear hK K
                try simp only [Act.put, List.getElem_toArray, List.getElem_cons_succ, List.getElem_cons_zero, List.setIfInBounds_toArray, List.set_cons_zero, List.set_cons_succ]
                refine wpAnyH_ready (rs := [8]) (by kernel_rfl) (by simp) (AllReadyH.cons (o := _) rfl (fun K hK => ?_) AllReadyH.nil)
                try simp only [Act.put, List.getElem_toArray, List.getElem_cons_succ, List.getElem_cons_zero, List.setIfInBounds_toArray, List.set_cons_zero, List.set_cons_succ]
                rw [if_pos (by rfl)]
                refine op_append_at _ _ _ 27 (by rfl) w8.heap.size 3 i0 (.int .i64 0) 1 8 Tryd.underlying27 hi hz0 hz1 hz2 rfl (by decide) v5 (0 + zs.length) ([] ++ ints zs) (by rfl) hown _ _ 1 1 (ints [t]) (by rfl) hT (by rfl) (by intro u hu; obtain ⟨x, _, rfl⟩ := List.mem_map.1 hu; rfl) (by unfold maxLen; omega) (by omega) D8.size ?_
                intro v8 we hown8 hg _
                replace hP := row_far_at hP hpv hg
                have D9 := D8.grown hg D8.size (fun j hj => (World.ownsRow.lt hown j hj).1)
                have o9 : OwnI we w8.heap.size v8 ys := by
                  rw [← HYS.out]
                  unfold OwnI
                  rw [show (zs ++ [t]).length = 0 + zs.length + 1 by simp, show ints (zs ++ [t]) = [] ++ ints zs ++ ints [t] by simp [ints]]
                  exact hown8
                obtain ⟨A8, c8, rfl, r8, -⟩ := o9.form
                clear hown hown8 hg o9 hT hpv D8
                refine hK.out _ _ (HKP.out _ D9) (fun hHeld => ?_)
                clear hK K
                try simp only [Act.put, List.getElem_toArray, List.getElem_cons_succ, List.getElem_cons_zero, List.setIfInBounds_toArray, List.set_cons_zero, List.set_cons_succ]
                refine wpAnyH_ready (rs := [9]) (by kernel_rfl) (by simp) (AllReadyH.cons (o := _) rfl (fun K hK => ?_) AllReadyH.nil)
                try simp only [Act.put, List.getElem_toArray, List.getElem_cons_succ, List.getElem_cons_zero, List.setIfInBounds_toArray, List.set_cons_zero, List.set_cons_succ]
                go_simp
                go_at_call 17
                refine (sameInts_ret (some pd) A8 pc c8 ys we _ _ hP r8 (by unfold maxLen; omega)).mono ?_
                rintro e wf ⟨rfl, d9⟩
                have DF := D9.trans (d9.mono D9.size)
                refine hK.out _ _ (HKP.out _ DF) (fun hHeld => ?_)
                clear hK K
                try simp only [Act.put, List.getElem_toArray, List.getElem_cons_succ, List.getElem_cons_zero, List.setIfInBounds_toArray, List.set_cons_zero, List.set_cons_succ]
                refine wpAnyH_take (i := 10) (oi := _) (v := ?_) rfl (by kernel_rfl) (by kernel_rfl) (by kernel_rfl) (fun _ _ _ h => h) (Or.inl ⟨by rfl, ?_⟩) hHeld ?_
                rotate_left
                · (intro w' hSw; (try dsimp only at hSw); go_simp <;> with_reducible rfl)
                try simp only [Act.put, List.getElem_toArray, List.getElem_cons_succ, List.getElem_cons_zero, List.setIfInBounds_toArray, List.set_cons_zero, List.set_cons_succ]
                refine wpAnyH_done (by kernel_rfl) ?_ _
                have DX := dx.trans (DF.mono dx.size)
                clear hHeld hP r8 d9 D9
                go_wp2
                go_ret
                exact .mk_ (bw.trans (DX.mono bw.size))
              · skip
                try simp only [Act.put, List.getElem_toArray, List.getElem_cons_succ, List.getElem_cons_zero, List.setIfInBounds_toArray, List.set_cons_zero, List.set_cons_succ]
                go_simp
                have al9 := (Below.refl wd.heap.size wd).alloc (Nat.le_refl _) (.cells #[.int .i64 t] 3)
                have hT' := row_single wd 3 t
                obtain ⟨gT, hgT⟩ : ∃ g, wd.heap.size = g := ⟨_, rfl⟩
                obtain ⟨wd, hV⟩ : ∃ y, wd.alloc (.cells #[.int .i64 t] 3) = y := ⟨_, rfl⟩
                rw [hV] at al9 hT' ⊢
                replace D8 := D8.trans ((al9).mono D8.size)
                try replace hP := rowJ_on hP al9
                try replace hQ := rowJ_on hQ al9
                try replace hT := rowJ_on hT al9
                try replace nE := ((al9).block _ (blk_lt nE)).trans nE
                try replace hown := own_below hown al9 (Nat.le_refl _)
                have hT := hT'
                rw [hgT] at hT ⊢
                clear al9 hT' hgT hV
                refine hK.out _ _ (HKP.out _ D8) (fun hHeld => ?_)
                clear hK K
                try simp only [Act.put, List.getElem_toArray, List.getElem_cons_succ, List.getElem_cons_zero, List.setIfInBounds_toArray, List.set_cons_zero, List.set_cons_succ]
                refine wpAnyH_ready (rs := [5]) (by kernel_rfl) (by simp) (AllReadyH.cons (o := _) rfl (fun K hK => ?_) AllReadyH.nil)
                try simp only [Act.put, List.getElem_toArray, List.getElem_cons_succ, List.getElem_cons_zero, List.setIfInBounds_toArray, List.set_cons_zero, List.set_cons_succ]
                rw [if_pos (by rfl)]
                obtain ⟨pd, rfl, pne, plt⟩ := row_apart hP HYN.out nE
                refine op_append_at _ _ _ 27 (by rfl) w8.heap.size 3 i0 (.int .i64 0) 1 8 Tryd.underlying27 hi hz0 hz1 hz2 rfl (by decide) (.slice (some ⟨gE, 0, none⟩) 0 0) 0 [] (by rfl) (own_nil nE hgB) wd.heap.size Qa _ qc (ints zs) (by rfl) hQ (by rw [ints_length]; omega) (by intro u hu; obtain ⟨x, _, rfl⟩ := List.mem_map.1 hu; rfl) (by unfold maxLen; omega) (by omega) D8.size ?_
                intro v5 wd hown hg hat
                have hpv : some pd.block ≠ v5.ownBlock := by
                  rcases hat with e | e
                  · rw [e]; intro e2; injection e2 with e2; exact pne e2
                  · rw [e]; intro e2; injection e2 with e2; omega
                replace hP := row_far_nil hP nE hg
                try replace hT := row_far_nil hT nE hg
                replace D8 := D8.grown hg D8.size (fun j hj => by have hj : gE = j := (by simpa [Value.ownBlock] using hj); omega)
                clear nE hQ hg hat pne plt
                refine hK.out _ _ (HKP.out _ D8) (fun hHeld => ?_)
                clear hK K
                try simp only [Act.put, List.getElem_toArray, List.getElem_cons_succ, List.getElem_cons_zero, List.setIfInBounds_toArray, List.set_cons_zero, List.set_cons_succ]
                refine wpAnyH_ready (rs := [8]) (by kernel_rfl) (by simp) (AllReadyH.cons (o := _) rfl (fun K hK => ?_) AllReadyH.nil)
                try simp only [Act.put, List.getElem_toArray, List.getElem_cons_succ, List.getElem_cons_zero, List.setIfInBounds_toArray, List.set_cons_zero, List.set_cons_succ]
                rw [if_pos (by rfl)]
                refine op_append_at _ _ _ 27 (by rfl) w8.heap.size 3 i0 (.int .i64 0) 1 8 Tryd.underlying27 hi hz0 hz1 hz2 rfl (by decide) v5 (0 + zs.length) ([] ++ ints zs) (by rfl) hown _ _ 1 1 (ints [t]) (by rfl) hT (by rfl) (by intro u hu; obtain ⟨x, _, rfl⟩ := List.mem_map.1 hu; rfl) (by unfold maxLen; omega) (by omega) D8.size ?_
                intro v8 we hown8 hg _
                replace hP := row_far_at hP hpv hg
                have D9 := D8.grown hg D8.size (fun j hj => (World.ownsRow.lt hown j hj).1)
                have o9 : OwnI we w8.heap.size v8 ys := by
                  rw [← HYS.out]
                  unfold OwnI
                  rw [show (zs ++ [t]).length = 0 + zs.length + 1 by simp, show ints (zs ++ [t]) = [] ++ ints zs ++ ints [t] by simp [ints]]
                  exact hown8
                obtain ⟨A8, c8, rfl, r8, -⟩ := o9.form
                clear hown hown8 hg o9 hT hpv D8
                refine hK.out _ _ (HKP.out _ D9) (fun hHeld => ?_)
                clear hK K
                try simp only [Act.put, List.getElem_toArray, List.getElem_cons_succ, List.getElem_cons_zero, List.setIfInBounds_toArray, List.set_cons_zero, List.set_cons_succ]
                refine wpAnyH_ready (rs := [9]) (by kernel_rfl) (by simp) (AllReadyH.cons (o := _) rfl (fun K hK => ?_) AllReadyH.nil)
                try simp only [Act.put, List.getElem_toArray, List.getElem_cons_succ, List.getElem_cons_zero, List.setIfInBounds_toArray, List.set_cons_zero, List.set_cons_succ]
                go_simp
                go_at_call 17
                refine (sameInts_ret (some pd) A8 pc c8 ys we _ _ hP r8 (by unfold maxLen; omega)).mono ?_
                rintro e wf ⟨rfl, d9⟩
                have DF := D9.trans (d9.mono D9.size)
                refine hK.out _ _ (HKP.out _ DF) (fun hHeld => ?_)
                clear hK K
                try simp only [Act.put, List.getElem_toArray, List.getElem_cons_succ, List.getElem_cons_zero, List.setIfInBounds_toArray, List.set_cons_zero, List.set_cons_succ]
                refine wpAnyH_take (i := 10) (oi := _) (v := ?_) rfl (by kernel_rfl) (by kernel_rfl) (by kernel_rfl) (fun _ _ _ h => h) (Or.inl ⟨by rfl, ?_⟩) hHeld ?_
                rotate_left
                · (intro w' hSw; (try dsimp only at hSw); go_simp <;> with_reducible rfl)
                try simp only [Act.put, List.getElem_toArray, List.getElem_cons_succ, List.getElem_cons_zero, List.setIfInBounds_toArray, List.set_cons_zero, List.set_cons_succ]
                refine wpAnyH_done (by kernel_rfl) ?_ _
                have DX := dx.trans (DF.mono dx.size)
                clear hHeld hP r8 d9 D9
                go_wp2
                go_ret
                exact .mk_ (bw.trans (DX.mono bw.size))
            · skip
              try simp only [Act.put, List.getElem_toArray, List.getElem_cons_succ, List.getElem_cons_zero, List.setIfInBounds_toArray, List.set_cons_zero, List.set_cons_succ]
              go_simp
              have al9 := (Below.refl wd.heap.size wd).alloc (Nat.le_refl _) (.cells #[.int .i64 t] 3)
              have hT' := row_single wd 3 t
              obtain ⟨gT, hgT⟩ : ∃ g, wd.heap.size = g := ⟨_, rfl⟩
              obtain ⟨wd, hV⟩ : ∃ y, wd.alloc (.cells #[.int .i64 t] 3) = y := ⟨_, rfl⟩
              rw [hV] at al9 hT' ⊢
              replace D8 := D8.trans ((al9).mono D8.size)
              try replace hP := rowJ_on hP al9
              try replace hQ := rowJ_on hQ al9
              try replace hT := rowJ_on hT al9
              try replace nE := ((al9).block _ (blk_lt nE)).trans nE
              try replace hown := own_below hown al9 (Nat.le_refl _)
              have hT := hT'
              rw [hgT] at hT ⊢
              clear al9 hT' hgT hV
              refine hK.out _ _ (HKP.out _ D8) (fun hHeld => ?_)
              clear hK K
              try simp only [Act.put, List.getElem_toArray, List.getElem_cons_succ, List.getElem_cons_zero, List.setIfInBounds_toArray, List.set_cons_zero, List.set_cons_succ]
              refine wpAnyH_ready (rs := [2]) (by kernel_rfl) (by simp) (AllReadyH.cons (o := _) rfl (fun K hK => ?_) AllReadyH.nil)
              try simp only [Act.put, List.getElem_toArray, List.getElem_cons_succ, List.getElem_cons_zero, List.setIfInBounds_toArray, List.set_cons_zero, List.set_cons_succ]
              go_simp
              have al9 := (Below.refl wd.heap.size wd).alloc (Nat.le_refl _) (.cells #[] 3)
              have nE' := heap_alloc_new wd (.cells #[] 3)
              have hgB' := D8.size
              obtain ⟨gE, hgE⟩ : ∃ g, wd.heap.size = g := ⟨_, rfl⟩
              obtain ⟨wd, hV⟩ : ∃ y, wd.alloc (.cells #[] 3) = y := ⟨_, rfl⟩
              rw [hV] at al9 nE' ⊢
              replace D8 := D8.trans ((al9).mono D8.size)
              try replace hP := rowJ_on hP al9
              try replace hQ := rowJ_on hQ al9
              try replace hT := rowJ_on hT al9
              try replace nE := ((al9).block _ (blk_lt nE)).trans nE
              try replace hown := own_below hown al9 (Nat.le_refl _)
              have nE := nE'
              have hgB : w8.heap.size ≤ gE := by omega
              rw [hgE] at nE ⊢
              clear al9 nE' hgE hgB' hV
              refine hK.out _ _ (HKP.out _ D8) (fun hHeld => ?_)
              clear hK K
              try simp only [Act.put, List.getElem_toArray, List.getElem_cons_succ, List.getElem_cons_zero, List.setIfInBounds_toArray, List.set_cons_zero, List.set_cons_succ]
              refine wpAnyH_ready (rs := [5]) (by kernel_rfl) (by simp) (AllReadyH.cons (o := _) rfl (fun K hK => ?_) AllReadyH.nil)
              try simp only [Act.put, List.getElem_toArray, List.getElem_cons_succ, List.getElem_cons_zero, List.setIfInBounds_toArray, List.set_cons_zero, List.set_cons_succ]
              rw [if_pos (by rfl)]
              obtain ⟨pd, rfl, pne, plt⟩ := row_apart hP HYN.out nE
              refine op_append_at _ _ _ 27 (by rfl) w8.heap.size 3 i0 (.int .i64 0) 1 8 Tryd.underlying27 hi hz0 hz1 hz2 rfl (by decide) (.slice (some ⟨gE, 0, none⟩) 0 0) 0 [] (by rfl) (own_nil nE hgB) wd.heap.size Qa _ qc (ints zs) (by rfl) hQ (by rw [ints_length]; omega) (by intro u hu; obtain ⟨x, _, rfl⟩ := List.mem_map.1 hu; rfl) (by unfold maxLen; omega) (by omega) D8.size ?_
              intro v5 wd hown hg hat
              have hpv : some pd.block ≠ v5.ownBlock := by
                rcases hat with e | e
                · rw [e]; intro e2; injection e2 with e2; exact pne e2
                · rw [e]; intro e2; injection e2 with e2; omega
              replace hP := row_far_nil hP nE hg
              try replace hT := row_far_nil hT nE hg
              replace D8 := D8.grown hg D8.size (fun j hj => by have hj : gE = j := (by simpa [Value.ownBlock] using hj); omega)
              clear nE hQ hg hat pne plt
              refine hK.out _ _ (HKP.out _ D8) (fun hHeld => ?_)
              clear hK K
              try simp only [Act.put, List.getElem_toArray, List.getElem_cons_succ, List.getElem_cons_zero, List.setIfInBounds_toArray, List.set_cons_zero, List.set_cons_succ]
              refine wpAnyH_ready (rs := [8]) (by kernel_rfl) (by simp) (AllReadyH.cons (o := _) rfl (fun K hK => ?_) AllReadyH.nil)
              try simp only [Act.put, List.getElem_toArray, List.getElem_cons_succ, List.getElem_cons_zero, List.setIfInBounds_toArray, List.set_cons_zero, List.set_cons_succ]
              rw [if_pos (by rfl)]
              refine op_append_at _ _ _ 27 (by rfl) w8.heap.size 3 i0 (.int .i64 0) 1 8 Tryd.underlying27 hi hz0 hz1 hz2 rfl (by decide) v5 (0 + zs.length) ([] ++ ints zs) (by rfl) hown _ _ 1 1 (ints [t]) (by rfl) hT (by rfl) (by intro u hu; obtain ⟨x, _, rfl⟩ := List.mem_map.1 hu; rfl) (by unfold maxLen; omega) (by omega) D8.size ?_
              intro v8 we hown8 hg _
              replace hP := row_far_at hP hpv hg
              have D9 := D8.grown hg D8.size (fun j hj => (World.ownsRow.lt hown j hj).1)
              have o9 : OwnI we w8.heap.size v8 ys := by
                rw [← HYS.out]
                unfold OwnI
                rw [show (zs ++ [t]).length = 0 + zs.length + 1 by simp, show ints (zs ++ [t]) = [] ++ ints zs ++ ints [t] by simp [ints]]
                exact hown8
              obtain ⟨A8, c8, rfl, r8, -⟩ := o9.form
              clear hown hown8 hg o9 hT hpv D8
              refine hK.out _ _ (HKP.out _ D9) (fun hHeld => ?_)
              clear hK K
              try simp only [Act.put, List.getElem_toArray, List.getElem_cons_succ, List.getElem_cons_zero, List.setIfInBounds_toArray, List.set_cons_zero, List.set_cons_succ]
              refine wpAnyH_ready (rs := [9]) (by kernel_rfl) (by simp) (AllReadyH.cons (o := _) rfl (fun K hK => ?_) AllReadyH.nil)
              try simp only [Act.put, List.getElem_toArray, List.getElem_cons_succ, List.getElem_cons_zero, List.setIfInBounds_toArray, List.set_cons_zero, List.set_cons_succ]
              go_simp
              go_at_call 17
              refine (sameInts_ret (some pd) A8 pc c8 ys we _ _ hP r8 (by unfold maxLen; omega)).mono ?_
              rintro e wf ⟨rfl, d9⟩
              have DF := D9.trans (d9.mono D9.size)
              refine hK.out _ _ (HKP.out _ DF) (fun hHeld => ?_)
              clear hK K
              try simp only [Act.put, List.getElem_toArray, List.getElem_cons_succ, List.getElem_cons_zero, List.setIfInBounds_toArray, List.set_cons_zero, List.set_cons_succ]
              refine wpAnyH_take (i := 10) (oi := _) (v := ?_) rfl (by kernel_rfl) (by kernel_rfl) (by kernel_rfl) (fun _ _ _ h => h) (Or.inl ⟨by rfl, ?_⟩) hHeld ?_
              rotate_left
              · (intro w' hSw; (try dsimp only at hSw); go_simp <;> with_reducible rfl)
              try simp only [Act.put, List.getElem_toArray, List.getElem_cons_succ, List.getElem_cons_zero, List.setIfInBounds_toArray, List.set_cons_zero, List.set_cons_succ]
              refine wpAnyH_done (by kernel_rfl) ?_ _
              have DX := dx.trans (DF.mono dx.size)
              clear hHeld hP r8 d9 D9
              go_wp2
              go_ret
              exact .mk_ (bw.trans (DX.mono bw.size))
          · skip
            try simp only [Act.put, List.getElem_toArray, List.getElem_cons_succ, List.getElem_cons_zero, List.setIfInBounds_toArray, List.set_cons_zero, List.set_cons_succ]
            go_simp
            have al9 := (Below.refl wd.heap.size wd).alloc (Nat.le_refl _) (.cells #[.int .i64 t] 3)
            have hT' := row_single wd 3 t
            obtain ⟨gT, hgT⟩ : ∃ g, wd.heap.size = g := ⟨_, rfl⟩
            obtain ⟨wd, hV⟩ : ∃ y, wd.alloc (.cells #[.int .i64 t] 3) = y := ⟨_, rfl⟩
            rw [hV] at al9 hT' ⊢
            replace D8 := D8.trans ((al9).mono D8.size)
            try replace hP := rowJ_on hP al9
            try replace hQ := rowJ_on hQ al9
            try replace hT := rowJ_on hT al9
            try replace nE := ((al9).block _ (blk_lt nE)).trans nE
            try replace hown := own_below hown al9 (Nat.le_refl _)
            have hT := hT'
            rw [hgT] at hT ⊢
            clear al9 hT' hgT hV
            refine hK.out _ _ (HKP.out _ D8) (fun hHeld => ?_)
            clear hK K
            try simp only [Act.put, List.getElem_toArray, List.getElem_cons_succ, List.getElem_cons_zero, List.setIfInBounds_toArray, List.set_cons_zero, List.set_cons_succ]
            refine wpAnyH_ready (rs := [2, 4]) (by kernel_rfl) (by simp) (AllReadyH.cons (o := _) rfl (fun K hK => ?_) (AllReadyH.cons (o := _) rfl (fun K hK => ?_) AllReadyH.nil))
            · skip
              try simp only [Act.put, List.getElem_toArray, List.getElem_cons_succ, List.getElem_cons_zero, List.setIfInBounds_toArray, List.set_cons_zero, List.set_cons_succ]
              go_simp
              have al9 := (Below.refl wd.heap.size wd).alloc (Nat.le_refl _) (.cells #[] 3)
              have nE' := heap_alloc_new wd (.cells #[] 3)
              have hgB' := D8.size
              obtain ⟨gE, hgE⟩ : ∃ g, wd.heap.size = g := ⟨_, rfl⟩
              obtain ⟨wd, hV⟩ : ∃ y, wd.alloc (.cells #[] 3) = y := ⟨_, rfl⟩
              rw [hV] at al9 nE' ⊢
              replace D8 := D8.trans ((al9).mono D8.size)
              try replace hP := rowJ_on hP al9
              try replace hQ := rowJ_on hQ al9
              try replace hT := rowJ_on hT al9
              try replace nE := ((al9).block _ (blk_lt nE)).trans nE
              try replace hown := own_below hown al9 (Nat.le_refl _)
              have nE := nE'
              have hgB : w8.heap.size ≤ gE := by omega
              rw [hgE] at nE ⊢
              clear al9 nE' hgE hgB' hV
              refine hK.out _ _ (HKP.out _ D8) (fun hHeld => ?_)
              clear hK K
              try simp only [Act.put, List.getElem_toArray, List.getElem_cons_succ, List.getElem_cons_zero, List.setIfInBounds_toArray, List.set_cons_zero, List.set_cons_succ]
              refine wpAnyH_ready (rs := [4]) (by kernel_rfl) (by simp) (AllReadyH.cons (o := _) rfl (fun K hK => ?_) AllReadyH.nil)
              try simp only [Act.put, List.getElem_toArray, List.getElem_cons_succ, List.getElem_cons_zero, List.setIfInBounds_toArray, List.set_cons_zero, List.set_cons_succ]
              go_simp
              go_at_call 15
              refine (C1.out _ _ (dx.trans (D8.mono dx.size)) (HS1.out _ (dx.trans (D8.mono dx.size)))).mono ?_
              rintro e wd ⟨Qa, qc, rfl, o9, d9⟩
              replace D8 := D8.trans ((d9).mono D8.size)
              try replace hP := rowJ_on hP d9
              try replace hQ := rowJ_on hQ d9
              try replace hT := rowJ_on hT d9
              try replace nE := ((d9).block _ (blk_lt nE)).trans nE
              try replace hown := own_below hown d9 (Nat.le_refl _)
              have hQ := o9.row
              clear o9 d9
              refine hK.out _ _ (HKP.out _ D8) (fun hHeld => ?_)
              clear hK K
              try simp only [Act.put, List.getElem_toArray, List.getElem_cons_succ, List.getElem_cons_zero, List.setIfInBounds_toArray, List.set_cons_zero, List.set_cons_succ]
              refine wpAnyH_ready (rs := [5]) (by kernel_rfl) (by simp) (AllReadyH.cons (o := _) rfl (fun K hK => ?_) AllReadyH.nil)
              try simp only [Act.put, List.getElem_toArray, List.getElem_cons_succ, List.getElem_cons_zero, List.setIfInBounds_toArray, List.set_cons_zero, List.set_cons_succ]
              rw [if_pos (by rfl)]
              obtain ⟨pd, rfl, pne, plt⟩ := row_apart hP HYN.out nE
              refine op_append_at _ _ _ 27 (by rfl) w8.heap.size 3 i0 (.int .i64 0) 1 8 Tryd.underlying27 hi hz0 hz1 hz2 rfl (by decide) (.slice (some ⟨gE, 0, none⟩) 0 0) 0 [] (by rfl) (own_nil nE hgB) wd.heap.size Qa _ qc (ints zs) (by rfl) hQ (by rw [ints_length]; omega) (by intro u hu; obtain ⟨x, _, rfl⟩ := List.mem_map.1 hu; rfl) (by unfold maxLen; omega) (by omega) D8.size ?_
              intro v5 wd hown hg hat
              have hpv : some pd.block ≠ v5.ownBlock := by
                rcases hat with e | e
                · rw [e]; intro e2; injection e2 with e2; exact pne e2
                · rw [e]; intro e2; injection e2 with e2; omega
              replace hP := row_far_nil hP nE hg
              try replace hT := row_far_nil hT nE hg
              replace D8 := D8.grown hg D8.size (fun j hj => by have hj : gE = j := (by simpa [Value.ownBlock] using hj); omega)
              clear nE hQ hg hat pne plt
              refine hK.out _ _ (HKP.out _ D8) (fun hHeld => ?_)
              clear hK K
              try simp only [Act.put, List.getElem_toArray, List.getElem_cons_succ, List.getElem_cons_zero, List.setIfInBounds_toArray, List.set_cons_zero, List.set_cons_succ]
              refine wpAnyH_ready (rs := [8]) (by kernel_rfl) (by simp) (AllReadyH.cons (o := _) rfl (fun K hK => ?_) AllReadyH.nil)
              try simp only [Act.put, List.getElem_toArray, List.getElem_cons_succ, List.getElem_cons_zero, List.setIfInBounds_toArray, List.set_cons_zero, List.set_cons_succ]
              rw [if_pos (by rfl)]
              refine op_append_at _ _ _ 27 (by rfl) w8.heap.size 3 i0 (.int .i64 0) 1 8 Tryd.underlying27 hi hz0 hz1 hz2 rfl (by decide) v5 (0 + zs.length) ([] ++ ints zs) (by rfl) hown _ _ 1 1 (ints [t]) (by rfl) hT (by rfl) (by intro u hu; obtain ⟨x, _, rfl⟩ := List.mem_map.1 hu; rfl) (by unfold maxLen; omega) (by omega) D8.size ?_
              intro v8 we hown8 hg _
              replace hP := row_far_at hP hpv hg
              have D9 := D8.grown hg D8.size (fun j hj => (World.ownsRow.lt hown j hj).1)
              have o9 : OwnI we w8.heap.size v8 ys := by
                rw [← HYS.out]
                unfold OwnI
                rw [show (zs ++ [t]).length = 0 + zs.length + 1 by simp, show ints (zs ++ [t]) = [] ++ ints zs ++ ints [t] by simp [ints]]
                exact hown8
              obtain ⟨A8, c8, rfl, r8, -⟩ := o9.form
              clear hown hown8 hg o9 hT hpv D8
              refine hK.out _ _ (HKP.out _ D9) (fun hHeld => ?_)
              clear hK K
              try simp only [Act.put, List.getElem_toArray, List.getElem_cons_succ, List.getElem_cons_zero, List.setIfInBounds_toArray, List.set_cons_zero, List.set_cons_succ]
              refine wpAnyH_ready (rs := [9]) (by kernel_rfl) (by simp) (AllReadyH.cons (o := _) rfl (fun K hK => ?_) AllReadyH.nil)
              try simp only [Act.put, List.getElem_toArray, List.getElem_cons_succ, List.getElem_cons_zero, List.setIfInBounds_toArray, List.set_cons_zero, List.set_cons_succ]
              go_simp
              go_at_call 17
              refine (sameInts_ret (some pd) A8 pc c8 ys we _ _ hP r8 (by unfold maxLen; omega)).mono ?_
              rintro e wf ⟨rfl, d9⟩
              have DF := D9.trans (d9.mono D9.size)
              refine hK.out _ _ (HKP.out _ DF) (fun hHeld => ?_)
              clear hK K
              try simp only [Act.put, List.getElem_toArray, List.getElem_cons_succ, List.getElem_cons_zero, List.setIfInBounds_toArray, List.set_cons_zero, List.set_cons_succ]
              refine wpAnyH_take (i := 10) (oi := _) (v := ?_) rfl (by kernel_rfl) (by kernel_rfl) (by kernel_rfl) (fun _ _ _ h => h) (Or.inl ⟨by rfl, ?_⟩) hHeld ?_
              rotate_left
              · (intro w' hSw; (try dsimp only at hSw); go_simp <;> with_reducible rfl)
              try simp only [Act.put, List.getElem_toArray, List.getElem_cons_succ, List.getElem_cons_zero, List.setIfInBounds_toArray, List.set_cons_zero, List.set_cons_succ]
              refine wpAnyH_done (by kernel_rfl) ?_ _
              have DX := dx.trans (DF.mono dx.size)
              clear hHeld hP r8 d9 D9
              go_wp2
              go_ret
              exact .mk_ (bw.trans (DX.mono bw.size))
            · skip
              try simp only [Act.put, List.getElem_toArray, List.getElem_cons_succ, List.getElem_cons_zero, List.setIfInBounds_toArray, List.set_cons_zero, List.set_cons_succ]
              go_simp
              go_at_call 15
              refine (C1.out _ _ (dx.trans (D8.mono dx.size)) (HS1.out _ (dx.trans (D8.mono dx.size)))).mono ?_
              rintro e wd ⟨Qa, qc, rfl, o9, d9⟩
              replace D8 := D8.trans ((d9).mono D8.size)
              try replace hP := rowJ_on hP d9
              try replace hQ := rowJ_on hQ d9
              try replace hT := rowJ_on hT d9
              try replace nE := ((d9).block _ (blk_lt nE)).trans nE
              try replace hown := own_below hown d9 (Nat.le_refl _)
              have hQ := o9.row
              clear o9 d9
              refine hK.out _ _ (HKP.out _ D8) (fun hHeld => ?_)
              clear hK K
              try simp only [Act.put, List.getElem_toArray, List.getElem_cons_succ, List.getElem_cons_zero, List.setIfInBounds_toArray, List.set_cons_zero, List.set_cons_succ]
              refine wpAnyH_ready (rs := [2]) (by kernel_rfl) (by simp) (AllReadyH.cons (o := _) rfl (fun K hK => ?_) AllReadyH.nil)
              try simp only [Act.put, List.getElem_toArray, List.getElem_cons_succ, List.getElem_cons_zero, List.setIfInBounds_toArray, List.set_cons_zero, List.set_cons_succ]
              go_simp
              have al9 := (Below.refl wd.heap.size wd).alloc (Nat.le_refl _) (.cells #[] 3)
              have nE' := heap_alloc_new wd (.cells #[] 3)
              have hgB' := D8.size
              obtain ⟨gE, hgE⟩ : ∃ g, wd.heap.size = g := ⟨_, rfl⟩
              obtain ⟨wd, hV⟩ : ∃ y, wd.alloc (.cells #[] 3) = y := ⟨_, rfl⟩
              rw [hV] at al9 nE' ⊢
              replace D8 := D8.trans ((al9).mono D8.size)
              try replace hP := rowJ_on hP al9
              try replace hQ := rowJ_on hQ al9
              try replace hT := rowJ_on hT al9
              try replace nE := ((al9).block _ (blk_lt nE)).trans nE
              try replace hown := own_below hown al9 (Nat.le_refl _)
              have nE := nE'
              have hgB : w8.heap.size ≤ gE := by omega
              rw [hgE] at nE ⊢
              clear al9 nE' hgE hgB' hV
              refine hK.out _ _ (HKP.out _ D8) (fun hHeld => ?_)
              clear hK K
              try simp only [Act.put, List.getElem_toArray, List.getElem_cons_succ, List.getElem_cons_zero, List.setIfInBounds_toArray, List.set_cons_zero, List.set_cons_succ]
              refine wpAnyH_ready (rs := [5]) (by kernel_rfl) (by simp) (AllReadyH.cons (o := _) rfl (fun K hK => ?_) AllReadyH.nil)
              try simp only [Act.put, List.getElem_toArray, List.getElem_cons_succ, List.getElem_cons_zero, List.setIfInBounds_toArray, List.set_cons_zero, List.set_cons_succ]
              rw [if_pos (by rfl)]
              obtain ⟨pd, rfl, pne, plt⟩ := row_apart hP HYN.out nE
              refine op_append_at _ _ _ 27 (by rfl) w8.heap.size 3 i0 (.int .i64 0) 1 8 Tryd.underlying27 hi hz0 hz1 hz2 rfl (by decide) (.slice (some ⟨gE, 0, none⟩) 0 0) 0 [] (by rfl) (own_nil nE hgB) wd.heap.size Qa _ qc (ints zs) (by rfl) hQ (by rw [ints_length]; omega) (by intro u hu; obtain ⟨x, _, rfl⟩ := List.mem_map.1 hu; rfl) (by unfold maxLen; omega) (by omega) D8.size ?_
              intro v5 wd hown hg hat
              have hpv : some pd.block ≠ v5.ownBlock := by
                rcases hat with e | e
                · rw [e]; intro e2; injection e2 with e2; exact pne e2
                · rw [e]; intro e2; injection e2 with e2; omega
              replace hP := row_far_nil hP nE hg
              try replace hT := row_far_nil hT nE hg
              replace D8 := D8.grown hg D8.size (fun j hj => by have hj : gE = j := (by simpa [Value.ownBlock] using hj); omega)
              clear nE hQ hg hat pne plt
              refine hK.out _ _ (HKP.out _ D8) (fun hHeld => ?_)
              clear hK K
              try simp only [Act.put, List.getElem_toArray, List.getElem_cons_succ, List.getElem_cons_zero, List.setIfInBounds_toArray, List.set_cons_zero, List.set_cons_succ]
              refine wpAnyH_ready (rs := [8]) (by kernel_rfl) (by simp) (AllReadyH.cons (o := _) rfl (fun K hK => ?_) AllReadyH.nil)
              try simp only [Act.put, List.getElem_toArray, List.getElem_cons_succ, List.getElem_cons_zero, List.setIfInBounds_toArray, List.set_cons_zero, List.set_cons_succ]
              rw [if_pos (by rfl)]
              refine op_append_at _ _ _ 27 (by rfl) w8.heap.size 3 i0 (.int .i64 0) 1 8 Tryd.underlying27 hi hz0 hz1 hz2 rfl (by decide) v5 (0 + zs.length) ([] ++ ints zs) (by rfl) hown _ _ 1 1 (ints [t]) (by rfl) hT (by rfl) (by intro u hu; obtain ⟨x, _, rfl⟩ := List.mem_map.1 hu; rfl) (by unfold maxLen; omega) (by omega) D8.size ?_
              intro v8 we hown8 hg _
              replace hP := row_far_at hP hpv hg
              have D9 := D8.grown hg D8.size (fun j hj => (World.ownsRow.lt hown j hj).1)
              have o9 : OwnI we w8.heap.size v8 ys := by
                rw [← HYS.out]
                unfold OwnI
                rw [show (zs ++ [t]).length = 0 + zs.length + 1 by simp, show ints (zs ++ [t]) = [] ++ ints zs ++ ints [t] by simp [ints]]
                exact hown8
              obtain ⟨A8, c8, rfl, r8, -⟩ := o9.form
              clear hown hown8 hg o9 hT hpv D8
              refine hK.out _ _ (HKP.out _ D9) (fun hHeld => ?_)
              clear hK K
              try simp only [Act.put, List.getElem_toArray, List.getElem_cons_succ, List.getElem_cons_zero, List.setIfInBounds_toArray, List.set_cons_zero, List.set_cons_succ]
              refine wpAnyH_ready (rs := [9]) (by kernel_rfl) (by simp) (AllReadyH.cons (o := _) rfl (fun K hK => ?_) AllReadyH.nil)
              try simp only [Act.put, List.getElem_toArray, List.getElem_cons_succ, List.getElem_cons_zero, List.setIfInBounds_toArray, List.set_cons_zero, List.set_cons_succ]
              go_simp
              go_at_call 17
              refine (sameInts_ret (some pd) A8 pc c8 ys we _ _ hP r8 (by unfold maxLen; omega)).mono ?_
              rintro e wf ⟨rfl, d9⟩
              have DF := D9.trans (d9.mono D9.size)
              refine hK.out _ _ (HKP.out _ DF) (fun hHeld => ?_)
              clear hK K
              try simp only [Act.put, List.getElem_toArray, List.getElem_cons_succ, List.getElem_cons_zero, List.setIfInBounds_toArray, List.set_cons_zero, List.set_cons_succ]
              refine wpAnyH_take (i := 10) (oi := _) (v := ?_) rfl (by kernel_rfl) (by kernel_rfl) (by kernel_rfl) (fun _ _ _ h => h) (Or.inl ⟨by rfl, ?_⟩) hHeld ?_
              rotate_left
              · (intro w' hSw; (try dsimp only at hSw); go_simp <;> with_reducible rfl)
              try simp only [Act.put, List.getElem_toArray, List.getElem_cons_succ, List.getElem_cons_zero, List.setIfInBounds_toArray, List.set_cons_zero, List.set_cons_succ]
              refine wpAnyH_done (by kernel_rfl) ?_ _
              have DX := dx.trans (DF.mono dx.size)
              clear hHeld hP r8 d9 D9
              go_wp2
              go_ret
              exact .mk_ (bw.trans (DX.mono bw.size))
        · skip
          try simp only [Act.put, List.getElem_toArray, List.getElem_cons_succ, List.getElem_cons_zero, List.setIfInBounds_toArray, List.set_cons_zero, List.set_cons_succ]
          go_simp
          have al9 := (Below.refl wd.heap.size wd).alloc (Nat.le_refl _) (.cells #[] 3)
          have nE' := heap_alloc_new wd (.cells #[] 3)
          have hgB' := D8.size
          obtain ⟨gE, hgE⟩ : ∃ g, wd.heap.size = g := ⟨_, rfl⟩
          obtain ⟨wd, hV⟩ : ∃ y, wd.alloc (.cells #[] 3) = y := ⟨_, rfl⟩
          rw [hV] at al9 nE' ⊢
          replace D8 := D8.trans ((al9).mono D8.size)
          try replace hP := rowJ_on hP al9
          try replace hQ := rowJ_on hQ al9
          try replace hT := rowJ_on hT al9
          try replace nE := ((al9).block _ (blk_lt nE)).trans nE
          try replace hown := own_below hown al9 (Nat.le_refl _)
          have nE := nE'
          have hgB : w8.heap.size ≤ gE := by omega
          rw [hgE] at nE ⊢
          clear al9 nE' hgE hgB' hV
          refine hK.out _ _ (HKP.out _ D8) (fun hHeld => ?_)
          clear hK K
          try simp only [Act.put, List.getElem_toArray, List.getElem_cons_succ, List.getElem_cons_zero, List.setIfInBounds_toArray, List.set_cons_zero, List.set_cons_succ]
          refine wpAnyH_ready (rs := [1, 7]) (by kernel_rfl) (by simp) (AllReadyH.cons (o := _) rfl (fun K hK => ?_) (AllReadyH.cons (o := _) rfl (fun K hK => ?_) AllReadyH.nil))
          · skip
            try simp only [Act.put, List.getElem_toArray, List.getElem_cons_succ, List.getElem_cons_zero, List.setIfInBounds_toArray, List.set_cons_zero, List.set_cons_succ]
            go_simp
            go_at_call 15
            refine (C2.out _ _ (dx.trans (D8.mono dx.size)) (HS2.out _ (dx.trans (D8.mono dx.size)))).mono ?_
            rintro e wd ⟨Pa, pc, rfl, o9, d9⟩
            replace D8 := D8.trans ((d9).mono D8.size)
            try replace hP := rowJ_on hP d9
            try replace hQ := rowJ_on hQ d9
            try replace hT := rowJ_on hT d9
            try replace nE := ((d9).block _ (blk_lt nE)).trans nE
            try replace hown := own_below hown d9 (Nat.le_refl _)
            have hP := o9.row
            clear o9 d9
            refine hK.out _ _ (HKP.out _ D8) (fun hHeld => ?_)
            clear hK K
            try simp only [Act.put, List.getElem_toArray, List.getElem_cons_succ, List.getElem_cons_zero, List.setIfInBounds_toArray, List.set_cons_zero, List.set_cons_succ]
            refine wpAnyH_ready (rs := [4, 7]) (by kernel_rfl) (by simp) (AllReadyH.cons (o := _) rfl (fun K hK => ?_) (AllReadyH.cons (o := _) rfl (fun K hK => ?_) AllReadyH.nil))
            · skip
              try simp only [Act.put, List.getElem_toArray, List.getElem_cons_succ, List.getElem_cons_zero, List.setIfInBounds_toArray, List.set_cons_zero, List.set_cons_succ]
              go_simp
              go_at_call 15
              refine (C1.out _ _ (dx.trans (D8.mono dx.size)) (HS1.out _ (dx.trans (D8.mono dx.size)))).mono ?_
              rintro e wd ⟨Qa, qc, rfl, o9, d9⟩
              replace D8 := D8.trans ((d9).mono D8.size)
              try replace hP := rowJ_on hP d9
              try replace hQ := rowJ_on hQ d9
              try replace hT := rowJ_on hT d9
              try replace nE := ((d9).block _ (blk_lt nE)).trans nE
              try replace hown := own_below hown d9 (Nat.le_refl _)
              have hQ := o9.row
              clear o9 d9
              refine hK.out _ _ (HKP.out _ D8) (fun hHeld => ?_)
              clear hK K
              try simp only [Act.put, List.getElem_toArray, List.getElem_cons_succ, List.getElem_cons_zero, List.setIfInBounds_toArray, List.set_cons_zero, List.set_cons_succ]
              refine wpAnyH_ready (rs := [5, 7]) (by kernel_rfl) (by simp) (AllReadyH.cons (o := _) rfl (fun K hK => ?_) (AllReadyH.cons (o := _) rfl (fun K hK => ?_) AllReadyH.nil))
              · skip
                try simp only [Act.put, List.getElem_toArray, List.getElem_cons_succ, List.getElem_cons_zero, List.setIfInBounds_toArray, List.set_cons_zero, List.set_cons_succ]
                rw [if_pos (by rfl)]
                obtain ⟨pd, rfl, pne, plt⟩ := row_apart hP HYN.out nE
                refine op_append_at _ _ _ 27 (by rfl) w8.heap.size 3 i0 (.int .i64 0) 1 8 Tryd.underlying27 hi hz0 hz1 hz2 rfl (by decide) (.slice (some ⟨gE, 0, none⟩) 0 0) 0 [] (by rfl) (own_nil nE hgB) wd.heap.size Qa _ qc (ints zs) (by rfl) hQ (by rw [ints_length]; omega) (by intro u hu; obtain ⟨x, _, rfl⟩ := List.mem_map.1 hu; rfl) (by unfold maxLen; omega) (by omega) D8.size ?_
                intro v5 wd hown hg hat
                have hpv : some pd.block ≠ v5.ownBlock := by
                  rcases hat with e | e
                  · rw [e]; intro e2; injection e2 with e2; exact pne e2
                  · rw [e]; intro e2; injection e2 with e2; omega
                replace hP := row_far_nil hP nE hg
                try replace hT := row_far_nil hT nE hg
                replace D8 := D8.grown hg D8.size (fun j hj => by have hj : gE = j := (by simpa [Value.ownBlock] using hj); omega)
                clear nE hQ hg hat pne plt
                refine hK.out _ _ (HKP.out _ D8) (fun hHeld => ?_)
                clear hK K
                try simp only [Act.put, List.getElem_toArray, List.getElem_cons_succ, List.getElem_cons_zero, List.setIfInBounds_toArray, List.set_cons_zero, List.set_cons_succ]
                refine wpAnyH_ready (rs := [7]) (by kernel_rfl) (by simp) (AllReadyH.cons (o := _) rfl (fun K hK => ?_) AllReadyH.nil)
                try simp only [Act.put, List.getElem_toArray, List.getElem_cons_succ, List.getElem_cons_zero, List.setIfInBounds_toArray, List.set_cons_zero, List.set_cons_succ]
                go_simp
                have al9 := (Below.refl wd.heap.size wd).alloc (Nat.le_refl _) (.cells #[.int .i64 t] 3)
                have hT' := row_single wd 3 t
                obtain ⟨gT, hgT⟩ : ∃ g, wd.heap.size = g := ⟨_, rfl⟩
                obtain ⟨wd, hV⟩ : ∃ y, wd.alloc (.cells #[.int .i64 t] 3) = y := ⟨_, rfl⟩
                rw [hV] at al9 hT' ⊢
                replace D8 := D8.trans ((al9).mono D8.size)
                try replace hP := rowJ_on hP al9
                try replace hQ := rowJ_on hQ al9
                try replace hT := rowJ_on hT al9
                try replace nE := ((al9).block _ (blk_lt nE)).trans nE
                try replace hown := own_below hown al9 (Nat.le_refl _)
                have hT := hT'
                rw [hgT] at hT ⊢
                clear al9 hT' hgT hV
                refine hK.out _ _ (HKP.out _ D8) (fun hHeld => ?_)
                clear hK K
                try simp only [Act.put, List.getElem_toArray, List.getElem_cons_succ, List.getElem_cons_zero, List.setIfInBounds_toArray, List.set_cons_zero, List.set_cons_succ]
                refine wpAnyH_ready (rs := [8]) (by kernel_rfl) (by simp) (AllReadyH.cons (o := _) rfl (fun K hK => ?_) AllReadyH.nil)
                try simp only [Act.put, List.getElem_toArray, List.getElem_cons_succ, List.getElem_cons_zero, List.setIfInBounds_toArray, List.set_cons_zero, List.set_cons_succ]
                rw [if_pos (by rfl)]
                refine op_append_at _ _ _ 27 (by rfl) w8.heap.size 3 i0 (.int .i64 0) 1 8 Tryd.underlying27 hi hz0 hz1 hz2 rfl (by decide) v5 (0 + zs.length) ([] ++ ints zs) (by rfl) hown _ _ 1 1 (ints [t]) (by rfl) hT (by rfl) (by intro u hu; obtain ⟨x, _, rfl⟩ := List.mem_map.1 hu; rfl) (by unfold maxLen; omega) (by omega) D8.size ?_
                intro v8 we hown8 hg _
                replace hP := row_far_at hP hpv hg
                have D9 := D8.grown hg D8.size (fun j hj => (World.ownsRow.lt hown j hj).1)
                have o9 : OwnI we w8.heap.size v8 ys := by
                  rw [← HYS.out]
                  unfold OwnI
                  rw [show (zs ++ [t]).length = 0 + zs.length + 1 by simp, show ints (zs ++ [t]) = [] ++ ints zs ++ ints [t] by simp [ints]]
                  exact hown8
                obtain ⟨A8, c8, rfl, r8, -⟩ := o9.form
                clear hown hown8 hg o9 hT hpv D8
                refine hK.out _ _ (HKP.out _ D9) (fun hHeld => ?_)
                clear hK K
                try simp only [Act.put, List.getElem_toArray, List.getElem_cons_succ, List.getElem_cons_zero, List.setIfInBounds_toArray, List.set_cons_zero, List.set_cons_succ]
                refine wpAnyH_ready (rs := [9]) (by kernel_rfl) (by simp) (AllReadyH.cons (o := _) rfl (fun K hK => ?_) AllReadyH.nil)
                try simp only [Act.put, List.getElem_toArray, List.getElem_cons_succ, List.getElem_cons_zero, List.setIfInBounds_toArray, List.set_cons_zero, List.set_cons_succ]
                go_simp
                go_at_call 17
                refine (sameInts_ret (some pd) A8 pc c8 ys we _ _ hP r8 (by unfold maxLen; omega)).mono ?_
                rintro e wf ⟨rfl, d9⟩
                have DF := D9.trans (d9.mono D9.size)
                refine hK.out _ _ (HKP.out _ DF) (fun hHeld => ?_)
                clear hK K
                try simp only [Act.put, List.getElem_toArray, List.getElem_cons_succ, List.getElem_cons_zero, List.setIfInBounds_toArray, List.set_cons_zero, List.set_cons_succ]
                refine wpAnyH_take (i := 10) (oi := _) (v := ?_) rfl (by kernel_rfl) (by kernel_rfl) (by kernel_rfl) (fun _ _ _ h => h) (Or.inl ⟨by rfl, ?_⟩) hHeld ?_
                rotate_left
                · (intro w' hSw; (try dsimp only at hSw); go_simp <;> with_reducible rfl)
                try simp only [Act.put, List.getElem_toArray, List.getElem_cons_succ, List.getElem_cons_zero, List.setIfInBounds_toArray, List.set_cons_zero, List.set_cons_succ]
                refine wpAnyH_done (by kernel_rfl) ?_ _
                have DX := dx.trans (DF.mono dx.size)
                clear hHeld hP r8 d9 D9
                go_wp2
                go_ret
                exact .mk_ (bw.trans (DX.mono bw.size))
              · skip
                try simp only [Act.put, List.getElem_toArray, List.getElem_cons_succ, List.getElem_cons_zero, List.setIfInBounds_toArray, List.set_cons_zero, List.set_cons_succ]
                go_simp
                have al9 := (Below.refl wd.heap.size wd).alloc (Nat.le_refl _) (.cells #[.int .i64 t] 3)
                have hT' := row_single wd 3 t
                obtain ⟨gT, hgT⟩ : ∃ g, wd.heap.size = g := ⟨_, rfl⟩
                obtain ⟨wd, hV⟩ : ∃ y, wd.alloc (.cells #[.int .i64 t] 3) = y := ⟨_, rfl⟩
                rw [hV] at al9 hT' ⊢
                replace D8 := D8.trans ((al9).mono D8.size)
                try replace hP := rowJ_on hP al9
                try replace hQ := rowJ_on hQ al9
                try replace hT := rowJ_on hT al9
                try replace nE := ((al9).block _ (blk_lt nE)).trans nE
                try replace hown := own_below hown al9 (Nat.le_refl _)
                have hT := hT'
                rw [hgT] at hT ⊢
                clear al9 hT' hgT hV
                refine hK.out _ _ (HKP.out _ D8) (fun hHeld => ?_)
                clear hK K
                try simp only [Act.put, List.getElem_toArray, List.getElem_cons_succ, List.getElem_cons_zero, List.setIfInBounds_toArray, List.set_cons_zero, List.set_cons_succ]
                refine wpAnyH_ready (rs := [5]) (by kernel_rfl) (by simp) (AllReadyH.cons (o := _) rfl (fun K hK => ?_) AllReadyH.nil)
                try simp only [Act.put, List.getElem_toArray, List.getElem_cons_succ, List.getElem_cons_zero, List.setIfInBounds_toArray, List.set_cons_zero, List.set_cons_succ]
                rw [if_pos (by rfl)]
                obtain ⟨pd, rfl, pne, plt⟩ := row_apart hP HYN.out nE
                refine op_append_at _ _ _ 27 (by rfl) w8.heap.size 3 i0 (.int .i64 0) 1 8 Tryd.underlying27 hi hz0 hz1 hz2 rfl (by decide) (.slice (some ⟨gE, 0, none⟩) 0 0) 0 [] (by rfl) (own_nil nE hgB) wd.heap.size Qa _ qc (ints zs) (by rfl) hQ (by rw [ints_length]; omega) (by intro u hu; obtain ⟨x, _, rfl⟩ := List.mem_map.1 hu; rfl) (by unfold maxLen; omega) (by omega) D8.size ?_
                intro v5 wd hown hg hat
                have hpv : some pd.block ≠ v5.ownBlock := by
                  rcases hat with e | e
                  · rw [e]; intro e2; injection e2 with e2; exact pne e2
                  · rw [e]; intro e2; injection e2 with e2; omega
                replace hP := row_far_nil hP nE hg
                try replace hT := row_far_nil hT nE hg
                replace D8 := D8.grown hg D8.size (fun j hj => by have hj : gE = j := (by simpa [Value.ownBlock] using hj); omega)
                clear nE hQ hg hat pne plt
                refine hK.out _ _ (HKP.out _ D8) (fun hHeld => ?_)
                clear hK K
                try simp only [Act.put, List.getElem_toArray, List.getElem_cons_succ, List.getElem_cons_zero, List.setIfInBounds_toArray, List.set_cons_zero, List.set_cons_succ]
                refine wpAnyH_ready (rs := [8]) (by kernel_rfl) (by simp) (AllReadyH.cons (o := _) rfl (fun K hK => ?_) AllReadyH.nil)
                try simp only [Act.put, List.getElem_toArray, List.getElem_cons_succ, List.getElem_cons_zero, List.setIfInBounds_toArray, List.set_cons_zero, List.set_cons_succ]
                rw [if_pos (by rfl)]
                refine op_append_at _ _ _ 27 (by rfl) w8.heap.size 3 i0 (.int .i64 0) 1 8 Tryd.underlying27 hi hz0 hz1 hz2 rfl (by decide) v5 (0 + zs.length) ([] ++ ints zs) (by rfl) hown _ _ 1 1 (ints [t]) (by rfl) hT (by rfl) (by intro u hu; obtain ⟨x, _, rfl⟩ := List.mem_map.1 hu; rfl) (by unfold maxLen; omega) (by omega) D8.size ?_
                intro v8 we hown8 hg _
                replace hP := row_far_at hP hpv hg
                have D9 := D8.grown hg D8.size (fun j hj => (World.ownsRow.lt hown j hj).1)
                have o9 : OwnI we w8.heap.size v8 ys := by
                  rw [← HYS.out]
                  unfold OwnI
                  rw [show (zs ++ [t]).length = 0 + zs.length + 1 by simp, show ints (zs ++ [t]) = [] ++ ints zs ++ ints [t] by simp [ints]]
                  exact hown8
                obtain ⟨A8, c8, rfl, r8, -⟩ := o9.form
                clear hown hown8 hg o9 hT hpv D8
                refine hK.out _ _ (HKP.out _ D9) (fun hHeld => ?_)
                clear hK K
                try simp only [Act.put, List.getElem_toArray, List.getElem_cons_succ, List.getElem_cons_zero, List.setIfInBounds_toArray, List.set_cons_zero, List.set_cons_succ]
                refine wpAnyH_ready (rs := [9]) (by kernel_rfl) (by simp) (AllReadyH.cons (o := _) rfl (fun K hK => ?_) AllReadyH.nil)
                try simp only [Act.put, List.getElem_toArray, List.getElem_cons_succ, List.getElem_cons_zero, List.setIfInBounds_toArray, List.set_cons_zero, List.set_cons_succ]
                go_simp
                go_at_call 17
                refine (sameInts_ret (some pd) A8 pc c8 ys we _ _ hP r8 (by unfold maxLen; omega)).mono ?_
                rintro e wf ⟨rfl, d9⟩
                have DF := D9.trans (d9.mono D9.size)
                refine hK.out _ _ (HKP.out _ DF) (fun hHeld => ?_)
                clear hK K
                try simp only [Act.put, List.getElem_toArray, List.getElem_cons_succ, List.getElem_cons_zero, List.setIfInBounds_toArray, List.set_cons_zero, List.set_cons_succ]
                refine wpAnyH_take (i := 10) (oi := _) (v := ?_) rfl (by kernel_rfl) (by kernel_rfl) (by kernel_rfl) (fun _ _ _ h => h) (Or.inl ⟨by rfl, ?_⟩) hHeld ?_
                rotate_left
                · (intro w' hSw; (try dsimp only at hSw); go_simp <;> with_reducible rfl)
                try simp only [Act.put, List.getElem_toArray, List.getElem_cons_succ, List.getElem_cons_zero, List.setIfInBounds_toArray, List.set_cons_zero, List.set_cons_succ]
                refine wpAnyH_done (by kernel_rfl) ?_ _
                have DX := dx.trans (DF.mono dx.size)
                clear hHeld hP r8 d9 D9
                go_wp2
                go_ret
                exact .mk_ (bw.trans (DX.mono bw.size))
            · skip
              try simp only [Act.put, List.getElem_toArray, List.getElem_cons_succ, List.getElem_cons_zero, List.setIfInBounds_toArray, List.set_cons_zero, List.set_cons_succ]
              go_simp
              have al9 := (Below.refl wd.heap.size wd).alloc (Nat.le_refl _) (.cells #[.int .i64 t] 3)
              have hT' := row_single wd 3 t
              obtain ⟨gT, hgT⟩ : ∃ g, wd.heap.size = g := ⟨_, rfl⟩
              obtain ⟨wd, hV⟩ : ∃ y, wd.alloc (.cells #[.int .i64 t] 3) = y := ⟨_, rfl⟩
              rw [hV] at al9 hT' ⊢
              replace D8 := D8.trans ((al9).mono D8.size)
              try replace hP := rowJ_on hP al9
              try replace hQ := rowJ_on hQ al9
              try replace hT := rowJ_on hT al9
              try replace nE := ((al9).block _ (blk_lt nE)).trans nE
              try replace hown := own_below hown al9 (Nat.le_refl _)
              have hT := hT'
              rw [hgT] at hT ⊢
              clear al9 hT' hgT hV
              refine hK.out _ _ (HKP.out _ D8) (fun hHeld => ?_)
              clear hK K
              try simp only [Act.put, List.getElem_toArray, List.getElem_cons_succ, List.getElem_cons_zero, List.setIfInBounds_toArray, List.set_cons_zero, List.set_cons_succ]
              refine wpAnyH_ready (rs := [4]) (by kernel_rfl) (by simp) (AllReadyH.cons (o := _) rfl (fun K hK => ?_) AllReadyH.nil)
              try simp only [Act.put, List.getElem_toArray, List.getElem_cons_succ, List.getElem_cons_zero, List.setIfInBounds_toArray, List.set_cons_zero, List.set_cons_succ]
              go_simp
              go_at_call 15
              refine (C1.out _ _ (dx.trans (D8.mono dx.size)) (HS1.out _ (dx.trans (D8.mono dx.size)))).mono ?_
              rintro e wd ⟨Qa, qc, rfl, o9, d9⟩
              replace D8 := D8.trans ((d9).mono D8.size)
              try replace hP := rowJ_on hP d9
              try replace hQ := rowJ_on hQ d9
              try replace hT := rowJ_on hT d9
              try replace nE := ((d9).block _ (blk_lt nE)).trans nE
              try replace hown := own_below hown d9 (Nat.le_refl _)
              have hQ := o9.row
              clear o9 d9
              refine hK.out _ _ (HKP.out _ D8) (fun hHeld => ?_)
              clear hK K
              try simp only [Act.put, List.getElem_toArray, List.getElem_cons_succ, List.getElem_cons_zero, List.setIfInBounds_toArray, List.set_cons_zero, List.set_cons_succ]
              refine wpAnyH_ready (rs := [5]) (by kernel_rfl) (by simp) (AllReadyH.cons (o := _) rfl (fun K hK => ?_) AllReadyH.nil)
              try simp only [Act.put, List.getElem_toArray, List.getElem_cons_succ, List.getElem_cons_zero, List.setIfInBounds_toArray, List.set_cons_zero, List.set_cons_succ]
              rw [if_pos (by rfl)]
              obtain ⟨pd, rfl, pne, plt⟩ := row_apart hP HYN.out nE
              refine op_append_at _ _ _ 27 (by rfl) w8.heap.size 3 i0 (.int .i64 0) 1 8 Tryd.underlying27 hi hz0 hz1 hz2 rfl (by decide) (.slice (some ⟨gE, 0, none⟩) 0 0) 0 [] (by rfl) (own_nil nE hgB) wd.heap.size Qa _ qc (ints zs) (by rfl) hQ (by rw [ints_length]; omega) (by intro u hu; obtain ⟨x, _, rfl⟩ := List.mem_map.1 hu; rfl) (by unfold maxLen; omega) (by omega) D8.size ?_
              intro v5 wd hown hg hat
              have hpv : some pd.block ≠ v5.ownBlock := by
                rcases hat with e | e
                · rw [e]; intro e2; injection e2 with e2; exact pne e2
                · rw [e]; intro e2; injection e2 with e2; omega
              replace hP := row_far_nil hP nE hg
              try replace hT := row_far_nil hT nE hg
              replace D8 := D8.grown hg D8.size (fun j hj => by have hj : gE = j := (by simpa [Value.ownBlock] using hj); omega)
              clear nE hQ hg hat pne plt
              refine hK.out _ _ (HKP.out _ D8) (fun hHeld => ?_)
              clear hK K
              try simp only [Act.put, List.getElem_toArray, List.getElem_cons_succ, List.getElem_cons_zero, List.setIfInBounds_toArray, List.set_cons_zero, List.set_cons_succ]
              refine wpAnyH_ready (rs := [8]) (by kernel_rfl) (by simp) (AllReadyH.cons (o := _) rfl (fun K hK => ?_) AllReadyH.nil)
              try simp only [Act.put, List.getElem_toArray, List.getElem_cons_succ, List.getElem_cons_zero, List.setIfInBounds_toArray, List.set_cons_zero, List.set_cons_succ]
              rw [if_pos (by rfl)]
              refine op_append_at _ _ _ 27 (by rfl) w8.heap.size 3 i0 (.int .i64 0) 1 8 Tryd.underlying27 hi hz0 hz1 hz2 rfl (by decide) v5 (0 + zs.length) ([] ++ ints zs) (by rfl) hown _ _ 1 1 (ints [t]) (by rfl) hT (by rfl) (by intro u hu; obtain ⟨x, _, rfl⟩ := List.mem_map.1 hu; rfl) (by unfold maxLen; omega) (by omega) D8.size ?_
              intro v8 we hown8 hg _
              replace hP := row_far_at hP hpv hg
              have D9 := D8.grown hg D8.size (fun j hj => (World.ownsRow.lt hown j hj).1)
              have o9 : OwnI we w8.heap.size v8 ys := by
                rw [← HYS.out]
                unfold OwnI
                rw [show (zs ++ [t]).length = 0 + zs.length + 1 by simp, show ints (zs ++ [t]) = [] ++ ints zs ++ ints [t] by simp [ints]]
                exact hown8
              obtain ⟨A8, c8, rfl, r8, -⟩ := o9.form
              clear hown hown8 hg o9 hT hpv D8
              refine hK.out _ _ (HKP.out _ D9) (fun hHeld => ?_)
              clear hK K
              try simp only [Act.put, List.getElem_toArray, List.getElem_cons_succ, List.getElem_cons_zero, List.setIfInBounds_toArray, List.set_cons_zero, List.set_cons_succ]
              refine wpAnyH_ready (rs := [9]) (by kernel_rfl) (by simp) (AllReadyH.cons (o := _) rfl (fun K hK => ?_) AllReadyH.nil)
              try simp only [Act.put, List.getElem_toArray, List.getElem_cons_succ, List.getElem_cons_zero, List.setIfInBounds_toArray, List.set_cons_zero, List.set_cons_succ]
              go_simp
              go_at_call 17
              refine (sameInts_ret (some pd) A8 pc c8 ys we _ _ hP r8 (by unfold maxLen; omega)).mono ?_
              rintro e wf ⟨rfl, d9⟩
              have DF := D9.trans (d9.mono D9.size)
              refine hK.out _ _ (HKP.out _ DF) (fun hHeld => ?_)
              clear hK K
              try simp only [Act.put, List.getElem_toArray, List.getElem_cons_succ, List.getElem_cons_zero, List.setIfInBounds_toArray, List.set_cons_zero, List.set_cons_succ]
              refine wpAnyH_take (i := 10) (oi := _) (v := ?_) rfl (by kernel_rfl) (by kernel_rfl) (by kernel_rfl) (fun _ _ _ h => h) (Or.inl ⟨by rfl, ?_⟩) hHeld ?_
              rotate_left
              · (intro w' hSw; (try dsimp only at hSw); go_simp <;> with_reducible rfl)
              try simp only [Act.put, List.getElem_toArray, List.getElem_cons_succ, List.getElem_cons_zero, List.setIfInBounds_toArray, List.set_cons_zero, List.set_cons_succ]
              refine wpAnyH_done (by kernel_rfl) ?_ _
              have DX := dx.trans (DF.mono dx.size)
              clear hHeld hP r8 d9 D9
              go_wp2
              go_ret
              exact .mk_ (bw.trans (DX.mono bw.size))
          · skip
            try simp only [Act.put, List.getElem_toArray, List.getElem_cons_succ, List.getElem_cons_zero, List.setIfInBounds_toArray, List.set_cons_zero, List.set_cons_succ]
            go_simp
            have al9 := (Below.refl wd.heap.size wd).alloc (Nat.le_refl _) (.cells #[.int .i64 t] 3)
            have hT' := row_single wd 3 t
            obtain ⟨gT, hgT⟩ : ∃ g, wd.heap.size = g := ⟨_, rfl⟩
            obtain ⟨wd, hV⟩ : ∃ y, wd.alloc (.cells #[.int .i64 t] 3) = y := ⟨_, rfl⟩
            rw [hV] at al9 hT' ⊢
            replace D8 := D8.trans ((al9).mono D8.size)
            try replace hP := rowJ_on hP al9
            try replace hQ := rowJ_on hQ al9
            try replace hT := rowJ_on hT al9
            try replace nE := ((al9).block _ (blk_lt nE)).trans nE
            try replace hown := own_below hown al9 (Nat.le_refl _)
            have hT := hT'
            rw [hgT] at hT ⊢
            clear al9 hT' hgT hV
            refine hK.out _ _ (HKP.out _ D8) (fun hHeld => ?_)
            clear hK K
            try simp only [Act.put, List.getElem_toArray, List.getElem_cons_succ, List.getElem_cons_zero, List.setIfInBounds_toArray, List.set_cons_zero, List.set_cons_succ]
            refine wpAnyH_ready (rs := [1]) (by kernel_rfl) (by simp) (AllReadyH.cons (o := _) rfl (fun K hK => ?_) AllReadyH.nil)
            try simp only [Act.put, List.getElem_toArray, List.getElem_cons_succ, List.getElem_cons_zero, List.setIfInBounds_toArray, List.set_cons_zero, List.set_cons_succ]
            go_simp
            go_at_call 15
            refine (C2.out _ _ (dx.trans (D8.mono dx.size)) (HS2.out _ (dx.trans (D8.mono dx.size)))).mono ?_
            rintro e wd ⟨Pa, pc, rfl, o9, d9⟩
            replace D8 := D8.trans ((d9).mono D8.size)
            try replace hP := rowJ_on hP d9
            try replace hQ := rowJ_on hQ d9
            try replace hT := rowJ_on hT d9
            try replace nE := ((d9).block _ (blk_lt nE)).trans nE
            try replace hown := own_below hown d9 (Nat.le_refl _)
            have hP := o9.row
            clear o9 d9
            refine hK.out _ _ (HKP.out _ D8) (fun hHeld => ?_)
            clear hK K
            try simp only [Act.put, List.getElem_toArray, List.getElem_cons_succ, List.getElem_cons_zero, List.setIfInBounds_toArray, List.set_cons_zero, List.set_cons_succ]
            refine wpAnyH_ready (rs := [4]) (by kernel_rfl) (by simp) (AllReadyH.cons (o := _) rfl (fun K hK => ?_) AllReadyH.nil)
            try simp only [Act.put, List.getElem_toArray, List.getElem_cons_succ, List.getElem_cons_zero, List.setIfInBounds_toArray, List.set_cons_zero, List.set_cons_succ]
            go_simp
            go_at_call 15
            refine (C1.out _ _ (dx.trans (D8.mono dx.size)) (HS1.out _ (dx.trans (D8.mono dx.size)))).mono ?_
            rintro e wd ⟨Qa, qc, rfl, o9, d9⟩
            replace D8 := D8.trans ((d9).mono D8.size)
            try replace hP := rowJ_on hP d9
            try replace hQ := rowJ_on hQ d9
            try replace hT := rowJ_on hT d9
            try replace nE := ((d9).block _ (blk_lt nE)).trans nE
            try replace hown := own_below hown d9 (Nat.le_refl _)
            have hQ := o9.row
            clear o9 d9
            refine hK.out _ _ (HKP.out _ D8) (fun hHeld => ?_)
            clear hK K
            try simp only [Act.put, List.getElem_toArray, List.getElem_cons_succ, List.getElem_cons_zero, List.setIfInBounds_toArray, List.set_cons_zero, List.set_cons_succ]
            refine wpAnyH_ready (rs := [5]) (by kernel_rfl) (by simp) (AllReadyH.cons (o := _) rfl (fun K hK => ?_) AllReadyH.nil)
            try simp only [Act.put, List.getElem_toArray, List.getElem_cons_succ, List.getElem_cons_zero, List.setIfInBounds_toArray, List.set_cons_zero, List.set_cons_succ]
            rw [if_pos (by rfl)]
            obtain ⟨pd, rfl, pne, plt⟩ := row_apart hP HYN.out nE
            refine op_append_at _ _ _ 27 (by rfl) w8.heap.size 3 i0 (.int .i64 0) 1 8 Tryd.underlying27 hi hz0 hz1 hz2 rfl (by decide) (.slice (some ⟨gE, 0, none⟩) 0 0) 0 [] (by rfl) (own_nil nE hgB) wd.heap.size Qa _ qc (ints zs) (by rfl) hQ (by rw [ints_length]; omega) (by intro u hu; obtain ⟨x, _, rfl⟩ := List.mem_map.1 hu; rfl) (by unfold maxLen; omega) (by omega) D8.size ?_
            intro v5 wd hown hg hat
            have hpv : some pd.block ≠ v5.ownBlock := by
              rcases hat with e | e
              · rw [e]; intro e2; injection e2 with e2; exact pne e2
              · rw [e]; intro e2; injection e2 with e2; omega
            replace hP := row_far_nil hP nE hg
            try replace hT := row_far_nil hT nE hg
            replace D8 := D8.grown hg D8.size (fun j hj => by have hj : gE = j := (by simpa [Value.ownBlock] using hj); omega)
            clear nE hQ hg hat pne plt
            refine hK.out _ _ (HKP.out _ D8) (fun hHeld => ?_)
            clear hK K
            try simp only [Act.put, List.getElem_toArray, List.getElem_cons_succ, List.getElem_cons_zero, List.setIfInBounds_toArray, List.set_cons_zero, List.set_cons_succ]
            refine wpAnyH_ready (rs := [8]) (by kernel_rfl) (by simp) (AllReadyH.cons (o := _) rfl (fun K hK => ?_) AllReadyH.nil)
            try simp only [Act.put, List.getElem_toArray, List.getElem_cons_succ, List.getElem_cons_zero, List.setIfInBounds_toArray, List.set_cons_zero, List.set_cons_succ]
            rw [if_pos (by rfl)]
            refine op_append_at _ _ _ 27 (by rfl) w8.heap.size 3 i0 (.int .i64 0) 1 8 Tryd.underlying27 hi hz0 hz1 hz2 rfl (by decide) v5 (0 + zs.length) ([] ++ ints zs) (by rfl) hown _ _ 1 1 (ints [t]) (by rfl) hT (by rfl) (by intro u hu; obtain ⟨x, _, rfl⟩ := List.mem_map.1 hu; rfl) (by unfold maxLen; omega) (by omega) D8.size ?_
            intro v8 we hown8 hg _
            replace hP := row_far_at hP hpv hg
            have D9 := D8.grown hg D8.size (fun j hj => (World.ownsRow.lt hown j hj).1)
            have o9 : OwnI we w8.heap.size v8 ys := by
              rw [← HYS.out]
              unfold OwnI
              rw [show (zs ++ [t]).length = 0 + zs.length + 1 by simp, show ints (zs ++ [t]) = [] ++ ints zs ++ ints [t] by simp [ints]]
              exact hown8
            obtain ⟨A8, c8, rfl, r8, -⟩ := o9.form
            clear hown hown8 hg o9 hT hpv D8
            refine hK.out _ _ (HKP.out _ D9) (fun hHeld => ?_)
            clear hK K
            try simp only [Act.put, List.getElem_toArray, List.getElem_cons_succ, List.getElem_cons_zero, List.setIfInBounds_toArray, List.set_cons_zero, List.set_cons_succ]
            refine wpAnyH_ready (rs := [9]) (by kernel_rfl) (by simp) (AllReadyH.cons (o := _) rfl (fun K hK => ?_) AllReadyH.nil)
            try simp only [Act.put, List.getElem_toArray, List.getElem_cons_succ, List.getElem_cons_zero, List.setIfInBounds_toArray, List.set_cons_zero, List.set_cons_succ]
            go_simp
            go_at_call 17
            refine (sameInts_ret (some pd) A8 pc c8 ys we _ _ hP r8 (by unfold maxLen; omega)).mono ?_
            rintro e wf ⟨rfl, d9⟩
            have DF := D9.trans (d9.mono D9.size)
            refine hK.out _ _ (HKP.out _ DF) (fun hHeld => ?_)
            clear hK K
            try simp only [Act.put, List.getElem_toArray, List.getElem_cons_succ, List.getElem_cons_zero, List.setIfInBounds_toArray, List.set_cons_zero, List.set_cons_succ]
            refine wpAnyH_take (i := 10) (oi := _) (v := ?_) rfl (by kernel_rfl) (by kernel_rfl) (by kernel_rfl) (fun _ _ _ h => h) (Or.inl ⟨by rfl, ?_⟩) hHeld ?_
            rotate_left
            · (intro w' hSw; (try dsimp only at hSw); go_simp <;> with_reducible rfl)
            try simp only [Act.put, List.getElem_toArray, List.getElem_cons_succ, List.getElem_cons_zero, List.setIfInBounds_toArray, List.set_cons_zero, List.set_cons_succ]
            refine wpAnyH_done (by kernel_rfl) ?_ _
            have DX := dx.trans (DF.mono dx.size)
            clear hHeld hP r8 d9 D9
            go_wp2
            go_ret
            exact .mk_ (bw.trans (DX.mono bw.size))
        · skip
          try simp only [Act.put, List.getElem_toArray, List.getElem_cons_succ, List.getElem_cons_zero, List.setIfInBounds_toArray, List.set_cons_zero, List.set_cons_succ]
          go_simp
          have al9 := (Below.refl wd.heap.size wd).alloc (Nat.le_refl _) (.cells #[.int .i64 t] 3)
          have hT' := row_single wd 3 t
          obtain ⟨gT, hgT⟩ : ∃ g, wd.heap.size = g := ⟨_, rfl⟩
          obtain ⟨wd, hV⟩ : ∃ y, wd.alloc (.cells #[.int .i64 t] 3) = y := ⟨_, rfl⟩
          rw [hV] at al9 hT' ⊢
          replace D8 := D8.trans ((al9).mono D8.size)
          try replace hP := rowJ_on hP al9
          try replace hQ := rowJ_on hQ al9
          try replace hT := rowJ_on hT al9
          try replace nE := ((al9).block _ (blk_lt nE)).trans nE
          try replace hown := own_below hown al9 (Nat.le_refl _)
          have hT := hT'
          rw [hgT] at hT ⊢
          clear al9 hT' hgT hV
          refine hK.out _ _ (HKP.out _ D8) (fun hHeld => ?_)
          clear hK K
          try simp only [Act.put, List.getElem_toArray, List.getElem_cons_succ, List.getElem_cons_zero, List.setIfInBounds_toArray, List.set_cons_zero, List.set_cons_succ]
          refine wpAnyH_ready (rs := [1, 2]) (by kernel_rfl) (by simp) (AllReadyH.cons (o := _) rfl (fun K hK => ?_) (AllReadyH.cons (o := _) rfl (fun K hK => ?_) AllReadyH.nil))
          · skip
            try simp only [Act.put, List.getElem_toArray, List.getElem_cons_succ, List.getElem_cons_zero, List.setIfInBounds_toArray, List.set_cons_zero, List.set_cons_succ]
            go_simp
            go_at_call 15
            refine (C2.out _ _ (dx.trans (D8.mono dx.size)) (HS2.out _ (dx.trans (D8.mono dx.size)))).mono ?_
            rintro e wd ⟨Pa, pc, rfl, o9, d9⟩
            replace D8 := D8.trans ((d9).mono D8.size)
            try replace hP := rowJ_on hP d9
            try replace hQ := rowJ_on hQ d9
            try replace hT := rowJ_on hT d9
            try replace nE := ((d9).block _ (blk_lt nE)).trans nE
            try replace hown := own_below hown d9 (Nat.le_refl _)
            have hP := o9.row
            clear o9 d9
            refine hK.out _ _ (HKP.out _ D8) (fun hHeld => ?_)
            clear hK K
            try simp only [Act.put, List.getElem_toArray, List.getElem_cons_succ, List.getElem_cons_zero, List.setIfInBounds_toArray, List.set_cons_zero, List.set_cons_succ]
            refine wpAnyH_ready (rs := [2, 4]) (by kernel_rfl) (by simp) (AllReadyH.cons (o := _) rfl (fun K hK => ?_) (AllReadyH.cons (o := _) rfl (fun K hK => ?_) AllReadyH.nil))
            · skip
              try simp only [Act.put, List.getElem_toArray, List.getElem_cons_succ, List.getElem_cons_zero, List.setIfInBounds_toArray, List.set_cons_zero, List.set_cons_succ]
              go_simp
              have al9 := (Below.refl wd.heap.size wd).alloc (Nat.le_refl _) (.cells #[] 3)
              have nE' := heap_alloc_new wd (.cells #[] 3)
              have hgB' := D8.size
              obtain ⟨gE, hgE⟩ : ∃ g, wd.heap.size = g := ⟨_, rfl⟩
              obtain ⟨wd, hV⟩ : ∃ y, wd.alloc (.cells #[] 3) = y := ⟨_, rfl⟩
              rw [hV] at al9 nE' ⊢
              replace D8 := D8.trans ((al9).mono D8.size)
              try replace hP := rowJ_on hP al9
              try replace hQ := rowJ_on hQ al9
              try replace hT := rowJ_on hT al9
              try replace nE := ((al9).block _ (blk_lt nE)).trans nE
              try replace hown := own_below hown al9 (Nat.le_refl _)
              have nE := nE'
              have hgB : w8.heap.size ≤ gE := by omega
              rw [hgE] at nE ⊢
              clear al9 nE' hgE hgB' hV
              refine hK.out _ _ (HKP.out _ D8) (fun hHeld => ?_)
              clear hK K
              try simp only [Act.put, List.getElem_toArray, List.getElem_cons_succ, List.getElem_cons_zero, List.setIfInBounds_toArray, List.set_cons_zero, List.set_cons_succ]
              refine wpAnyH_ready (rs := [4]) (by kernel_rfl) (by simp) (AllReadyH.cons (o := _) rfl (fun K hK => ?_) AllReadyH.nil)
              try simp only [Act.put, List.getElem_toArray, List.getElem_cons_succ, List.getElem_cons_zero, List.setIfInBounds_toArray, List.set_cons_zero, List.set_cons_succ]
              go_simp
              go_at_call 15
              refine (C1.out _ _ (dx.trans (D8.mono dx.size)) (HS1.out _ (dx.trans (D8.mono dx.size)))).mono ?_
              rintro e wd ⟨Qa, qc, rfl, o9, d9⟩
              replace D8 := D8.trans ((d9).mono D8.size)
              try replace hP := rowJ_on hP d9
              try replace hQ := rowJ_on hQ d9
              try replace hT := rowJ_on hT d9
              try replace nE := ((d9).block _ (blk_lt nE)).trans nE
              try replace hown := own_below hown d9 (Nat.le_refl _)
              have hQ := o9.row
              clear o9 d9
              refine hK.out _ _ (HKP.out _ D8) (fun hHeld => ?_)
              clear hK K
              try simp only [Act.put, List.getElem_toArray, List.getElem_cons_succ, List.getElem_cons_zero, List.setIfInBounds_toArray, List.set_cons_zero, List.set_cons_succ]
              refine wpAnyH_ready (rs := [5]) (by kernel_rfl) (by simp) (AllReadyH.cons (o := _) rfl (fun K hK => ?_) AllReadyH.nil)
              try simp only [Act.put, List.getElem_toArray, List.getElem_cons_succ, List.getElem_cons_zero, List.setIfInBounds_toArray, List.set_cons_zero, List.set_cons_succ]
              rw [if_pos (by rfl)]
              obtain ⟨pd, rfl, pne, plt⟩ := row_apart hP HYN.out nE
              refine op_append_at _ _ _ 27 (by rfl) w8.heap.size 3 i0 (.int .i64 0) 1 8 Tryd.underlying27 hi hz0 hz1 hz2 rfl (by decide) (.slice (some ⟨gE, 0, none⟩) 0 0) 0 [] (by rfl) (own_nil nE hgB) wd.heap.size Qa _ qc (ints zs) (by rfl) hQ (by rw [ints_length]; omega) (by intro u hu; obtain ⟨x, _, rfl⟩ := List.mem_map.1 hu; rfl) (by unfold maxLen; omega) (by omega) D8.size ?_
              intro v5 wd hown hg hat
              have hpv : some pd.block ≠ v5.ownBlock := by
                rcases hat with e | e
                · rw [e]; intro e2; injection e2 with e2; exact pne e2
                · rw [e]; intro e2; injection e2 with e2; omega
              replace hP := row_far_nil hP nE hg
              try replace hT := row_far_nil hT nE hg
              replace D8 := D8.grown hg D8.size (fun j hj => by have hj : gE = j := (by simpa [Value.ownBlock] using hj); omega)
              clear nE hQ hg hat pne plt
              refine hK.out _ _ (HKP.out _ D8) (fun hHeld => ?_)
              clear hK K
              try simp only [Act.put, List.getElem_toArray, List.getElem_cons_succ, List.getElem_cons_zero, List.setIfInBounds_toArray, List.set_cons_zero, List.set_cons_succ]
              refine wpAnyH_ready (rs := [8]) (by kernel_rfl) (by simp) (AllReadyH.cons (o := _) rfl (fun K hK => ?_) AllReadyH.nil)
              try simp only [Act.put, List.getElem_toArray, List.getElem_cons_succ, List.getElem_cons_zero, List.setIfInBounds_toArray, List.set_cons_zero, List.set_cons_succ]
              rw [if_pos (by rfl)]
              refine op_append_at _ _ _ 27 (by rfl) w8.heap.size 3 i0 (.int .i64 0) 1 8 Tryd.underlying27 hi hz0 hz1 hz2 rfl (by decide) v5 (0 + zs.length) ([] ++ ints zs) (by rfl) hown _ _ 1 1 (ints [t]) (by rfl) hT (by rfl) (by intro u hu; obtain ⟨x, _, rfl⟩ := List.mem_map.1 hu; rfl) (by unfold maxLen; omega) (by omega) D8.size ?_
              intro v8 we hown8 hg _
              replace hP := row_far_at hP hpv hg
              have D9 := D8.grown hg D8.size (fun j hj => (World.ownsRow.lt hown j hj).1)
              have o9 : OwnI we w8.heap.size v8 ys := by
                rw [← HYS.out]
                unfold OwnI
                rw [show (zs ++ [t]).length = 0 + zs.length + 1 by simp, show ints (zs ++ [t]) = [] ++ ints zs ++ ints [t] by simp [ints]]
                exact hown8
              obtain ⟨A8, c8, rfl, r8, -⟩ := o9.form
              clear hown hown8 hg o9 hT hpv D8
              refine hK.out _ _ (HKP.out _ D9) (fun hHeld => ?_)
              clear hK K
              try simp only [Act.put, List.getElem_toArray, List.getElem_cons_succ, List.getElem_cons_zero, List.setIfInBounds_toArray, List.set_cons_zero, List.set_cons_succ]
              refine wpAnyH_ready (rs := [9]) (by kernel_rfl) (by simp) (AllReadyH.cons (o := _) rfl (fun K hK => ?_) AllReadyH.nil)
              try simp only [Act.put, List.getElem_toArray, List.getElem_cons_succ, List.getElem_cons_zero, List.setIfInBounds_toArray, List.set_cons_zero, List.set_cons_succ]
              go_simp
              go_at_call 17
              refine (sameInts_ret (some pd) A8 pc c8 ys we _ _ hP r8 (by unfold maxLen; omega)).mono ?_
              rintro e wf ⟨rfl, d9⟩
              have DF := D9.trans (d9.mono D9.size)
              refine hK.out _ _ (HKP.out _ DF) (fun hHeld => ?_)
              clear hK K
              try simp only [Act.put, List.getElem_toArray, List.getElem_cons_succ, List.getElem_cons_zero, List.setIfInBounds_toArray, List.set_cons_zero, List.set_cons_succ]
              refine wpAnyH_take (i := 10) (oi := _) (v := ?_) rfl (by kernel_rfl) (by kernel_rfl) (by kernel_rfl) (fun _ _ _ h => h) (Or.inl ⟨by rfl, ?_⟩) hHeld ?_
              rotate_left
              · (intro w' hSw; (try dsimp only at hSw); go_simp <;> with_reducible rfl)
              try simp only [Act.put, List.getElem_toArray, List.getElem_cons_succ, List.getElem_cons_zero, List.setIfInBounds_toArray, List.set_cons_zero, List.set_cons_succ]
              refine wpAnyH_done (by kernel_rfl) ?_ _
              have DX := dx.trans (DF.mono dx.size)
              clear hHeld hP r8 d9 D9
              go_wp2
              go_ret
              exact .mk_ (bw.trans (DX.mono bw.size))
            · skip
              try simp only [Act.put, List.getElem_toArray, List.getElem_cons_succ, List.getElem_cons_zero, List.setIfInBounds_toArray, List.set_cons_zero, List.set_cons_succ]
              go_simp
              go_at_call 15
              refine (C1.out _ _ (dx.trans (D8.mono dx.size)) (HS1.out _ (dx.trans (D8.mono dx.size)))).mono ?_
              rintro e wd ⟨Qa, qc, rfl, o9, d9⟩
              replace D8 := D8.trans ((d9).mono D8.size)
              try replace hP := rowJ_on hP d9
              try replace hQ := rowJ_on hQ d9
              try replace hT := rowJ_on hT d9
              try replace nE := ((d9).block _ (blk_lt nE)).trans nE
              try replace hown := own_below hown d9 (Nat.le_refl _)
              have hQ := o9.row
              clear o9 d9
              refine hK.out _ _ (HKP.out _ D8) (fun hHeld => ?_)
              clear hK K
              try simp only [Act.put, List.getElem_toArray, List.getElem_cons_succ, List.getElem_cons_zero, List.setIfInBounds_toArray, List.set_cons_zero, List.set_cons_succ]
              refine wpAnyH_ready (rs := [2]) (by kernel_rfl) (by simp) (AllReadyH.cons (o := _) rfl (fun K hK => ?_) AllReadyH.nil)
              try simp only [Act.put, List.getElem_toArray, List.getElem_cons_succ, List.getElem_cons_zero, List.setIfInBounds_toArray, List.set_cons_zero, List.set_cons_succ]
              go_simp
              have al9 := (Below.refl wd.heap.size wd).alloc (Nat.le_refl _) (.cells #[] 3)
              have nE' := heap_alloc_new wd (.cells #[] 3)
              have hgB' := D8.size
              obtain ⟨gE, hgE⟩ : ∃ g, wd.heap.size = g := ⟨_, rfl⟩
              obtain ⟨wd, hV⟩ : ∃ y, wd.alloc (.cells #[] 3) = y := ⟨_, rfl⟩
              rw [hV] at al9 nE' ⊢
              replace D8 := D8.trans ((al9).mono D8.size)
              try replace hP := rowJ_on hP al9
              try replace hQ := rowJ_on hQ al9
              try replace hT := rowJ_on hT al9
              try replace nE := ((al9).block _ (blk_lt nE)).trans nE
              try replace hown := own_below hown al9 (Nat.le_refl _)
              have nE := nE'
              have hgB : w8.heap.size ≤ gE := by omega
              rw [hgE] at nE ⊢
              clear al9 nE' hgE hgB' hV
              refine hK.out _ _ (HKP.out _ D8) (fun hHeld => ?_)
              clear hK K
              try simp only [Act.put, List.getElem_toArray, List.getElem_cons_succ, List.getElem_cons_zero, List.setIfInBounds_toArray, List.set_cons_zero, List.set_cons_succ]
              refine wpAnyH_ready (rs := [5]) (by kernel_rfl) (by simp) (AllReadyH.cons (o := _) rfl (fun K hK => ?_) AllReadyH.nil)
              try simp only [Act.put, List.getElem_toArray, List.getElem_cons_succ, List.getElem_cons_zero, List.setIfInBounds_toArray, List.set_cons_zero, List.set_cons_succ]
              rw [if_pos (by rfl)]
              obtain ⟨pd, rfl, pne, plt⟩ := row_apart hP HYN.out nE
              refine op_append_at _ _ _ 27 (by rfl) w8.heap.size 3 i0 (.int .i64 0) 1 8 Tryd.underlying27 hi hz0 hz1 hz2 rfl (by decide) (.slice (some ⟨gE, 0, none⟩) 0 0) 0 [] (by rfl) (own_nil nE hgB) wd.heap.size Qa _ qc (ints zs) (by rfl) hQ (by rw [ints_length]; omega) (by intro u hu; obtain ⟨x, _, rfl⟩ := List.mem_map.1 hu; rfl) (by unfold maxLen; omega) (by omega) D8.size ?_
              intro v5 wd hown hg hat
              have hpv : some pd.block ≠ v5.ownBlock := by
                rcases hat with e | e
                · rw [e]; intro e2; injection e2 with e2; exact pne e2
                · rw [e]; intro e2; injection e2 with e2; omega
              replace hP := row_far_nil hP nE hg
              try replace hT := row_far_nil hT nE hg
              replace D8 := D8.grown hg D8.size (fun j hj => by have hj : gE = j := (by simpa [Value.ownBlock] using hj); omega)
              clear nE hQ hg hat pne plt
              refine hK.out _ _ (HKP.out _ D8) (fun hHeld => ?_)
              clear hK K
              try simp only [Act.put, List.getElem_toArray, List.getElem_cons_succ, List.getElem_cons_zero, List.setIfInBounds_toArray, List.set_cons_zero, List.set_cons_succ]
              refine wpAnyH_ready (rs := [8]) (by kernel_rfl) (by simp) (AllReadyH.cons (o := _) rfl (fun K hK => ?_) AllReadyH.nil)
              try simp only [Act.put, List.getElem_toArray, List.getElem_cons_succ, List.getElem_cons_zero, List.setIfInBounds_toArray, List.set_cons_zero, List.set_cons_succ]
              rw [if_pos (by rfl)]
              refine op_append_at _ _ _ 27 (by rfl) w8.heap.size 3 i0 (.int .i64 0) 1 8 Tryd.underlying27 hi hz0 hz1 hz2 rfl (by decide) v5 (0 + zs.length) ([] ++ ints zs) (by rfl) hown _ _ 1 1 (ints [t]) (by rfl) hT (by rfl) (by intro u hu; obtain ⟨x, _, rfl⟩ := List.mem_map.1 hu; rfl) (by unfold maxLen; omega) (by omega) D8.size ?_
              intro v8 we hown8 hg _
              replace hP := row_far_at hP hpv hg
              have D9 := D8.grown hg D8.size (fun j hj => (World.ownsRow.lt hown j hj).1)
              have o9 : OwnI we w8.heap.size v8 ys := by
                rw [← HYS.out]
                unfold OwnI
                rw [show (zs ++ [t]).length = 0 + zs.length + 1 by simp, show ints (zs ++ [t]) = [] ++ ints zs ++ ints [t] by simp [ints]]
                exact hown8
              obtain ⟨A8, c8, rfl, r8, -⟩ := o9.form
              clear hown hown8 hg o9 hT hpv D8
              refine hK.out _ _ (HKP.out _ D9) (fun hHeld => ?_)
              clear hK K
              try simp only [Act.put, List.getElem_toArray, List.getElem_cons_succ, List.getElem_cons_zero, List.setIfInBounds_toArray, List.set_cons_zero, List.set_cons_succ]
              refine wpAnyH_ready (rs := [9]) (by kernel_rfl) (by simp) (AllReadyH.cons (o := _) rfl (fun K hK => ?_) AllReadyH.nil)
              try simp only [Act.put, List.getElem_toArray, List.getElem_cons_succ, List.getElem_cons_zero, List.setIfInBounds_toArray, List.set_cons_zero, List.set_cons_succ]
              go_simp
              go_at_call 17
              refine (sameInts_ret (some pd) A8 pc c8 ys we _ _ hP r8 (by unfold maxLen; omega)).mono ?_
              rintro e wf ⟨rfl, d9⟩
              have DF := D9.trans (d9.mono D9.size)
              refine hK.out _ _ (HKP.out _ DF) (fun hHeld => ?_)
              clear hK K
              try simp only [Act.put, List.getElem_toArray, List.getElem_cons_succ, List.getElem_cons_zero, List.setIfInBounds_toArray, List.set_cons_zero, List.set_cons_succ]
              refine wpAnyH_take (i := 10) (oi := _) (v := ?_) rfl (by kernel_rfl) (by kernel_rfl) (by kernel_rfl) (fun _ _ _ h => h) (Or.inl ⟨by rfl, ?_⟩) hHeld ?_
              rotate_left
              · (intro w' hSw; (try dsimp only at hSw); go_simp <;> with_reducible rfl)
              try simp only [Act.put, List.getElem_toArray, List.getElem_cons_succ, List.getElem_cons_zero, List.setIfInBounds_toArray, List.set_cons_zero, List.set_cons_succ]
              refine wpAnyH_done (by kernel_rfl) ?_ _
              have DX := dx.trans (DF.mono dx.size)
              clear hHeld hP r8 d9 D9
              go_wp2
              go_ret
              exact .mk_ (bw.trans (DX.mono bw.size))
          · skip
            try simp only [Act.put, List.getElem_toArray, List.getElem_cons_succ, List.getElem_cons_zero, List.setIfInBounds_toArray, List.set_cons_zero, List.set_cons_succ]
            go_simp
            have al9 := (Below.refl wd.heap.size wd).alloc (Nat.le_refl _) (.cells #[] 3)
            have nE' := heap_alloc_new wd (.cells #[] 3)
            have hgB' := D8.size
            obtain ⟨gE, hgE⟩ : ∃ g, wd.heap.size = g := ⟨_, rfl⟩
            obtain ⟨wd, hV⟩ : ∃ y, wd.alloc (.cells #[] 3) = y := ⟨_, rfl⟩
            rw [hV] at al9 nE' ⊢
            replace D8 := D8.trans ((al9).mono D8.size)
            try replace hP := rowJ_on hP al9
            try replace hQ := rowJ_on hQ al9
            try replace hT := rowJ_on hT al9
            try replace nE := ((al9).block _ (blk_lt nE)).trans nE
            try replace hown := own_below hown al9 (Nat.le_refl _)
            have nE := nE'
            have hgB : w8.heap.size ≤ gE := by omega
            rw [hgE] at nE ⊢
            clear al9 nE' hgE hgB' hV
            refine hK.out _ _ (HKP.out _ D8) (fun hHeld => ?_)
            clear hK K
            try simp only [Act.put, List.getElem_toArray, List.getElem_cons_succ, List.getElem_cons_zero, List.setIfInBounds_toArray, List.set_cons_zero, List.set_cons_succ]
            refine wpAnyH_ready (rs := [1]) (by kernel_rfl) (by simp) (AllReadyH.cons (o := _) rfl (fun K hK => ?_) AllReadyH.nil)
            try simp only [Act.put, List.getElem_toArray, List.getElem_cons_succ, List.getElem_cons_zero, List.setIfInBounds_toArray, List.set_cons_zero, List.set_cons_succ]
            go_simp
            go_at_call 15
            refine (C2.out _ _ (dx.trans (D8.mono dx.size)) (HS2.out _ (dx.trans (D8.mono dx.size)))).mono ?_
            rintro e wd ⟨Pa, pc, rfl, o9, d9⟩
            replace D8 := D8.trans ((d9).mono D8.size)
            try replace hP := rowJ_on hP d9
            try replace hQ := rowJ_on hQ d9
            try replace hT := rowJ_on hT d9
            try replace nE := ((d9).block _ (blk_lt nE)).trans nE
            try replace hown := own_below hown d9 (Nat.le_refl _)
            have hP := o9.row
            clear o9 d9
            refine hK.out _ _ (HKP.out _ D8) (fun hHeld => ?_)
            clear hK K
            try simp only [Act.put, List.getElem_toArray, List.getElem_cons_succ, List.getElem_cons_zero, List.setIfInBounds_toArray, List.set_cons_zero, List.set_cons_succ]
            refine wpAnyH_ready (rs := [4]) (by kernel_rfl) (by simp) (AllReadyH.cons (o := _) rfl (fun K hK => ?_) AllReadyH.nil)
            try simp only [Act.put, List.getElem_toArray, List.getElem_cons_succ, List.getElem_cons_zero, List.setIfInBounds_toArray, List.set_cons_zero, List.set_cons_succ]
            go_simp
            go_at_call 15
            refine (C1.out _ _ (dx.trans (D8.mono dx.size)) (HS1.out _ (dx.trans (D8.mono dx.size)))).mono ?_
            rintro e wd ⟨Qa, qc, rfl, o9, d9⟩
            replace D8 := D8.trans ((d9).mono D8.size)
            try replace hP := rowJ_on hP d9
            try replace hQ := rowJ_on hQ d9
            try replace hT := rowJ_on hT d9
            try replace nE := ((d9).block _ (blk_lt nE)).trans nE
            try replace hown := own_below hown d9 (Nat.le_refl _)
            have hQ := o9.row
            clear o9 d9
            refine hK.out _ _ (HKP.out _ D8) (fun hHeld => ?_)
            clear hK K
            try simp only [Act.put, List.getElem_toArray, List.getElem_cons_succ, List.getElem_cons_zero, List.setIfInBounds_toArray, List.set_cons_zero, List.set_cons_succ]
            refine wpAnyH_ready (rs := [5]) (by kernel_rfl) (by simp) (AllReadyH.cons (o := _) rfl (fun K hK => ?_) AllReadyH.nil)
            try simp only [Act.put, List.getElem_toArray, List.getElem_cons_succ, List.getElem_cons_zero, List.setIfInBounds_toArray, List.set_cons_zero, List.set_cons_succ]
            rw [if_pos (by rfl)]
            obtain ⟨pd, rfl, pne, plt⟩ := row_apart hP HYN.out nE
            refine op_append_at _ _ _ 27 (by rfl) w8.heap.size 3 i0 (.int .i64 0) 1 8 Tryd.underlying27 hi hz0 hz1 hz2 rfl (by decide) (.slice (some ⟨gE, 0, none⟩) 0 0) 0 [] (by rfl) (own_nil nE hgB) wd.heap.size Qa _ qc (ints zs) (by rfl) hQ (by rw [ints_length]; omega) (by intro u hu; obtain ⟨x, _, rfl⟩ := List.mem_map.1 hu; rfl) (by unfold maxLen; omega) (by omega) D8.size ?_
            intro v5 wd hown hg hat
            have hpv : some pd.block ≠ v5.ownBlock := by
              rcases hat with e | e
              · rw [e]; intro e2; injection e2 with e2; exact pne e2
              · rw [e]; intro e2; injection e2 with e2; omega
            replace hP := row_far_nil hP nE hg
            try replace hT := row_far_nil hT nE hg
            replace D8 := D8.grown hg D8.size (fun j hj => by have hj : gE = j := (by simpa [Value.ownBlock] using hj); omega)
            clear nE hQ hg hat pne plt
            refine hK.out _ _ (HKP.out _ D8) (fun hHeld => ?_)
            clear hK K
            try simp only [Act.put, List.getElem_toArray, List.getElem_cons_succ, List.getElem_cons_zero, List.setIfInBounds_toArray, List.set_cons_zero, List.set_cons_succ]
            refine wpAnyH_ready (rs := [8]) (by kernel_rfl) (by simp) (AllReadyH.cons (o := _) rfl (fun K hK => ?_) AllReadyH.nil)
            try simp only [Act.put, List.getElem_toArray, List.getElem_cons_succ, List.getElem_cons_zero, List.setIfInBounds_toArray, List.set_cons_zero, List.set_cons_succ]
            rw [if_pos (by rfl)]
            refine op_append_at _ _ _ 27 (by rfl) w8.heap.size 3 i0 (.int .i64 0) 1 8 Tryd.underlying27 hi hz0 hz1 hz2 rfl (by decide) v5 (0 + zs.length) ([] ++ ints zs) (by rfl) hown _ _ 1 1 (ints [t]) (by rfl) hT (by rfl) (by intro u hu; obtain ⟨x, _, rfl⟩ := List.mem_map.1 hu; rfl) (by unfold maxLen; omega) (by omega) D8.size ?_
            intro v8 we hown8 hg _
            replace hP := row_far_at hP hpv hg
            have D9 := D8.grown hg D8.size (fun j hj => (World.ownsRow.lt hown j hj).1)
            have o9 : OwnI we w8.heap.size v8 ys := by
              rw [← HYS.out]
              unfold OwnI
              rw [show (zs ++ [t]).length = 0 + zs.length + 1 by simp, show ints (zs ++ [t]) = [] ++ ints zs ++ ints [t] by simp [ints]]
              exact hown8
            obtain ⟨A8, c8, rfl, r8, -⟩ := o9.form
            clear hown hown8 hg o9 hT hpv D8
            refine hK.out _ _ (HKP.out _ D9) (fun hHeld => ?_)
            clear hK K
            try simp only [Act.put, List.getElem_toArray, List.getElem_cons_succ, List.getElem_cons_zero, List.setIfInBounds_toArray, List.set_cons_zero, List.set_cons_succ]
            refine wpAnyH_ready (rs := [9]) (by kernel_rfl) (by simp) (AllReadyH.cons (o := _) rfl (fun K hK => ?_) AllReadyH.nil)
            try simp only [Act.put, List.getElem_toArray, List.getElem_cons_succ, List.getElem_cons_zero, List.setIfInBounds_toArray, List.set_cons_zero, List.set_cons_succ]
            go_simp
            go_at_call 17
            refine (sameInts_ret (some pd) A8 pc c8 ys we _ _ hP r8 (by unfold maxLen; omega)).mono ?_
            rintro e wf ⟨rfl, d9⟩
            have DF := D9.trans (d9.mono D9.size)
            refine hK.out _ _ (HKP.out _ DF) (fun hHeld => ?_)
            clear hK K
            try simp only [Act.put, List.getElem_toArray, List.getElem_cons_succ, List.getElem_cons_zero, List.setIfInBounds_toArray, List.set_cons_zero, List.set_cons_succ]
            refine wpAnyH_take (i := 10) (oi := _) (v := ?_) rfl (by kernel_rfl) (by kernel_rfl) (by kernel_rfl) (fun _ _ _ h => h) (Or.inl ⟨by rfl, ?_⟩) hHeld ?_
            rotate_left
            · (intro w' hSw; (try dsimp only at hSw); go_simp <;> with_reducible rfl)
            try simp only [Act.put, List.getElem_toArray, List.getElem_cons_succ, List.getElem_cons_zero, List.setIfInBounds_toArray, List.set_cons_zero, List.set_cons_succ]
            refine wpAnyH_done (by kernel_rfl) ?_ _
            have DX := dx.trans (DF.mono dx.size)
            clear hHeld hP r8 d9 D9
            go_wp2
            go_ret
            exact .mk_ (bw.trans (DX.mono bw.size))
      · have e1 : (z != 1) = true := by rw [bne_iff_ne]; exact h0
        clear h0
        go_wp2_with fail
        refine (sameShard_is _ _ xs _ (HS2.out _ dx) (HS3.out _ dx) (HSX.out.fit (by omega))).mono ?_
        rintro e w9 ⟨rfl, dn⟩
        replace dx := dx.trans ((dn).mono dx.size)
        clear y1 y2 y3 dn
        obtain ⟨y1, y2, y3⟩ := HF.out _ dx
        go_wp2
        go_ret
        exact .mk_ (bw.trans (dx.mono bw.size))
theorem FnCommittedAdd_any (A : Option Addr) (c : Nat) (bs : List Int) (w : World) (f1 : Row w w.heap.size A (bs.map (Value.int .u8))) (f2 : bs.length ≤ c) (f3 : c ≤ maxLen) (f4 : ∀ n ∈ bs, 0 ≤ n ∧ n < 256) (er0 er1 : Addr) (hE : Errs er0 er1 w) :
    Calls Tryd.prog 7 #[.slice A bs.length c] w (Ret (.bool true) w) := by
  by_cases hl : bs.length ≤ 1048576
  · exact FnCommittedAdd_yes A c bs w ⟨f1, f2, f3, f4⟩ hl er0 er1 hE
  · exact FnCommittedAdd_no A c bs w ⟨f1, f2, f3, f4⟩ hl
end Go.Proofs.YteeffchnbkkpfabDoor
