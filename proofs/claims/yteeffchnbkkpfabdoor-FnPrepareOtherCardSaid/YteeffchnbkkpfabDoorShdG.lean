/- The coordinator with the slices $SA and $SB is stored as the answer, with the word $BB. -/
/-
  Walks: votes and decisions of a shard, by the model.
-/
import Derived.Test.YteeffchnbkkpfabDoorShdF
namespace Go.Proofs.YteeffchnbkkpfabDoor
open Go.RowKit Wo Pu Rf Lk Sh

section
variable {rs xs : List Rec} {t : Int} {us : List Up} {b : Bool}
theorem Sh.Voted.bad_ (h : Voted rs t us xs b) (hn : ¬ (Vld rs ∧ TV t ∧ UV us)) : xs = [] ∧ b = false := by
  cases h with
  | bad _ => exact ⟨rfl, rfl⟩
  | known h1 h2 h3 _ => exact absurd ⟨h1, h2, h3⟩ hn
  | yes h1 h2 h3 _ _ => exact absurd ⟨h1, h2, h3⟩ hn
  | no h1 h2 h3 _ _ _ => exact absurd ⟨h1, h2, h3⟩ hn
  | full h1 h2 h3 _ _ => exact absurd ⟨h1, h2, h3⟩ hn
theorem Sh.Voted.known_ (h : Voted rs t us xs b) (h1 : Vld rs) (h2 : TV t) (h3 : UV us) (ha : Sh.ask rs t ≠ 0) : xs = rs ∧ b = (Sh.ask rs t == 1) := by
  cases h with
  | bad hn => exact absurd ⟨h1, h2, h3⟩ hn
  | known _ _ _ _ => exact ⟨rfl, rfl⟩
  | yes _ _ _ h4 _ => exact absurd h4 ha
  | no _ _ _ h4 _ _ => exact absurd h4 ha
  | full _ _ _ h4 _ => exact absurd h4 ha
theorem Sh.Voted.new_ (h : Voted rs t us xs b) (h1 : Vld rs) (h2 : TV t) (h3 : UV us) (ha : Sh.ask rs t = 0) :
    (Vld (rs ++ [⟨1, t, us⟩]) ∧ xs = rs ++ [⟨1, t, us⟩] ∧ b = true) ∨ (¬ Vld (rs ++ [⟨1, t, us⟩]) ∧ b = false ∧ ∃ b3 : Bool, (b3 = true ↔ Vld (rs ++ [⟨3, t, []⟩])) ∧ xs = if b3 then rs ++ [⟨3, t, []⟩] else rs) := by
  obtain ⟨⟨s, hs⟩, hl⟩ := id h1
  have ab := Vld.abort_iff hs h2
  cases h with
  | bad hn => exact absurd ⟨h1, h2, h3⟩ hn
  | known _ _ _ h4 => exact absurd ha h4
  | yes _ _ _ _ h5 => exact .inl ⟨h5, rfl, rfl⟩
  | no _ _ _ _ h5 h6 => exact .inr ⟨h5, rfl, true, ⟨fun _ => ab.2 ⟨h6, .inl ha⟩, fun _ => rfl⟩, rfl⟩
  | full _ _ _ _ h5 =>
    refine .inr ⟨fun e => h5 ((Vld.prepare_iff hs h2 us).1 e).1, rfl, false, ⟨fun e => (by cases e), fun e => absurd (ab.1 e).1 h5⟩, rfl⟩
theorem Sh.Decided.bad_ {k : Int} (h : Decided rs t k xs b) (hn : ¬ (Vld rs ∧ TV t)) : xs = [] ∧ b = false := by
  cases h with
  | bad _ => exact ⟨rfl, rfl⟩
  | known h1 h2 _ => exact absurd ⟨h1, h2⟩ hn
  | yes h1 h2 _ _ => exact absurd ⟨h1, h2⟩ hn
  | no h1 h2 _ _ => exact absurd ⟨h1, h2⟩ hn
theorem Sh.Decided.known_ {k : Int} (h : Decided rs t k xs b) (h1 : Vld rs) (h2 : TV t) (ha : Sh.ask rs t = k) : xs = rs ∧ b = true := by
  cases h with
  | bad hn => exact absurd ⟨h1, h2⟩ hn
  | known _ _ _ => exact ⟨rfl, rfl⟩
  | yes _ _ h4 _ => exact absurd ha h4
  | no _ _ h4 _ => exact absurd ha h4
theorem Sh.Decided.new_ {k : Int} (h : Decided rs t k xs b) (h1 : Vld rs) (h2 : TV t) (ha : Sh.ask rs t ≠ k) : (b = true ↔ Vld (rs ++ [⟨k, t, []⟩])) ∧ xs = if b then rs ++ [⟨k, t, []⟩] else rs := by
  cases h with
  | bad hn => exact absurd ⟨h1, h2⟩ hn
  | known _ _ h4 => exact absurd h4 ha
  | yes _ _ _ h5 => exact ⟨⟨fun _ => h5, fun _ => rfl⟩, rfl⟩
  | no _ _ _ h5 => exact ⟨⟨fun e => (by cases e), fun e => absurd e h5⟩, rfl⟩
end
/- What lies in the box of w5 is told. -/
/- The same shard is told, and whether it has voted for it. -/
set_option linter.unusedSimpArgs false in
set_option maxRecDepth 100000 in
set_option maxHeartbeats 8000000 in
theorem specShardPrepare_is (xs : List Rec) (b : Bool) (v : Value) (rs : List Rec) (t : Int) (A2 : Option Addr) (c2 : Nat) (us : List Up) (w : World) (h : Shd w w.heap.size v rs) (hf : FitR rs) (hu : Row w w.heap.size A2 (upsV us)) (hul : us.length ≤ 1048576) (hV : Voted rs t us xs b) :
    Calls Tryd.prog 23 #[v, .int .i64 t, .slice A2 us.length c2] w (NewShB xs b w) := by
  have HR := hid hV
  clear hV
  obtain ⟨vs, hvs⟩ := bool_ofP (Vld rs)
  obtain ⟨vt, hvt⟩ := bool_of (TV t)
  obtain ⟨vu, hvu⟩ := bool_of (UV us)
  have CV := hid (specShardValid_is vs · rs · · hf hvs)
  have CT : Hid (∀ x, Calls Tryd.prog 64 #[.int .i64 t] x (Same (.bool vt) x)) := fun x => l12Txn_is vt t x hvt
  have CU : Hid (∀ x, Row x x.heap.size A2 (upsV us) → Calls Tryd.prog 65 #[.slice A2 us.length c2] x (Ret (.bool vu) x)) := fun x hx => specUpdatesValid_is vu A2 c2 us x hx (by omega) hvu
  have HC := hid (l21Copy_any · rs · · hf)
  obtain ⟨A, c, rfl, h0, hc⟩ := h
  unfold shV at *
  have b0 := ((Below.refl w.heap.size w).alloc (Nat.le_refl _) (.cells #[.slice A rs.length c] 25)).alloc (by simp) (.cells #[.slice none 0 0] 25)
  have x0 := (Blk1.new_ w 25 (.slice A rs.length c)).alloc (.cells #[.slice none 0 0] 25)
  have x1 := Blk1.new_ (w.alloc (.cells #[.slice A rs.length c] 25)) 25 (.slice none 0 0)
  rw [World.size_alloc] at x1
  go_enter Tryd.func23, Tryd.ntmps23
  go_upto_region 1 with fail
  obtain ⟨w1, hw1⟩ : ∃ w1, (w.alloc (.cells #[.slice A rs.length c] 25)).alloc (.cells #[.slice none 0 0] 25) = w1 := ⟨_, rfl⟩
  rw [hw1] at b0 x0 x1 ⊢
  clear hw1
  obtain ⟨y0, -⟩ := id x0.reads
  have h1 := h0.on b0
  go_wp2_with fail
  refine (CV.out _ w1 ⟨A, c, rfl, h1, hc⟩).mono ?_
  rintro e w2 ⟨rfl, d2⟩
  replace x0 := x0.later d2
  replace x1 := x1.later d2
  replace b0 := b0.trans ((d2).mono b0.size)
  replace h1 := h0.on b0
  clear y0
  obtain ⟨y0, -⟩ := id x0.reads
  clear d2 CV
  cases vs with
  | false =>
    obtain ⟨rfl, rfl⟩ := HR.out.bad_ fun e => by have := hvs.2 e.1; cases this
    clear hvs hvt hvu CT CU HC
    obtain ⟨t0, tf⟩ := id x1.reads
    have tf0 := tf 0
    obtain ⟨p0, -⟩ := (x1.set0 (.slice none 0 0)).reads
    have b9 := b0.setCell (p := ⟨w.heap.size + 1, 0, none⟩) (Nat.le_succ _) (.slice none 0 0)
    have o9 := OwnSh.none_ (w2.setCell ⟨w.heap.size + 1, 0, none⟩ (.slice none 0 0)) w.heap.size
    clear tf
    go_wp2
    exact bodyPost_ret (v := .tuple #[.agg #[.slice none 0 0], .bool false]) (by simp [results, Tryd.results23, go_sem, p0]) rfl ⟨_, rfl, o9, b9⟩
  | true =>
    have HV := hid (hvs.1 rfl)
    clear hvs
    go_wp2_with fail
    refine (CT.out _).mono ?_
    rintro e w3 ⟨rfl, rfl⟩
    clear CT
    cases vt with
    | false =>
      obtain ⟨rfl, rfl⟩ := HR.out.bad_ fun e => by have := hvt.2 e.2.1; cases this
      clear hvt hvu CU HC
      obtain ⟨t0, tf⟩ := id x1.reads
      have tf0 := tf 0
      obtain ⟨p0, -⟩ := (x1.set0 (.slice none 0 0)).reads
      have b9 := b0.setCell (p := ⟨w.heap.size + 1, 0, none⟩) (Nat.le_succ _) (.slice none 0 0)
      have o9 := OwnSh.none_ (w2.setCell ⟨w.heap.size + 1, 0, none⟩ (.slice none 0 0)) w.heap.size
      clear tf
      go_wp2
      exact bodyPost_ret (v := .tuple #[.agg #[.slice none 0 0], .bool false]) (by simp [results, Tryd.results23, go_sem, p0]) rfl ⟨_, rfl, o9, b9⟩
    | true =>
      have HT := hid (hvt.1 rfl)
      clear hvt
      have hu2 := hu.below b0 (Nat.le_refl _)
      replace hu2 := hu2.more b0.size
      go_wp2_with fail
      refine (CU.out _ hu2).mono ?_
      rintro e w3 ⟨rfl, d3⟩
      replace x0 := x0.later d3
      replace x1 := x1.later d3
      replace b0 := b0.trans ((d3).mono b0.size)
      replace h1 := h0.on b0
      clear y0
      obtain ⟨y0, -⟩ := id x0.reads
      clear d3 CU hu2
      cases vu with
      | false =>
        obtain ⟨rfl, rfl⟩ := HR.out.bad_ fun e => by have := hvu.2 e.2.2; cases this
        clear hvu HC
        obtain ⟨t0, tf⟩ := id x1.reads
        have tf0 := tf 0
        obtain ⟨p0, -⟩ := (x1.set0 (.slice none 0 0)).reads
        have b9 := b0.setCell (p := ⟨w.heap.size + 1, 0, none⟩) (Nat.le_succ _) (.slice none 0 0)
        have o9 := OwnSh.none_ (w3.setCell ⟨w.heap.size + 1, 0, none⟩ (.slice none 0 0)) w.heap.size
        clear tf
        go_wp2
        exact bodyPost_ret (v := .tuple #[.agg #[.slice none 0 0], .bool false]) (by simp [results, Tryd.results23, go_sem, p0]) rfl ⟨_, rfl, o9, b9⟩
      | true =>
        have HU := hid (hvu.1 rfl)
        clear hvu
        obtain ⟨z, hz⟩ : ∃ z, Sh.ask rs t = z := ⟨_, rfl⟩
        have CA : Hid (∀ x, Recs x x.heap.size A rs → Calls Tryd.prog 66 #[.slice A rs.length c, .int .i64 t] x (Same (.int .i64 z) x)) := fun x hx => l21Ask_is z A c rs t x x.heap.size hx (by have := hf.1; omega) hz
        have HZ := hid hz
        clear hz
        go_wp2_with fail
        refine (CA.out _ h1).mono ?_
        rintro e w4 ⟨rfl, rfl⟩
        by_cases h9 : z = 0
        · subst h9
          obtain ⟨b1, hb1⟩ := bool_ofP (Vld (rs ++ [⟨1, t, us⟩]))
          obtain ⟨xs1, hx1⟩ : ∃ xs1, xs1 = if b1 then rs ++ [⟨1, t, us⟩] else rs := ⟨_, rfl⟩
          have hu3 := (hu.below b0 (Nat.le_refl _)).more b0.size
          have h30 : rs.length ≤ 30 := HV.out.2
          have CD := hid (l21Add_any b1 xs1 _ rs A2 c2 ⟨1, t, us⟩ w3 ⟨A, c, rfl, h1, hc⟩ h30 hf hu3 hul hb1 hx1)
          have HX1 := hid hx1
          have HB1 := hid hb1
          have HW := hid (HR.out.new_ HV.out HT.out HU.out HZ.out)
          clear hx1 hb1 CA HR hu3
          go_wp2_with fail
          refine CD.out.mono ?_
          rintro e w5 ⟨v5, rfl, o5, d5⟩
          have z3 := b0.size
          replace x0 := x0.later d5
          replace x1 := x1.later d5
          replace b0 := b0.trans ((d5).mono b0.size)
          replace h1 := h0.on b0
          clear y0
          obtain ⟨y0, -⟩ := id x0.reads
          obtain ⟨A5, c5, rfl, o5, hc5⟩ := o5
          unfold shV
          have al := (Below.refl w5.heap.size w5).alloc (Nat.le_refl _) (.cells #[.slice A5 xs1.length c5] 25)
          have x8 := Blk1.new_ w5 25 (.slice A5 xs1.length c5)
          replace o5 := (o5.base z3).below al
          go_upto_region 6 with fail
          obtain ⟨w6, hw6⟩ : ∃ w6, w5.alloc (.cells #[.slice A5 xs1.length c5] 25) = w6 := ⟨_, rfl⟩
          rw [hw6] at al x8 o5 ⊢
          clear hw6 d5 CD
          have hg : w.heap.size + 1 < w5.heap.size := x1.lt
          replace x0 := x0.later al
          replace x1 := x1.later al
          replace b0 := b0.trans ((al).mono b0.size)
          replace h1 := h0.on b0
          clear y0
          obtain ⟨y0, -⟩ := id x0.reads
          clear al
          cases b1 with
          | true =>
            obtain rfl : xs1 = rs ++ [⟨1, t, us⟩] := by rw [HX1.out]; simp
            obtain ⟨rfl, rfl⟩ : xs = rs ++ [⟨1, t, us⟩] ∧ b = true := by
              rcases HW.out with ⟨_, h3, h4⟩ | ⟨h3, -⟩
              · exact ⟨h3, h4⟩
              · exact absurd (HB1.out.1 rfl) h3
            have hl9 : (rs ++ [(⟨1, t, us⟩ : Rec)]).length = rs.length + 1 := by simp
            rw [hl9] at x8 o5
            obtain ⟨t0, tf⟩ := id x1.reads
            have tf0 := tf 0
            obtain ⟨u0, -⟩ := id x8.reads
            obtain ⟨p0, -⟩ := (x1.set0 (.slice A5 (rs.length + 1) c5)).reads
            have b9 := b0.setCell (p := ⟨w.heap.size + 1, 0, none⟩) (Nat.le_succ _) (.slice A5 (rs.length + 1) c5)
            have o9 := o5.keptT (by decide) (by decide) (but_set w6 (w.heap.size + 1) 0 (.slice A5 (rs.length + 1) c5)) (blk_type x1)
            clear tf
            go_wp2
            exact bodyPost_ret (v := .tuple #[.agg #[.slice A5 (rs.length + 1) c5], .bool true]) (by simp [results, Tryd.results23, go_sem, p0]) rfl ⟨_, rfl, OwnSh.mk_ o9, b9⟩
          | false =>
            obtain rfl : xs1 = rs := by rw [HX1.out]; simp
            obtain ⟨rfl, b3, hb3, hx3⟩ : b = false ∧ ∃ b3 : Bool, (b3 = true ↔ Vld (xs1 ++ [⟨3, t, []⟩])) ∧ xs = if b3 then xs1 ++ [⟨3, t, []⟩] else xs1 := by
              rcases HW.out with ⟨h3, _, h4⟩ | ⟨_, h3, h4⟩
              · have := HB1.out.2 h3; cases this
              · exact ⟨h3, h4⟩
            have CD := hid (l21Add_any b3 xs _ xs1 none 0 ⟨3, t, []⟩ w6 ⟨A, c, rfl, h1, hc⟩ h30 hf (.inl rfl) (Nat.zero_le _) hb3 hx3)
            clear hb3 hx3 HW HB1 HX1
            go_wp2_with fail
            refine CD.out.mono ?_
            rintro e w7 ⟨v7, rfl, o7, d7⟩
            have z6 := b0.size
            replace x0 := x0.later d7
            replace x1 := x1.later d7
            replace b0 := b0.trans ((d7).mono b0.size)
            replace h1 := h0.on b0
            clear y0
            obtain ⟨y0, -⟩ := id x0.reads
            obtain ⟨A7, c7, rfl, o7, -⟩ := o7
            unfold shV
            replace x8 := x8.later d7
            have hne : w5.heap.size ≠ w.heap.size + 1 := by omega
            have y8 := x8.set0 (.slice A7 xs.length c7)
            have y1 := x1.far (p := ⟨w5.heap.size, 0, none⟩) hne.symm (.slice A7 xs.length c7)
            obtain ⟨u0, uf⟩ := id x8.reads
            obtain ⟨t0, tf⟩ := id x1.reads
            have uf0 := uf 0
            have tf0 := tf 0
            obtain ⟨p0, -⟩ := (y1.set0 (.slice A7 xs.length c7)).reads
            have b9 := (b0.setCell (p := ⟨w5.heap.size, 0, none⟩) (by show w.heap.size ≤ w5.heap.size; omega) (.slice A7 xs.length c7)).setCell (p := ⟨w.heap.size + 1, 0, none⟩) (Nat.le_succ _) (.slice A7 xs.length c7)
            have o9 := ((o7.keptT (by decide) (by decide) (but_set w7 w5.heap.size 0 (.slice A7 xs.length c7)) (blk_type x8)).keptT (by decide) (by decide) (but_set _ (w.heap.size + 1) 0 (.slice A7 xs.length c7)) (blk_type y1)).base z6
            clear tf uf y8 y1 o7 d7 x8
            go_wp2
            exact bodyPost_ret (v := .tuple #[.agg #[.slice A7 xs.length c7], .bool false]) (by simp [results, Tryd.results23, go_sem, p0]) rfl ⟨_, rfl, OwnSh.mk_ o9, b9⟩
        · have e9 : (z != 0) = true := by rw [bne_iff_ne]; exact h9
          obtain ⟨rfl, hb⟩ := HR.out.known_ HV.out HT.out HU.out (HZ.out ▸ h9)
          have HB : Hid (b = (z == 1)) := by show _ = _; rw [hb, HZ.out]
          clear hb h9
          go_wp2_with fail
          have HKP : Hid (∀ x, Below w3.heap.size w3 x → x.cell? ⟨w.heap.size, 0, none⟩ = some (.slice A xs.length c)) := fun x hx => (x0.later hx).reads.1
          have Dwd := (Below.refl w3.heap.size w3).drew
          refine wp_region_held_drew (S := fun x => x.cell? ⟨w.heap.size, 0, none⟩ = some (.slice A xs.length c)) (by kernel_rfl) (HKP.out _ Dwd) (fun hHeld => ?_)
          obtain ⟨wd, hwd⟩ : ∃ wd, w3.drew = wd := ⟨_, rfl⟩
          rw [hwd] at hHeld Dwd ⊢
          clear hwd
          refine wpAnyH_take (i := 0) (oi := _) (v := ?_) rfl (by kernel_rfl) (by kernel_rfl) (by kernel_rfl) (fun _ _ _ h => h) (Or.inl ⟨by rfl, ?_⟩) hHeld ?_
          rotate_left
          · (intro w' hSw; (try dsimp only at hSw); go_simp <;> with_reducible rfl)
          try simp only [Act.put, List.getElem_toArray, List.getElem_cons_succ, List.getElem_cons_zero, List.setIfInBounds_toArray, List.set_cons_zero, List.set_cons_succ]
          refine wpAnyH_take (i := 2) (oi := _) (v := ?_) rfl (by kernel_rfl) (by kernel_rfl) (by kernel_rfl) (fun _ _ _ h => h) (Or.inl ⟨by rfl, ?_⟩) hHeld ?_
          rotate_left
          · (intro w' hSw; (try dsimp only at hSw); go_simp <;> with_reducible rfl)
          try simp only [Act.put, List.getElem_toArray, List.getElem_cons_succ, List.getElem_cons_zero, List.setIfInBounds_toArray, List.set_cons_zero, List.set_cons_succ]
          refine wpAnyH_take (i := 3) (oi := _) (v := ?_) rfl (by kernel_rfl) (by kernel_rfl) (by kernel_rfl) (fun _ _ _ h => h) (Or.inl ⟨by rfl, ?_⟩) hHeld ?_
          rotate_left
          · (intro w' hSw; (try dsimp only at hSw); go_simp <;> with_reducible rfl)
          try simp only [Act.put, List.getElem_toArray, List.getElem_cons_succ, List.getElem_cons_zero, List.setIfInBounds_toArray, List.set_cons_zero, List.set_cons_succ]
          refine wpAnyH_take (i := 4) (oi := _) (v := ?_) rfl (by kernel_rfl) (by kernel_rfl) (by kernel_rfl) (fun _ _ _ h => h) (Or.inl ⟨by rfl, ?_⟩) hHeld ?_
          rotate_left
          · (intro w' hSw; (try dsimp only at hSw); go_simp <;> with_reducible rfl)
          try simp only [Act.put, List.getElem_toArray, List.getElem_cons_succ, List.getElem_cons_zero, List.setIfInBounds_toArray, List.set_cons_zero, List.set_cons_succ]
          refine wpAnyH_ready (rs := [1]) (by kernel_rfl) (by simp) (AllReadyH.cons (o := _) rfl (fun K hK => ?_) AllReadyH.nil)
          try simp only [Act.put, List.getElem_toArray, List.getElem_cons_succ, List.getElem_cons_zero, List.setIfInBounds_toArray, List.set_cons_zero, List.set_cons_succ]
          go_simp
          go_at_call 67
          refine (HC.out _ wd ⟨A, c, rfl, h1.on Dwd, hc⟩).mono ?_
          rintro e w4 ⟨v4, rfl, o4, d4⟩
          have D4 := Dwd.trans (d4.mono Dwd.size)
          obtain ⟨A4, c4, rfl, o4, -⟩ := o4
          unfold shV
          refine hK.out _ _ (HKP.out _ D4) (fun hHeld => ?_)
          clear hK K
          try simp only [Act.put, List.getElem_toArray, List.getElem_cons_succ, List.getElem_cons_zero, List.setIfInBounds_toArray, List.set_cons_zero, List.set_cons_succ]
          refine wpAnyH_ready (rs := [5]) (by kernel_rfl) (by simp) (AllReadyH.cons (o := _) rfl (fun K hK => ?_) AllReadyH.nil)
          try simp only [Act.put, List.getElem_toArray, List.getElem_cons_succ, List.getElem_cons_zero, List.setIfInBounds_toArray, List.set_cons_zero, List.set_cons_succ]
          go_simp
          go_at_call 66
          refine (CA.out w4 (h1.on D4)).mono ?_
          rintro e w5 ⟨rfl, rfl⟩
          refine hK.out _ _ (HKP.out _ D4) (fun hHeld => ?_)
          clear hK K
          try simp only [Act.put, List.getElem_toArray, List.getElem_cons_succ, List.getElem_cons_zero, List.setIfInBounds_toArray, List.set_cons_zero, List.set_cons_succ]
          have z3 := b0.size
          have zd := Dwd.size
          replace x1 := x1.later D4
          replace x0 := x0.later D4
          replace b0 := b0.trans (D4.mono z3)
          replace o4 := o4.base (Nat.le_trans z3 zd)
          obtain ⟨t0, tf⟩ := id x1.reads
          have tf0 := tf 0
          have HS9 := hid (x0.far (p := ⟨w.heap.size + 1, 0, none⟩) (by show w.heap.size ≠ w.heap.size + 1; omega) (.slice A4 xs.length c4)).reads.1
          clear tf h1 y0 CA HC
          refine wpAnyH_ready (rs := [6, 7]) (by kernel_rfl) (by simp) (AllReadyH.cons (o := _) rfl (fun K hK => ?_) (AllReadyH.cons (o := _) rfl (fun K hK => ?_) AllReadyH.nil))
          · skip
            try simp only [Act.put, List.getElem_toArray, List.getElem_cons_succ, List.getElem_cons_zero, List.setIfInBounds_toArray, List.set_cons_zero, List.set_cons_succ]
            go_simp
            refine hK.out _ _ x0.reads.1 (fun hHeld => ?_)
            clear hK K
            try simp only [Act.put, List.getElem_toArray, List.getElem_cons_succ, List.getElem_cons_zero, List.setIfInBounds_toArray, List.set_cons_zero, List.set_cons_succ]
            refine wpAnyH_ready (rs := [7]) (by kernel_rfl) (by simp) (AllReadyH.cons (o := _) rfl (fun K hK => ?_) AllReadyH.nil)
            try simp only [Act.put, List.getElem_toArray, List.getElem_cons_succ, List.getElem_cons_zero, List.setIfInBounds_toArray, List.set_cons_zero, List.set_cons_succ]
            go_simp
            refine hK.out _ _ HS9.out (fun hHeld => ?_)
            clear hK K
            try simp only [Act.put, List.getElem_toArray, List.getElem_cons_succ, List.getElem_cons_zero, List.setIfInBounds_toArray, List.set_cons_zero, List.set_cons_succ]
            refine wpAnyH_take (i := 8) (oi := _) (v := ?_) rfl (by kernel_rfl) (by kernel_rfl) (by kernel_rfl) (fun _ _ _ h => h) (Or.inl ⟨by rfl, ?_⟩) hHeld ?_
            rotate_left
            · (intro w' hSw; (try dsimp only at hSw); go_simp <;> with_reducible rfl)
            try simp only [Act.put, List.getElem_toArray, List.getElem_cons_succ, List.getElem_cons_zero, List.setIfInBounds_toArray, List.set_cons_zero, List.set_cons_succ]
            refine wpAnyH_done (by kernel_rfl) ?_ _
            obtain ⟨p0, -⟩ := (x1.set0 (.slice A4 xs.length c4)).reads
            have b9 := b0.setCell (p := ⟨w.heap.size + 1, 0, none⟩) (Nat.le_succ _) (.slice A4 xs.length c4)
            have o9 := o4.keptT (by decide) (by decide) (but_set w4 (w.heap.size + 1) 0 (.slice A4 xs.length c4)) (blk_type x1)
            clear hHeld t0 tf0
            go_wp2
            refine bodyPost_ret (v := .tuple #[.agg #[.slice A4 xs.length c4], .bool (z == 1)]) (by simp [results, Tryd.results23, go_sem, p0]) rfl ?_
            rw [HB.out]
            exact ⟨_, rfl, OwnSh.mk_ o9, b9⟩
          · skip
            try simp only [Act.put, List.getElem_toArray, List.getElem_cons_succ, List.getElem_cons_zero, List.setIfInBounds_toArray, List.set_cons_zero, List.set_cons_succ]
            go_simp
            refine hK.out _ _ HS9.out (fun hHeld => ?_)
            clear hK K
            try simp only [Act.put, List.getElem_toArray, List.getElem_cons_succ, List.getElem_cons_zero, List.setIfInBounds_toArray, List.set_cons_zero, List.set_cons_succ]
            refine wpAnyH_take (i := 6) (oi := _) (v := ?_) rfl (by kernel_rfl) (by kernel_rfl) (by kernel_rfl) (fun _ _ _ h => h) (Or.inl ⟨by rfl, ?_⟩) hHeld ?_
            rotate_left
            · (intro w' hSw; (try dsimp only at hSw); go_simp <;> with_reducible rfl)
            try simp only [Act.put, List.getElem_toArray, List.getElem_cons_succ, List.getElem_cons_zero, List.setIfInBounds_toArray, List.set_cons_zero, List.set_cons_succ]
            refine wpAnyH_take (i := 8) (oi := _) (v := ?_) rfl (by kernel_rfl) (by kernel_rfl) (by kernel_rfl) (fun _ _ _ h => h) (Or.inl ⟨by rfl, ?_⟩) hHeld ?_
            rotate_left
            · (intro w' hSw; (try dsimp only at hSw); go_simp <;> with_reducible rfl)
            try simp only [Act.put, List.getElem_toArray, List.getElem_cons_succ, List.getElem_cons_zero, List.setIfInBounds_toArray, List.set_cons_zero, List.set_cons_succ]
            refine wpAnyH_done (by kernel_rfl) ?_ _
            obtain ⟨p0, -⟩ := (x1.set0 (.slice A4 xs.length c4)).reads
            have b9 := b0.setCell (p := ⟨w.heap.size + 1, 0, none⟩) (Nat.le_succ _) (.slice A4 xs.length c4)
            have o9 := o4.keptT (by decide) (by decide) (but_set w4 (w.heap.size + 1) 0 (.slice A4 xs.length c4)) (blk_type x1)
            clear hHeld t0 tf0
            go_wp2
            refine bodyPost_ret (v := .tuple #[.agg #[.slice A4 xs.length c4], .bool (z == 1)]) (by simp [results, Tryd.results23, go_sem, p0]) rfl ?_
            rw [HB.out]
            exact ⟨_, rfl, OwnSh.mk_ o9, b9⟩
end Go.Proofs.YteeffchnbkkpfabDoor
