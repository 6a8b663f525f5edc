/- The coordinator with the slices $SA and $SB is stored as the answer, with the word $BB. -/
/- Laws on coordinators: a coordinator is boxed. -/
/-
  Walk of the law on a timeout.
-/
import Derived.Test.YtimdkddkgbmecaaLawCo5
namespace Go.Proofs.Ytimdkddkgbmecaa
open Go.RowKit Wo Pu Rf Co

theorem late_yes {q x : Crd} {t : Int} (h : Late q t x true) : ∃ n, ∃ hn : n < q.ts.length, t = (n : Int) ∧ q.ts[n].d = 0 ∧ CV q ∧ x = lateC q n hn := by
  generalize hb : true = b at h
  cases h with
  | bad _ => cases hb
  | no _ _ => cases hb
  | yes n h1 h2 h3 h4 => exact ⟨n, h1, h2, h3, h4, rfl⟩
theorem raw_cells {col : Nat → Nat} {y : World} {B : Nat} {raw : List Value} {ts : List Tx} (hl : raw.length = ts.length * 3) (h2 : ∀ j (hj : j < ts.length), TxIs col (j + 2) y B raw j ts[j]) : ∀ u ∈ raw, u.oneCell' = true := fun u hu => by
  obtain ⟨i, hi, rfl⟩ := List.mem_iff_getElem.1 hu
  have hj : i / 3 < ts.length := by omega
  obtain ⟨a, b, q0, q1, q2, q3⟩ := h2 (i / 3) hj
  obtain ⟨A, c1, A2, c2, rfl, rfl, -⟩ := q3.form
  have hu := List.getElem?_eq_getElem hi
  have key : i = i / 3 * 3 ∨ i = i / 3 * 3 + 1 ∨ i = i / 3 * 3 + 2 := by omega
  rcases key with e | e | e
  · rw [← e, hu] at q0; injection q0 with q0; rw [q0]; rfl
  · rw [← e, hu] at q1; injection q1 with q1; rw [q1]; rfl
  · rw [← e, hu] at q2; injection q2 with q2; rw [q2]; rfl
/-- The copy whose decision is taken back. -/
theorem txs_back {col : Nat → Nat} {y : World} {B C g n c : Nat} {q x : Crd} {raw : List Value} (hrow : y.ownsRow C 38 3 (.slice (some ⟨g, 0, none⟩) x.ts.length c) x.ts.length (raw.set (n * 3 + 2) (.int .i64 0)))
    (h2 : ∀ j (hj : j < x.ts.length), TxIs col (j + 2) y B raw j x.ts[j]) (hn : n < q.ts.length) (hd : q.ts[n].d = 0) (hx : x = lateC q n hn) : Txs y y.heap.size (some ⟨g, 0, none⟩) q.ts := by
  have hxl : x.ts.length = q.ts.length := by rw [hx]; simp [lateC]
  have hrl : raw.length = x.ts.length * 3 := by have := hrow.1; rwa [List.length_set] at this
  refine .inr ⟨_, rfl, (World.ownsRow.lt hrow g rfl).2, fun i hi => ?_⟩
  obtain ⟨a, b, q0, q1, q2, q3⟩ := h2 i (by omega)
  have hc := World.ownsRow.cells hrow (g := g) rfl
  obtain ⟨A, c1, A2, c2, rfl, rfl, r3, r4, r5, r6⟩ := q3.form
  by_cases e : n = i
  · subst e
    have hxi : x.ts[n]'(by omega) = lateTx q.ts[n] := by subst hx; exact lateC_get hn
    rw [hxi] at q0 q1 r3 r4 r5 r6
    refine ⟨A, c1, A2, c2, hc _ _ ?_, ?_, ?_, r3, r4, r5, r6⟩
    · rw [List.getElem?_set_ne (by omega)]; exact q0
    · rw [add_add]; exact hc _ _ (by rw [List.getElem?_set_ne (by omega)]; exact q1)
    · rw [add_add, hd]; exact hc _ _ (by rw [List.getElem?_set_self (by omega)])
  · have hxi : x.ts[i]'(by omega) = q.ts[i] := by subst hx; simp only [lateC]; exact List.getElem_set_ne e _
    rw [hxi] at q0 q1 q2 r3 r4 r5 r6
    refine ⟨A, c1, A2, c2, hc _ _ ?_, ?_, ?_, r3, r4, r5, r6⟩
    · rw [List.getElem?_set_ne (by omega)]; exact q0
    · rw [add_add]; exact hc _ _ (by rw [List.getElem?_set_ne (by omega)]; exact q1)
    · rw [add_add]; exact hc _ _ (by rw [List.getElem?_set_ne (by omega)]; exact q2)
theorem own_cap {w : World} {B g n c sz : Nat} {e : TypeId} {xs : List Value} (h : w.ownsRow B e sz (.slice (some ⟨g, 0, none⟩) n c) n xs) : n ≤ c := by
  rcases h.2 with ⟨h', _⟩ | ⟨g', cap', cur, h', _, _, hn, _⟩
  · cases h'
  · obtain ⟨-, -, rfl⟩ := Value.slice.inj h'
    exact hn
theorem FnTimeout_no (A : Option Addr) (c : Nat) (bs : List Int) (w : World) (h : Code_ w A c bs) (hl : ¬ bs.length ≤ 1048576) :
    Calls Try.prog 10 #[.slice A bs.length c] w (Ret (.bool true) w) := by
  have hc := h.2.1
  have hm := h.2.2.1
  unfold maxLen at hm
  go_enter Try.func10, Try.ntmps10
  go_wp2
  go_ret
  exact .mk_ (Below.refl _ _)
set_option linter.unusedSimpArgs false in
set_option linter.unusedVariables false in
set_option maxRecDepth 100000 in
set_option maxHeartbeats 8000000 in
theorem FnTimeout_yes (A : Option Addr) (c : Nat) (bs : List Int) (w : World) (h : Code_ w A c bs) (hl : bs.length ≤ 1048576) :
    Calls Try.prog 10 #[.slice A bs.length c] w (Ret (.bool true) w) := by
  obtain ⟨i0, hi, hz0, hz1, hz2⟩ := info_of info_txn
  go_enter Try.func10, Try.ntmps10
  go_wp2_with fail
  refine (DrawCoordinatorTimeout_any A c bs _ h).mono ?_
  rintro e w1 ⟨v1, q, t, rfl, s1, hs, bw⟩
  obtain ⟨xs, b, hv⟩ := late_ex q t
  have HV := hid hv
  have HSM := hid hs
  have HSX := hid (cv_few hv.valid).1.fit
  have HVX := hid hv.valid
  have CI := hid fun (w9 : World) (hw9 : Below w1.heap.size w1 w9) => implCoordinatorTimeout_is xs b v1 q t w9 (s1.on hw9 hw9.size) hs.fit hv
  have CS := hid fun (w9 : World) (hw9 : Below w1.heap.size w1 w9) => specCoordinatorTimeout_is xs b v1 q t w9 (s1.on hw9 hw9.size) hs.fit hv
  clear hv hs
  obtain ⟨A1, c1, B1, k1, rfl, T1, hc1, R1, hd1⟩ := s1
  unfold crV at *
  go_upto_region 4 with fail
  have al := (Below.refl (w1).heap.size w1).alloc (Nat.le_refl _) (.cells #[.slice A1 q.ts.length c1, .slice B1 q.os.length k1] 26)
  have xn := Blk2s.new_ w1 26 (.slice A1 q.ts.length c1) (.slice B1 q.os.length k1)
  obtain ⟨w2, hw'⟩ : ∃ x, (w1).alloc (.cells #[.slice A1 q.ts.length c1, .slice B1 q.os.length k1] 26) = x := ⟨_, rfl⟩
  rw [hw'] at al xn ⊢
  clear hw'
  have x1 := xn
  have D1 := al
  obtain ⟨y1, z1, -⟩ := id x1.reads
  clear xn al
  go_wp2_with fail
  refine (CI.out _ D1).mono ?_
  rintro e w3 ⟨v3, col3, rfl, o3, d3⟩
  obtain ⟨A2, c2, B2, k2, rfl, -⟩ := o3.form
  unfold crV at o3 ⊢
  have D3 := D1.trans (d3.mono D1.size)
  have X1 := x1.later d3
  clear x1 D1 d3 y1 z1 CI
  go_upto_region 5 with fail
  have al := (Below.refl (w3).heap.size w3).alloc (Nat.le_refl _) (.cells #[.slice A2 xs.ts.length c2, .slice B2 xs.os.length k2] 26)
  have xn := Blk2s.new_ w3 26 (.slice A2 xs.ts.length c2) (.slice B2 xs.os.length k2)
  obtain ⟨w4, hw'⟩ : ∃ x, (w3).alloc (.cells #[.slice A2 xs.ts.length c2, .slice B2 xs.os.length k2] 26) = x := ⟨_, rfl⟩
  rw [hw'] at al xn ⊢
  clear hw'
  have x2 := xn
  have x1 := X1.later al
  have D4 := D3.trans (al.mono D3.size)
  have q2 := o3.below al
  obtain ⟨y1, z1, -⟩ := id x1.reads
  clear xn al X1 D3 o3
  go_wp2_with fail
  refine (CS.out _ D4).mono ?_
  rintro e w5 ⟨v5, col5, rfl, o5, d5⟩
  obtain ⟨A3, c3, B3, k3, rfl, -⟩ := o5.form
  unfold crV at o5 ⊢
  have D5 := D4.trans (d5.mono D4.size)
  have X1 := x1.later d5
  have X2 := x2.later d5
  have q3 := q2.below d5
  clear x1 x2 D4 d5 y1 z1 CS q2
  go_upto_region 6 with fail
  have al := (Below.refl (w5).heap.size w5).alloc (Nat.le_refl _) (.cells #[.slice A3 xs.ts.length c3, .slice B3 xs.os.length k3] 26)
  have xn := Blk2s.new_ w5 26 (.slice A3 xs.ts.length c3) (.slice B3 xs.os.length k3)
  obtain ⟨w6, hw'⟩ : ∃ x, (w5).alloc (.cells #[.slice A3 xs.ts.length c3, .slice B3 xs.os.length k3] 26) = x := ⟨_, rfl⟩
  rw [hw'] at al xn ⊢
  clear hw'
  have x1 := X1.later al
  have x2 := X2.later al
  have D6 := D5.trans (al.mono D5.size)
  have q4 := q3.below al
  have p4 := o5.below al
  have b6 := bw.trans (D6.mono bw.size)
  have HD6 := hid D6
  have HF : Hid (∀ x, Below w6.heap.size w6 x → (x.cell? ⟨w1.heap.size, 0, none⟩ = some (.slice A1 q.ts.length c1) ∧ x.cell? ⟨w1.heap.size, 1, none⟩ = some (.slice B1 q.os.length k1)) ∧ (x.cell? ⟨w3.heap.size, 0, none⟩ = some (.slice A2 xs.ts.length c2) ∧ x.cell? ⟨w3.heap.size, 1, none⟩ = some (.slice B2 xs.os.length k2)) ∧ (x.cell? ⟨w5.heap.size, 0, none⟩ = some (.slice A3 xs.ts.length c3) ∧ x.cell? ⟨w5.heap.size, 1, none⟩ = some (.slice B3 xs.os.length k3))) := fun x hx =>
    ⟨⟨(x1.later hx).reads.1, (x1.later hx).reads.2.1⟩, ⟨(x2.later hx).reads.1, (x2.later hx).reads.2.1⟩, (xn.later hx).reads.1, (xn.later hx).reads.2.1⟩
  have HT1 : Hid (∀ x, Below w6.heap.size w6 x → Txs x x.heap.size A1 q.ts) := fun x hx => T1.on (D6.trans (hx.mono D6.size))
  have HR1 : Hid (∀ x, Below w6.heap.size w6 x → Row x x.heap.size B1 (ints q.os)) := fun x hx => (R1.below (D6.trans (hx.mono D6.size)) (Nat.le_refl _)).more (Nat.le_trans D6.size hx.size)
  have HC1 : Hid (∀ x, Below w6.heap.size w6 x → Crdd x x.heap.size (.agg #[.slice A1 q.ts.length c1, .slice B1 q.os.length k1]) q) := fun x hx => ⟨A1, c1, B1, k1, rfl, HT1.out x hx, hc1, HR1.out x hx, hd1⟩
  have HO2 : Hid (∀ x, Below w6.heap.size w6 x → OwnCr col3 x w2.heap.size (.agg #[.slice A2 xs.ts.length c2, .slice B2 xs.os.length k2]) xs) := fun x hx => q4.below hx
  have HC2 : Hid (∀ x, Below w6.heap.size w6 x → Crdd x x.heap.size (.agg #[.slice A2 xs.ts.length c2, .slice B2 xs.os.length k2]) xs) := fun x hx => (q4.below hx).crd
  have HC3 : Hid (∀ x, Below w6.heap.size w6 x → Crdd x x.heap.size (.agg #[.slice A3 xs.ts.length c3, .slice B3 xs.os.length k3]) xs) := fun x hx => (p4.below hx).crd
  have dx := Below.refl w6.heap.size w6
  have HLT : Hid (w1.heap.size < w6.heap.size ∧ w3.heap.size < w6.heap.size ∧ w5.heap.size < w6.heap.size) := ⟨x1.lt, x2.lt, xn.lt⟩
  replace bw := b6
  clear b6 x1 x2 xn X1 X2 al D5 D6 q3 q4 p4 o5 T1 R1
  obtain ⟨⟨y1, z1⟩, ⟨y2, z2⟩, y3, z3⟩ := HF.out _ dx
  go_wp2_with fail
  refine (sameCoordinator_is _ _ xs _ (HC2.out _ dx) (HC3.out _ dx) HSX.out).mono ?_
  rintro e w7 ⟨rfl, dn⟩
  replace dx := dx.trans ((dn).mono dx.size)
  clear y1 z1 y2 z2 y3 z3 dn
  obtain ⟨⟨y1, z1⟩, ⟨y2, z2⟩, y3, z3⟩ := HF.out _ dx
  cases b with
  | false =>
    go_wp2_with fail
    refine (sameCoordinator_is _ _ xs _ (HC2.out _ dx) (HC3.out _ dx) HSX.out).mono ?_
    rintro e w8 ⟨rfl, dn⟩
    replace dx := dx.trans ((dn).mono dx.size)
    clear y1 z1 y2 z2 y3 z3 dn
    obtain ⟨⟨y1, z1⟩, ⟨y2, z2⟩, y3, z3⟩ := HF.out _ dx
    go_wp2
    go_ret
    exact .mk_ (bw.trans (dx.mono bw.size))
  | true =>
    obtain ⟨n, hn, ht, hd0, hvq, hx⟩ := late_yes HV.out
    subst ht
    have hos : xs.os = q.os := by rw [hx]; rfl
    have hxl : xs.ts.length = q.ts.length := by rw [hx]; simp [lateC]
    have hnx : n < xs.ts.length := by omega
    have hdd : xs.ts[n]'hnx = lateTx q.ts[n] := by subst hx; exact lateC_get hn
    have h12 := HVX.out.many
    obtain ⟨gT, rfl, -⟩ := cr_head (HO2.out _ dx) (n := n) (by omega)
    obtain ⟨raw, hr, h2, -⟩ := (HO2.out _ dx).parts.1
    have HX := hid hx
    have HOS := hid hos
    have HXL := hid hxl
    have HD0 := hid hd0
    have HDD := hid hdd
    have HRL : Hid (raw.length = xs.ts.length * 3) := hr.1
    have HONE := hid (raw_cells hr.1 h2)
    have HTI : Hid (∀ y, Below w7.heap.size w7 y → ∀ j (hj : j < xs.ts.length), TxIs col3 (j + 2) y w2.heap.size raw j xs.ts[j]) := fun y hy j hj => by
      obtain ⟨a, b, q0, q1, q2, q3⟩ := h2 j hj
      exact ⟨a, b, q0, q1, q2, q3.below hy⟩
    have r7 : Row w7 w7.heap.size (some ⟨gT, 0, none⟩) raw := .inr ⟨_, rfl, (World.ownsRow.lt hr gT rfl).2, fun j v hj => World.ownsRow.cells hr rfl j v hj⟩
    clear hx hos hxl hdd h2 hr HV hvq hd0
    go_upto_region 9 with fail
    have al := (Below.refl (w7).heap.size w7).alloc (Nat.le_refl _) (.cells #[.slice (some ⟨gT, 0, none⟩) xs.ts.length c2, .slice B2 xs.os.length k2] 26)
    have xn := Blk2s.new_ w7 26 (.slice (some ⟨gT, 0, none⟩) xs.ts.length c2) (.slice B2 xs.os.length k2)
    obtain ⟨w8, hw'⟩ : ∃ x, (w7).alloc (.cells #[.slice (some ⟨gT, 0, none⟩) xs.ts.length c2, .slice B2 xs.os.length k2] 26) = x := ⟨_, rfl⟩
    rw [hw'] at al xn ⊢
    clear hw'
    have al8 := (Below.refl w8.heap.size w8).alloc (Nat.le_refl _) (.cells #[] 38)
    have x9 := xn.later al8
    have D8 := al
    have D9 := al.trans (al8.mono al.size)
    have nI : (w8.alloc (.cells #[] 38)).ownsRow w8.heap.size 38 3 (.slice (some ⟨w8.heap.size, 0, none⟩) 0 0) 0 [] := nil_own (Nat.le_refl _) _ _
    have rX := r7.below D9 (Nat.le_refl _)
    have m7 : w7.heap.size < w8.heap.size := xn.lt
    have D7 := hid dx
    have HNE : Hid (some w7.heap.size ≠ (Value.slice (some ⟨w8.heap.size, 0, none⟩) 0 0).ownBlock) := fun e => by
      have e2 : w7.heap.size = w8.heap.size := by simpa [Value.ownBlock] using e
      omega
    have hpos : 0 < xs.ts.length := by have := HXL.out; omega
    have hrl := HRL.out
    replace dx := dx.trans ((al).mono dx.size)
    clear y1 z1 y2 z2 y3 z3 al
    obtain ⟨⟨y1, z1⟩, ⟨y2, z2⟩, y3, z3⟩ := HF.out _ dx
    obtain ⟨-, ⟨yA, -⟩, -, -⟩ := HF.out _ (dx.trans (al8.mono dx.size))
    clear xn r7
    go_upto_region 10 with (at_builtin; go_must (refine wpList_append_row _ rfl _ _ 23 rfl w8.heap.size 38 i0 (.agg #[.slice none 0 0, .slice none 0 0, .int .i64 0]) 3 56 Try.underlying23 hi hz0 hz1 hz2 rfl (by decide) _ 0 [] rfl nI w7.heap.size (some ⟨gT, 0, none⟩) xs.ts.length c2 raw rfl rX hrl HONE.out (by unfold maxLen; omega) (by omega) (by simp) ?_); intro v9 w9 hown9 hg9; rw [Nat.zero_add, List.nil_append] at hown9; obtain ⟨g9, c9, rfl, hgB9, hgl9⟩ := World.ownsRow.form hown9 hpos; have x13 := x9.grown hg9 HNE.out; obtain ⟨u0, u1, uf⟩ := id x13.reads; have uf0 := uf 0)
    have b9 : Below w7.heap.size w7 w9 := D9.grown hg9 D9.size (fun j hj => by
      have hj2 : (Value.slice (some ⟨w8.heap.size, 0, none⟩) 0 0).ownBlock = some j := hj
      have e2 : w8.heap.size = j := by simpa [Value.ownBlock] using hj2
      omega)
    have h10 := row_far_type hown9 (by decide) (but_set w9 w7.heap.size 0 (.slice (some ⟨g9, 0, none⟩) xs.ts.length c9)) (blk_type x13)
    have x14 := x13.set0 (.slice (some ⟨g9, 0, none⟩) xs.ts.length c9)
    have b10 := b9.setCell (p := ⟨w7.heap.size, 0, none⟩) (Nat.le_refl _) (.slice (some ⟨g9, 0, none⟩) xs.ts.length c9)
    have hcap := own_cap hown9
    obtain ⟨W10, hW⟩ : ∃ x, w9.setCell ⟨w7.heap.size, 0, none⟩ (.slice (some ⟨g9, 0, none⟩) xs.ts.length c9) = x := ⟨_, rfl⟩
    rw [hW] at h10 x14 b10 ⊢
    clear hW b9 hown9 hg9 yA x13 u0 u1 uf uf0 nI rX x9 D8 D9 al8 y1 z1 y2 z2 y3 z3
    obtain ⟨u0, u1, -⟩ := id x14.reads
    have v0 := World.ownsRow.cellAt h10 (n * 3 + 2) (by omega)
    rw [List.getElem?_eq_getElem (by omega)] at v0
    have v1 := World.ownsRow.frozenAt h10 (n * 3 + 2)
    have i0 : (0 : Int) ≤ (n : Int) := by omega
    have i2 : (n : Int) < (xs.ts.length : Int) := by omega
    go_upto_region 11 with fail
    have h11 := (World.ownsRow.stored h10 (n * 3 + 2) (.int .i64 0)).1
    have x15 := x14.far (p := ⟨g9, n * 3 + 2, none⟩) (by show w7.heap.size ≠ g9; omega) (.int .i64 0)
    have b11 := b10.setCell (p := ⟨g9, n * 3 + 2, none⟩) (by show w7.heap.size ≤ g9; omega) (.int .i64 0)
    obtain ⟨W11, hW⟩ : ∃ x, W10.setCell ⟨g9, n * 3 + 2, none⟩ (.int .i64 0) = x := ⟨_, rfl⟩
    rw [hW] at h11 x15 b11 ⊢
    clear hW u0 u1 v0 v1 h10 x14 b10
    replace dx := D7.out.trans (b11.mono D7.out.size)
    obtain ⟨⟨y1, z1⟩, ⟨y2, z2⟩, y3, z3⟩ := HF.out _ dx
    have HGG : Hid (∀ y, Below w6.heap.size w6 y → y.cell? ⟨gT, n * 3 + 2, none⟩ = some (.int .i64 3)) := fun y hy => by
      obtain ⟨t2, ad2, A', c', A9, c9, ho, hA, had, g0, g1, g2, -⟩ := (crd_parts (HC2.out y hy)).1.tx hnx
      injection hA with hA
      subst hA
      have e : (⟨gT, 0, none⟩ : Addr).add (n * 3) = ⟨gT, n * 3, none⟩ := by unfold Addr.add; split <;> simp_all
      rw [e] at g2
      rw [HDD.out] at ho
      subst ho
      exact g2
    have CW := hid fun (y : World) (hy : Below w6.heap.size w6 y) => implCoordinatorWaits_is [] _ xs (n : Int) y (HC2.out y hy) HSX.out (.inr ⟨fun ⟨_, m, h1, h2, h3⟩ => by
      have e : m = n := by omega
      subst e
      rw [HDD.out] at h3
      exact absurd h3 (by show (3 : Int) ≠ 0; decide), rfl⟩)
    have CX := hid fun (y : World) (hy : Below W11.heap.size W11 y) => (by
      have h1 := txs_back (own_below h11 hy (Nat.le_refl _)) (HTI.out y (b11.trans (hy.mono b11.size))) hn HD0.out HX.out
      have hyx := dx.trans (hy.mono dx.size)
      have h2 := (crd_parts (HC2.out y hyx)).2.1
      have h3 := (crd_caps (HC2.out y hyx)).2
      have h4 := hcap
      rw [HOS.out] at h2 h3 ⊢
      rw [HXL.out] at h4 ⊢
      exact ⟨some ⟨g9, 0, none⟩, c9, B2, k2, rfl, h1, h4, h2, h3⟩ : Crdd y y.heap.size (.agg #[.slice (some ⟨g9, 0, none⟩) xs.ts.length c9, .slice B2 xs.os.length k2]) q)
    have CVI := hid fun (y : World) (hy : Below w6.heap.size w6 y) => implCoordinatorValid_is true _ xs y (HC2.out y hy) HSX.out ⟨fun _ => HVX.out, fun _ => rfl⟩
    have g2 := HGG.out _ dx
    have DY := Below.refl W11.heap.size W11
    clear h11 b11 hcap
    go_wp2_with fail
    refine (CW.out _ dx).mono ?_
    rintro e w12 ⟨Aw, cw, rfl, ow, d⟩
    have x16 := x15.later d
    replace DY := DY.trans (d.mono DY.size)
    replace dx := dx.trans ((d).mono dx.size)
    clear y1 z1 y2 z2 y3 z3 d
    obtain ⟨⟨y1, z1⟩, ⟨y2, z2⟩, y3, z3⟩ := HF.out _ dx
    clear CW g2 x15 ow
    obtain ⟨u0, u1, -⟩ := id x16.reads
    go_wp2_with fail
    refine (sameCoordinator_is _ _ q _ (CX.out _ DY) (HC1.out _ dx) HSM.out.fit).mono ?_
    rintro e w14 ⟨rfl, d⟩
    replace dx := dx.trans ((d).mono dx.size)
    clear y1 z1 y2 z2 y3 z3 d
    obtain ⟨⟨y1, z1⟩, ⟨y2, z2⟩, y3, z3⟩ := HF.out _ dx
    clear u0 u1 x16 CX
    go_wp2_with fail
    refine (CVI.out _ dx).mono ?_
    rintro e w15 ⟨rfl, d⟩
    replace dx := dx.trans ((d).mono dx.size)
    clear y1 z1 y2 z2 y3 z3 d
    obtain ⟨⟨y1, z1⟩, ⟨y2, z2⟩, y3, z3⟩ := HF.out _ dx
    go_wp2
    go_ret
    exact .mk_ (bw.trans (dx.mono bw.size))
theorem FnTimeout_any (A : Option Addr) (c : Nat) (bs : List Int) (w : World) (f1 : Row w w.heap.size A (bs.map (Value.int .u8))) (f2 : bs.length ≤ c) (f3 : c ≤ maxLen) (f4 : ∀ n ∈ bs, 0 ≤ n ∧ n < 256) :
    Calls Try.prog 10 #[.slice A bs.length c] w (Ret (.bool true) w) := by
  by_cases hl : bs.length ≤ 1048576
  · exact FnTimeout_yes A c bs w ⟨f1, f2, f3, f4⟩ hl
  · exact FnTimeout_no A c bs w ⟨f1, f2, f3, f4⟩ hl
end Go.Proofs.Ytimdkddkgbmecaa
