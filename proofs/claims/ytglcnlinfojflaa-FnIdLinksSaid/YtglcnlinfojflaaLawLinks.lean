/-
  Walk of the law on a changed link.
-/
import Derived.Test.YtglcnlinfojflaaLawsOb
import Derived.Test.YtglcnlinfojflaaInj
import Derived.Deep.RegionHeld3
namespace Go.Proofs.Ytglcnlinfojflaa
open Go.RowKit Wo Pu

theorem Wo.Row.news {w : World} {B : Nat} {ad : Addr} {vs : List Value} (h : Row w B (some ad) vs) : ∀ j u, vs[j]? = some u → w.cell? (ad.add j) = some u := by
  rcases h with rfl | ⟨ad', e, _, hc⟩
  · intro j u hu
    simp at hu
  · injection e with e
    subst e
    exact hc
theorem ints_one (zs : List Int) : ∀ u ∈ ints zs, u.oneCell' = true := by
  intro u hu
  obtain ⟨z, _, rfl⟩ := List.mem_map.1 hu
  rfl

theorem FnIdLinks_no (A : Option Addr) (c : Nat) (bs : List Int) (A' : Option Addr) (c' : Nat) (bs' : List Int) (w : World) (h : Code_ w A c bs) (h' : Code_ w A' c' bs') (hl : ¬ (bs.length ≤ 1048576 ∧ bs'.length ≤ 1048576)) :
    Calls Try.prog 6 #[.slice A bs.length c, .slice A' bs'.length c'] w (Ret (.bool true) w) := by
  have hc := h.2.1
  have hm := h.2.2.1
  have hc' := h'.2.1
  have hm' := h'.2.2.1
  unfold maxLen at hm hm'
  by_cases h1 : bs.length ≤ 1048576
  · have h2 : ¬ bs'.length ≤ 1048576 := fun e => hl ⟨h1, e⟩
    clear hl
    go_enter Try.func6, Try.ntmps6
    go_wp2
    go_ret
    exact .mk_ (Below.refl _ _)
  · clear hl
    go_enter Try.func6, Try.ntmps6
    go_wp2
    go_ret
    exact .mk_ (Below.refl _ _)
set_option maxHeartbeats 4000000 in
theorem FnIdLinks_yes (A : Option Addr) (c : Nat) (bs : List Int) (A' : Option Addr) (c' : Nat) (bs' : List Int) (w : World) (h : Code_ w A c bs) (_h' : Code_ w A' c' bs') (hl : bs.length ≤ 1048576) (hl' : bs'.length ≤ 1048576) :
    Calls Try.prog 6 #[.slice A bs.length c, .slice A' bs'.length c'] w (Ret (.bool true) w) := by
  go_enter Try.func6, Try.ntmps6
  go_wp2_with fail
  refine (DrawObjectId_any A c bs _ h).mono ?_
  rintro e w1 ⟨kd, A1, c1, zs, s, rfl, ho1, hz, hs, hb1⟩
  have hm : zs.length ≤ maxLen := by unfold maxLen; omega
  have hs' : s.size ≤ maxLen := by unfold maxLen; omega
  unfold ob
  have al := (Below.refl w1.heap.size w1).alloc (Nat.le_refl _) (.cells #[.int .i64 kd, .slice A1 zs.length c1, .string s] 27)
  have u1 := Blk.new_ w1 27 (.int .i64 kd) (.slice A1 zs.length c1) (.string s)
  have b1 := hb1.trans (al.mono hb1.size)
  have o1 := ho1.below al (Nat.le_refl _)
  have z1 := hb1.size
  clear hb1 al ho1
  go_wp2_with fail
  refine (implObjectId_any _ A1 c1 kd zs s _ o1.row (Nat.le_refl _) hm hs').mono ?_
  rintro e w2 ⟨rfl, hb2⟩
  have u2 := u1.below hb2 u1.lt
  have b2 := b1.trans (hb2.mono b1.size)
  have o2 := o1.below hb2 (Nat.le_refl _)
  have z2 := hb2.size
  simp only [World.size_alloc] at z2
  clear hb2 u1 b1 o1
  obtain ⟨k0, k1, k2, kf⟩ := id u2.reads
  clear kf
  go_wp2_with fail
  refine (specId_any _ A1 c1 kd zs s _ o2.row (Nat.le_refl _) hm hs').mono ?_
  rintro e w3 ⟨rfl, hb3⟩
  have u3 := u2.below hb3 u2.lt
  have b3 := b2.trans (hb3.mono b2.size)
  have o3 := o2.below hb3 (Nat.le_refl _)
  have z3 := hb3.size
  clear hb3 u2 b2 o2 k0 k1 k2
  obtain ⟨k0, k1, k2, kf⟩ := id u3.reads
  clear kf
  cases hv : vldB kd zs s.size
  · have e0 := oid_lt hv
    clear hv
    generalize oid kd zs s.data.toList = I at *
    go_wp2
    go_ret
    exact .mk_ b3
  have e0 := oid_ge hv
  have HV := hid hv
  clear hv
  by_cases en : zs.length = 0
  · have e1 : (((zs.length : Nat) : Int) == 0) = true := by rw [en]; rfl
    clear en
    generalize oid kd zs s.data.toList = I at *
    go_wp2
    go_ret
    exact .mk_ b3
  have e1 : (((zs.length : Nat) : Int) == 0) = false := by rw [beq_eq_false_iff_ne]; omega
  have l3 := u3.lt
  have hp := vldB_parts HV.out
  have hp4 := hp.2.1
  have R := ascB_range hp.1
  clear hp
  obtain ⟨i0, hi, hz0, hz1, hz2⟩ := info_of info_int
  obtain ⟨ad, rfl, _, _⟩ := o3.row.head (by rw [ints_length]; omega)
  have al := (Below.refl w3.heap.size w3).alloc (Nat.le_refl _) (.cells #[.int .i64 kd, .slice (some ad) zs.length c1, .string s] 27)
  have v4 := Blk.new_ w3 27 (.int .i64 kd) (.slice (some ad) zs.length c1) (.string s)
  have hn0 := Own.nil_new (w := w3.alloc (.cells #[.int .i64 kd, .slice (some ad) zs.length c1, .string s] 27)) (B := w3.heap.size + 1) (by simp)
  simp only [World.size_alloc] at hn0
  have hN := hid (((o3.row.alloc (Nat.le_refl _) (.cells #[.int .i64 kd, .slice (some ad) zs.length c1, .string s] 27)).alloc (by simp) (.cells #[] 3)).news)
  have u4 := u3.below al l3
  have b4 := b3.trans (al.mono b3.size)
  have b3s := b3.size
  clear u3 b3 al o3
  go_wp2_with (at_builtin; go_must (refine wpList_append_own _ rfl _ _ 22 rfl (w3.heap.size + 1) 3 i0 (.int .i64 0) 1 8 Try.underlying22 hi hz0 hz1 hz2 rfl (by decide) _ 0 [] rfl hn0 ad zs.length c1 (ints zs) rfl (by rw [ints_length]; omega) hN.out (ints_one zs) (by unfold maxLen; omega) (by omega) (by simp) ?_); intro v' w5 hown hg _; obtain ⟨g5, cap5, rfl, hgB, hglt⟩ := World.ownsRow.form hown (by omega); have v5 := (v4.below ((Below.refl (w3.heap.size + 1) (w3.alloc (.cells #[.int .i64 kd, .slice (some ad) zs.length c1, .string s] 27))).alloc (by simp) (.cells #[] 3)) (Nat.lt_succ_self _)).grown (row := some (w3.heap.size + 1)) hg (by simp); obtain ⟨k50, k51, k52, kf5⟩ := id v5.reads; have kf51 := kf5 1)
  have hgg : ((w3.alloc (.cells #[.int .i64 kd, .slice (some ad) zs.length c1, .string s] 27)).alloc (.cells #[] 3)).grownBy w5 (some (w3.heap.size + 1)) := hg
  have b5 : Below w.heap.size w w5 := (b4.alloc (by have := b4.size; omega) (.cells #[] 3)).grown hgg (by have := b4.size; simp at this ⊢; omega) (fun k hk => by have := b4.size; simp at this; injection hk with hk; omega)
  have h5 : Own w5 (w3.heap.size + 1) (.slice (some ⟨g5, 0, none⟩) zs.length cap5) zs := by
    have e : 0 + zs.length = zs.length := by omega
    rw [e] at hown
    exact hown
  have h6 := h5.far v5 1 (.slice (some ⟨g5, 0, none⟩) zs.length cap5)
  have v6 := v5.set1 (.slice (some ⟨g5, 0, none⟩) zs.length cap5)
  have b6 := b5.setCell (p := ⟨w3.heap.size, 1, none⟩) (by have := b4.size; simp at this ⊢; omega) (.slice (some ⟨g5, 0, none⟩) zs.length cap5)
  have z6 := b6.size
  clear hown hg hgg hgB hglt h5 v5 b5 k50 k51 k52 kf5 kf51 hn0 hN v4 b4 u4
  generalize w5.setCell ⟨w3.heap.size, 1, none⟩ (.slice (some ⟨g5, 0, none⟩) zs.length cap5) = w6 at *
  obtain ⟨n, hn⟩ : ∃ n, n + 1 = zs.length := ⟨zs.length - 1, by omega⟩
  have hnl : n < zs.length := by omega
  have hc5 : w6.cell? ⟨g5, zs.length - 1, none⟩ = some (.int .i64 zs[n]) := by
    have e : zs.length - 1 = n := by omega
    rw [e, World.ownsRow.cellAt h6 n (by omega), List.getElem?_eq_getElem (by rw [ints_length]; exact hnl), ints_get zs n hnl]
  have hf5 : w6.frozen? ⟨g5, zs.length - 1, none⟩ = false := World.ownsRow.frozenAt h6 _
  have hn0 : 0 ≤ ((zs.length : Nat) : Int) - 1 := by omega
  have hn1 : ((zs.length : Nat) : Int) - 1 < ((zs.length : Nat) : Int) := by omega
  have hx0 : 0 ≤ zs[n] := by have := (R zs[n] (List.getElem_mem hnl)).1; omega
  have hx1 := (R zs[n] (List.getElem_mem hnl)).2
  have hm0 : 0 ≤ (bs'.length : Int) % 5 := Int.emod_nonneg _ (by omega)
  have hm1 : (bs'.length : Int) % 5 < 5 := Int.emod_lt_of_pos _ (by omega)
  have hgne : g5 ≠ w3.heap.size := fun e => (h6.ne_ v6) (by rw [e]; rfl)
  obtain ⟨k60, k61, k62, kf6⟩ := id v6.reads
  clear kf6 R
  go_region
  obtain ⟨y, hy⟩ : ∃ y, y = zs[n] + 1 + (bs'.length : Int) % 5 := ⟨_, rfl⟩
  rw [← hy]
  have hne := oid_link_ne (kd := kd) (bs := s.data.toList) hn HV.out (y := y) (by omega) (by omega)
  have hneq : (oid kd (zs.set n y) s.data.toList != oid kd zs s.data.toList) = true := by rw [bne_iff_ne]; exact hne
  have v7 := v6.far (p := ⟨g5, zs.length - 1, none⟩) (fun e => hgne e.symm) (.int .i64 y)
  have h7 : Own (w6.setCell ⟨g5, zs.length - 1, none⟩ (.int .i64 y)) (w3.heap.size + 1) (.slice (some ⟨g5, 0, none⟩) zs.length cap5) (zs.set n y) := by
    have e := (World.ownsRow.stored h6 (zs.length - 1) (.int .i64 y)).1
    have e1 : zs.length - 1 = n := by omega
    have e2 : (ints zs).set n (.int .i64 y) = ints (zs.set n y) := by simp [ints, List.map_set]
    unfold Own
    rw [List.length_set, ← e2, ← e1]
    exact e
  have b7 := b6.setCell (p := ⟨g5, zs.length - 1, none⟩) (by have := (World.ownsRow.lt h6 g5 rfl).1; show w.heap.size ≤ g5; have := b3s; omega) (.int .i64 y)
  have c7 : (w6.setCell ⟨g5, zs.length - 1, none⟩ (.int .i64 y)).cell? ⟨g5, zs.length - 1, none⟩ = some (.int .i64 y) := by
    exact World.cell?_setCell_same w6 _ _ hc5
  clear hc5 hf5 h6 v6 b6 k60 k61 k62 hne hy
  generalize w6.setCell ⟨g5, zs.length - 1, none⟩ (.int .i64 y) = w7 at *
  obtain ⟨k70, k71, k72, kf7⟩ := id v7.reads
  clear kf7
  by_cases hy9 : y ≤ 990
  · have C := implObjectId_any w7.heap.size (some ⟨g5, 0, none⟩) cap5 kd (zs.set n y) s w7.drew (show Row w7.drew w7.heap.size (some ⟨g5, 0, none⟩) (ints (zs.set n y)) from (show Own w7 (w3.heap.size + 1) (.slice (some ⟨g5, 0, none⟩) (zs.set n y).length cap5) (zs.set n y) by rw [List.length_set]; exact h7).row) (Nat.le_refl _) (by rw [List.length_set]; exact hm) hs'
    rw [List.length_set] at C
    have CH := hid C
    clear C
    go_wp2_with fail
    refine CH.out.mono ?_
    rintro e w8 ⟨rfl, hb8⟩
    go_wp2
    go_ret
    exact .mk_ ((b7.drew).trans (hb8.mono b7.size))
  · go_wp2
    go_ret
    exact .mk_ b7.drew
theorem FnIdLinks_any (A : Option Addr) (c : Nat) (bs : List Int) (A' : Option Addr) (c' : Nat) (bs' : List Int) (w : World) (f1 : Row w w.heap.size A (bs.map (Value.int .u8))) (f2 : bs.length ≤ c) (f3 : c ≤ maxLen) (f4 : ∀ n ∈ bs, 0 ≤ n ∧ n < 256) (g1 : Row w w.heap.size A' (bs'.map (Value.int .u8))) (g2 : bs'.length ≤ c') (g3 : c' ≤ maxLen) (g4 : ∀ n ∈ bs', 0 ≤ n ∧ n < 256) :
    Calls Try.prog 6 #[.slice A bs.length c, .slice A' bs'.length c'] w (Ret (.bool true) w) := by
  by_cases hl : bs.length ≤ 1048576 ∧ bs'.length ≤ 1048576
  · exact FnIdLinks_yes A c bs A' c' bs' w ⟨f1, f2, f3, f4⟩ ⟨g1, g2, g3, g4⟩ hl.1 hl.2
  · exact FnIdLinks_no A c bs A' c' bs' w ⟨f1, f2, f3, f4⟩ ⟨g1, g2, g3, g4⟩ hl
end Go.Proofs.Ytglcnlinfojflaa
