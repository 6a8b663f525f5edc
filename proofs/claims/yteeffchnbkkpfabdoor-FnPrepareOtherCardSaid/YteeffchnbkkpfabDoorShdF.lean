/-
  Walks: copies of shards, records appended, by the model.
-/
import Derived.Test.YteeffchnbkkpfabDoorShdE
import Derived.Deep.Cut
namespace Go.Proofs.YteeffchnbkkpfabDoor
open Go.RowKit Wo Pu Rf Lk Sh

/-- What the loop over records has laid: the argument's box, the result's, the copy's at g with the records out. -/
def CpS (w : World) (A : Option Addr) (n c q g : Nat) (Ao : Option Addr) (co : Nat) (out : List Rec) (wr : World) : Prop :=
  Blk1 wr w.heap.size 25 (.slice A n c) ∧ Blk1 wr q 25 (.slice none 0 0) ∧ Blk1 wr g 25 (.slice Ao out.length co) ∧ (w.heap.size < q ∧ q < g) ∧ OwnRecs wr w.heap.size (.slice Ao out.length co) out ∧ Below w.heap.size w wr
section
variable {w wr w6 w8 : World} {A Ao A5 : Option Addr} {n c q g co c5 : Nat} {out : List Rec}
theorem CpS.later (h : CpS w A n c q g Ao co out wr) (hb : Below wr.heap.size wr w6) : CpS w A n c q g Ao co out w6 := by
  obtain ⟨h1, h2, h3, h4, h5, h6⟩ := h
  exact ⟨h1.later hb, h2.later hb, h3.later hb, h4, h5.below hb, h6.trans (hb.mono h6.size)⟩
theorem CpS.put {r : Rec} {v' : Value} {ys : List Value} (h : CpS w A n c q g Ao co out w6) (har : ∀ j (hj : j < out.length), RecIs w6 w.heap.size ys j out[j]) (hrow : w6.ownsRow w.heap.size 33 3 (.slice Ao out.length co) out.length ys)
    (o5 : OwnUps w6 w.heap.size (.slice A5 r.us.length c5) r.us) (hc5 : r.us.length ≤ c5)
    (hown : w8.ownsRow w.heap.size 33 3 v' (out.length + 1) (ys ++ [.int .i64 r.k, .int .i64 r.t, .slice A5 r.us.length c5])) (hg : (w6.alloc (.cells #[.int .i64 r.k, .int .i64 r.t, .slice A5 r.us.length c5] 33)).grownBy w8 (Value.slice Ao out.length co).ownBlock) :
    ∃ Ao' co', v' = .slice Ao' (out.length + 1) co' ∧ (w8.cell? ⟨g, 0, none⟩ = some (.slice Ao out.length co) ∧ w8.frozen? ⟨g, 0, none⟩ = false) ∧ CpS w A n c q g Ao' co' (out ++ [r]) (w8.setCell ⟨g, 0, none⟩ (.slice Ao' (out.length + 1) co')) := by
  obtain ⟨h1, h2, h3, ⟨h4, h7⟩, h5, h6⟩ := h
  have al := (Below.refl w6.heap.size w6).alloc (Nat.le_refl _) (.cells #[.int .i64 r.k, .int .i64 r.t, .slice A5 r.us.length c5] 33)
  have hrow' := World.ownsRow.alloc hrow (.cells #[.int .i64 r.k, .int .i64 r.t, .slice A5 r.us.length c5] 33)
  have oa := OwnRecs.app har hc5 o5 hrow hown hg
  have hlt := World.ownsRow.lt hrow
  have k1 := (h1.later al).grown hg (blk_ne_row (h1.later al) hrow' (by decide))
  have k2 := (h2.later al).grown hg (blk_ne_row (h2.later al) hrow' (by decide))
  have k3 := (h3.later al).grown hg (blk_ne_row (h3.later al) hrow' (by decide))
  have hb8 : Below w.heap.size w w8 := (h6.alloc h6.size _).grown hg (by have := h6.size; simp; omega) (fun j hj => (hlt j hj).1)
  obtain ⟨Ao', co', e, -, -⟩ := oa.form
  rw [List.length_append, List.length_singleton] at e
  subst e
  refine ⟨Ao', co', rfl, ⟨k3.reads.1, k3.reads.2 0⟩, k1.far (by show w.heap.size ≠ g; omega) _, k2.far (by show q ≠ g; omega) _, ?_, ⟨h4, h7⟩, ?_, hb8.setCell (by show w.heap.size ≤ g; omega) _⟩
  · rw [List.length_append, List.length_singleton]
    exact k3.set0 _
  · rw [List.length_append, List.length_singleton]
    exact oa.keptT (by decide) (by decide) (but_set w8 g 0 _) (blk_type k3)
end
set_option linter.unusedSimpArgs false in
set_option maxRecDepth 100000 in
set_option maxHeartbeats 8000000 in
theorem l21Copy_any (v : Value) (rs : List Rec) (w : World) (h : Shd w w.heap.size v rs) (hf : FitR rs) :
    Calls Tryd.prog 67 #[v] w (NewSh rs w) := by
  obtain ⟨i0, hi, hz0, hz1, hz2⟩ := info_of info_rec
  obtain ⟨i1, hj, hy0, hy1, hy2⟩ := info_of info_up
  obtain ⟨A, c, rfl, h0, hc⟩ := h
  unfold shV
  have b0 := ((Below.refl w.heap.size w).alloc (Nat.le_refl _) (.cells #[.slice A rs.length c] 25)).alloc (by simp) (.cells #[.slice none 0 0] 25)
  have x0 := (Blk1.new_ w 25 (.slice A rs.length c)).alloc (.cells #[.slice none 0 0] 25)
  have x1 := Blk1.new_ (w.alloc (.cells #[.slice A rs.length c] 25)) 25 (.slice none 0 0)
  rw [World.size_alloc] at x1
  go_enter Tryd.func67, Tryd.ntmps67
  obtain ⟨w1, hw1⟩ : ∃ w1, (w.alloc (.cells #[.slice A rs.length c] 25)).alloc (.cells #[.slice none 0 0] 25) = w1 := ⟨_, rfl⟩
  have z1 : w1.heap.size = w.heap.size + 2 := by rw [← hw1]; simp
  rw [hw1] at b0 x0 x1
  have al := ((Below.refl w1.heap.size w1).alloc (Nat.le_refl _) (.cells #[] 33)).alloc (by simp) (.cells #[.slice (some ⟨w1.heap.size, 0, none⟩) 0 0] 25)
  have x2 := Blk1.new_ (w1.alloc (.cells #[] 33)) 25 (.slice (some ⟨w1.heap.size, 0, none⟩) 0 0)
  have o2 := (OwnRecs.nil_new (w := w1) (B := w.heap.size) b0.size).below ((Below.refl _ _).alloc (Nat.le_refl _) (.cells #[.slice (some ⟨w1.heap.size, 0, none⟩) 0 0] 25))
  rw [World.size_alloc, z1] at x2
  rw [z1] at o2 al
  have S0 : CpS w A rs.length c (w.heap.size + 1) (w.heap.size + 2 + 1) (some ⟨w.heap.size + 2, 0, none⟩) 0 [] _ := ⟨x0.later (z1 ▸ al), x1.later (z1 ▸ al), x2, ⟨by omega, by omega⟩, o2, b0.trans (al.mono (by omega))⟩
  clear b0 x0 x1 al x2 o2
  go_upto_region 2 with fail
  clear hw1
  generalize (w1.alloc (.cells #[] 33)).alloc (.cells #[.slice (some ⟨w.heap.size + 2, 0, none⟩) 0 0] 25) = w2 at *
  clear z1
  go_wp2_with fail
  go_loopw [4] (fun i wr => ∃ (k : Nat) (Ao : Option Addr) (co : Nat), k ≤ rs.length ∧ i = .int .i64 k ∧ CpS w A rs.length c (w.heap.size + 1) (w.heap.size + 2 + 1) Ao co (rs.take k) wr) (fun i _ => rs.length - (intOf i).toNat)
  case atStart => exact ⟨0, _, _, Nat.zero_le _, rfl, S0⟩
  case round =>
    obtain ⟨k, Ao, co, hk, rfl, S⟩ := hrel
    clear S0
    have hb := S.2.2.2.2.2
    have hz := hb.size
    obtain ⟨y0, -⟩ := id S.1.reads
    by_cases hlt : k < rs.length
    · obtain ⟨r, ad, A', c', ho, rfl, ha, g0, g1, g2, g3, g4⟩ := (h0.below hb (Nat.le_refl _)).rec hlt
      have q0 : (0 : Int) ≤ (k : Int) := by omega
      have q1 : (k : Int) < (rs.length : Int) := by omega
      have hT : Hid (rs.take (k + 1) = rs.take k ++ [r]) := by
        show _ = _
        rw [List.take_succ_eq_append_getElem hlt, ho]
      have hr1 := hf.2 r (by rw [← ho]; exact List.getElem_mem hlt)
      have hf1 := hf.1
      have hol : (rs.take k).length ≤ 1048576 := by rw [List.length_take]; omega
      obtain ⟨out, hout⟩ : ∃ out, rs.take k = out := ⟨_, rfl⟩
      rw [hout] at S hT hol
      have HS := hid S
      have x3 := Blk3s.new_ wr 33 (.int .i64 r.k) (.int .i64 r.t) (.slice A' r.us.length c')
      have al := (Below.refl wr.heap.size wr).alloc (Nat.le_refl _) (.cells #[.int .i64 r.k, .int .i64 r.t, .slice A' r.us.length c'] 33)
      clear hout ho S
      go_upto_region 6 with fail
      obtain ⟨w3, hw3⟩ : ∃ w3, wr.alloc (.cells #[.int .i64 r.k, .int .i64 r.t, .slice A' r.us.length c'] 33) = w3 := ⟨_, rfl⟩
      rw [hw3] at x3 al ⊢
      clear hw3 y0 g0 g1 g2
      have z3 := al.size
      have al3 := (Below.refl w3.heap.size w3).alloc (Nat.le_refl _) (.cells #[] 100)
      obtain ⟨-, -, e2, -⟩ := (x3.later al3).reads
      have r3 := g4.below al hz
      have hw3 := Nat.le_trans hz z3
      go_upto_region 7 with (at_builtin; go_must (refine wpList_append_row _ rfl _ _ 31 rfl w.heap.size 100 i1 (.agg #[.int .i64 0, .int .i64 0, .int .i64 0]) 3 24 Tryd.underlying31 hj hy0 hy1 hy2 rfl (by decide) _ 0 [] rfl (nil_own hw3 _ _) w.heap.size A' r.us.length c' (upsV r.us) rfl (r3.below al3 hw3) (upsV_length _) (upsV_cells _) (by unfold maxLen; omega) (by omega) (by simp; omega) ?_); intro v5 w5 hown5 hg5; rw [Nat.zero_add, List.nil_append] at hown5; have b5 : Below w3.heap.size w3 w5 := al3.grown hg5 (by simp) (fun j hj => (by injection hj with hj; exact Nat.le_of_eq hj)); have x5 := x3.later b5; obtain ⟨e0, e1, e2, ef⟩ := id x5.reads; have ef2 := ef 2; obtain ⟨A5, c5, rfl, -, hc5⟩ := OwnUps.form hown5)
      clear e0 e1 e2 ef ef2
      have b6 := (al.trans (b5.mono z3)).setCell (p := ⟨wr.heap.size, 2, none⟩) (Nat.le_refl _) (.slice A5 r.us.length c5)
      have x6 := x5.set2 (.slice A5 r.us.length c5)
      have o6 : OwnUps (w5.setCell ⟨wr.heap.size, 2, none⟩ (.slice A5 r.us.length c5)) w.heap.size (.slice A5 r.us.length c5) r.us := OwnUps.keptT hown5 (by decide) (but_set w5 wr.heap.size 2 _) (blk_type x5)
      obtain ⟨w6, hw6⟩ : ∃ w6, w5.setCell ⟨wr.heap.size, 2, none⟩ (.slice A5 r.us.length c5) = w6 := ⟨_, rfl⟩
      rw [hw6] at b6 x6 o6 ⊢
      clear hw6 x5 b5 hown5 hg5 al x3 al3 r3 g4
      have S6 := HS.out.later b6
      obtain ⟨ys, hrow, har⟩ := id S6.2.2.2.2.1
      obtain ⟨y0, yf⟩ := id S6.2.2.1.reads
      obtain ⟨e0, e1, e2, -⟩ := id x6.reads
      have z6 := S6.2.2.2.2.2.size
      have t0 := (S6.later ((Below.refl w6.heap.size w6).alloc (Nat.le_refl _) (.cells #[.int .i64 r.k, .int .i64 r.t, .slice A5 r.us.length c5] 33))).2.2.1.reads.1
      clear hb hz hw3
      go_wp2_with (at_builtin; go_must (refine wpList_append_row _ rfl _ _ 23 rfl w.heap.size 33 i0 (.agg #[.int .i64 0, .int .i64 0, .slice none 0 0]) 3 40 Tryd.underlying23 hi hz0 hz1 hz2 rfl (by decide) _ out.length ys rfl (World.ownsRow.alloc hrow _) _ (some ⟨w6.heap.size, 0, none⟩) 1 1 [.int .i64 r.k, .int .i64 r.t, .slice A5 r.us.length c5] rfl (row_threeR w6 _ _ _ _) rfl (rec_cells _ _ _ _ _) (by unfold maxLen; omega) (by omega) (by simp; omega) ?_); intro v8 w8 hown8 hg8; obtain ⟨Ao8, co8, rfl, ⟨u0, uf⟩, S8⟩ := S6.put har hrow o6 hc5 hown8 hg8)
      clear S6
      go_roundw
      case rel => exact ⟨k + 1, Ao8, co8, hlt, by go_num, by rw [hT.out]; simpa using S8⟩
      case measure => simp [intOf]; omega
    · have hk' : k = rs.length := by omega
      subst hk'
      rw [List.take_length] at S
      obtain ⟨s1, s2, s3, s4, s5, s6⟩ := S
      obtain ⟨t0, tf⟩ := id s2.reads
      obtain ⟨u0, -⟩ := id s3.reads
      have tf0 := tf 0
      clear tf
      have o9 := s5.keptT (by decide) (by decide) (but_set wr (w.heap.size + 1) 0 (.slice Ao rs.length co)) (blk_type s2)
      have b9 := s6.setCell (p := ⟨w.heap.size + 1, 0, none⟩) (Nat.le_succ _) (.slice Ao rs.length co)
      obtain ⟨p0, -⟩ := (s2.set0 (.slice Ao rs.length co)).reads
      clear s1 s2 s3 s5 s6
      go_wp2
      exact bodyPost_ret (v := .agg #[.slice Ao rs.length co]) (by simp [results, Tryd.results67, go_sem, p0]) rfl ⟨_, rfl, OwnSh.mk_ o9, b9⟩
set_option linter.unusedSimpArgs false in
set_option maxRecDepth 100000 in
set_option maxHeartbeats 8000000 in
theorem l21Add_any (b : Bool) (xs : List Rec) (v : Value) (rs : List Rec) (A3 : Option Addr) (c3 : Nat) (r : Rec) (w : World) (h : Shd w w.heap.size v rs) (h30 : rs.length ≤ 30) (hf : FitR rs) (hu : Row w w.heap.size A3 (upsV r.us)) (hul : r.us.length ≤ 1048576) (hb : b = true ↔ Vld (rs ++ [r])) (hxs : xs = if b then rs ++ [r] else rs) :
    Calls Tryd.prog 68 #[v, .agg #[.int .i64 r.k, .int .i64 r.t, .slice A3 r.us.length c3]] w (NewShB xs b w) := by
  obtain ⟨i0, hi, hz0, hz1, hz2⟩ := info_of info_rec
  obtain ⟨i1, hj, hy0, hy1, hy2⟩ := info_of info_up
  have HB := hid hb
  have HX := hid hxs
  clear hb hxs
  have hf9 : FitR (rs ++ [r]) := ⟨by simp; omega, fun x hx => by
    rcases List.mem_append.1 hx with hx | hx
    · exact hf.2 x hx
    · rw [List.mem_singleton] at hx; subst hx; exact hul⟩
  have HV := hid (specShardValid_is b · (rs ++ [r]) · · hf9 HB.out)
  have HC := hid (l21Copy_any · rs · · hf)
  obtain ⟨A, c, rfl, h0, hc⟩ := h
  unfold shV at *
  have b0 := (((Below.refl w.heap.size w).alloc (Nat.le_refl _) (.cells #[.slice A rs.length c] 25)).alloc (by simp) (.cells #[.int .i64 r.k, .int .i64 r.t, .slice A3 r.us.length c3] 33)).alloc (by simp; omega) (.cells #[.slice none 0 0] 25)
  have x0 := ((Blk1.new_ w 25 (.slice A rs.length c)).alloc (.cells #[.int .i64 r.k, .int .i64 r.t, .slice A3 r.us.length c3] 33)).alloc (.cells #[.slice none 0 0] 25)
  have x1 := (Blk3s.new_ (w.alloc (.cells #[.slice A rs.length c] 25)) 33 (.int .i64 r.k) (.int .i64 r.t) (.slice A3 r.us.length c3)).alloc (.cells #[.slice none 0 0] 25)
  have x2 := Blk1.new_ ((w.alloc (.cells #[.slice A rs.length c] 25)).alloc (.cells #[.int .i64 r.k, .int .i64 r.t, .slice A3 r.us.length c3] 33)) 25 (.slice none 0 0)
  rw [World.size_alloc] at x1 x2
  rw [World.size_alloc] at x2
  go_enter Tryd.func68, Tryd.ntmps68
  go_upto_region 1 with fail
  obtain ⟨w1, hw1⟩ : ∃ w1, ((w.alloc (.cells #[.slice A rs.length c] 25)).alloc (.cells #[.int .i64 r.k, .int .i64 r.t, .slice A3 r.us.length c3] 33)).alloc (.cells #[.slice none 0 0] 25) = w1 := ⟨_, rfl⟩
  have z1 : w1.heap.size = w.heap.size + 3 := by rw [← hw1]; simp
  rw [hw1] at b0 x0 x1 x2 ⊢
  clear hw1
  have y0 := x0.reads.1
  have h1 := h0.on b0
  go_wp2_with fail
  refine (HC.out _ w1 ⟨A, c, rfl, h1, hc⟩).mono ?_
  rintro e w2 ⟨v2, rfl, o2, d2⟩
  have b2 := b0.trans (d2.mono b0.size)
  obtain ⟨Ao, co, rfl, o2, -⟩ := o2
  unfold shV
  have al := (Below.refl w2.heap.size w2).alloc (Nat.le_refl _) (.cells #[.slice Ao rs.length co] 25)
  replace x0 := (x0.later d2).later al
  replace x1 := (x1.later d2).later al
  replace x2 := (x2.later d2).later al
  have x4 := Blk1.new_ w2 25 (.slice Ao rs.length co)
  replace o2 := o2.below al
  replace b2 := b2.trans (al.mono b2.size)
  have hg : w.heap.size + 1 + 1 < w2.heap.size := by have := d2.size; omega
  clear b0 d2 h1 y0
  go_upto_region 2 with fail
  obtain ⟨w3, hw3⟩ : ∃ w3, w2.alloc (.cells #[.slice Ao rs.length co] 25) = w3 := ⟨_, rfl⟩
  rw [hw3] at al x0 x1 x2 x4 o2 b2 ⊢
  clear hw3 al
  have al3 := (Below.refl w3.heap.size w3).alloc (Nat.le_refl _) (.cells #[] 100)
  obtain ⟨-, -, e2, -⟩ := (x1.later al3).reads
  have z3 := b2.size
  have r3 := hu.below b2 (Nat.le_refl _)
  go_upto_region 3 with (at_builtin; go_must (refine wpList_append_row _ rfl _ _ 31 rfl w.heap.size 100 i1 (.agg #[.int .i64 0, .int .i64 0, .int .i64 0]) 3 24 Tryd.underlying31 hj hy0 hy1 hy2 rfl (by decide) _ 0 [] rfl (nil_own z3 _ _) w.heap.size A3 r.us.length c3 (upsV r.us) rfl (r3.below al3 z3) (upsV_length _) (upsV_cells _) (by unfold maxLen; omega) (by omega) (by simp; omega) ?_); intro v5 w5 hown5 hg5; rw [Nat.zero_add, List.nil_append] at hown5; have b5 : Below w3.heap.size w3 w5 := al3.grown hg5 (by simp) (fun j hj => (by injection hj with hj; exact Nat.le_of_eq hj)); have x5 := x1.later b5; obtain ⟨e0, e1, e2, ef⟩ := id x5.reads; have ef2 := ef 2; obtain ⟨A5, c5, rfl, -, hc5⟩ := OwnUps.form hown5)
  clear e0 e1 e2 ef ef2
  have hne : w.heap.size ≠ w.heap.size + 1 := by omega
  have hne2 : w.heap.size + 1 + 1 ≠ w.heap.size + 1 := by omega
  have hne4 : w2.heap.size ≠ w.heap.size + 1 := by omega
  replace x0 := (x0.later b5).far (p := ⟨w.heap.size + 1, 2, none⟩) hne (.slice A5 r.us.length c5)
  replace x2 := (x2.later b5).far (p := ⟨w.heap.size + 1, 2, none⟩) hne2 (.slice A5 r.us.length c5)
  replace x4 := (x4.later b5).far (p := ⟨w.heap.size + 1, 2, none⟩) hne4 (.slice A5 r.us.length c5)
  have o6 : OwnUps (w5.setCell ⟨w.heap.size + 1, 2, none⟩ (.slice A5 r.us.length c5)) w.heap.size (.slice A5 r.us.length c5) r.us := OwnUps.keptT hown5 (by decide) (but_set w5 (w.heap.size + 1) 2 _) (blk_type x5)
  have x6 := x5.set2 (.slice A5 r.us.length c5)
  replace o2 := ((o2.below b5).but (but_set w5 (w.heap.size + 1) 2 (.slice A5 r.us.length c5)) (by omega)).base (B' := w.heap.size) (by omega)
  have b6 := (b2.trans (b5.mono z3)).setCell (p := ⟨w.heap.size + 1, 2, none⟩) (Nat.le_succ _) (.slice A5 r.us.length c5)
  obtain ⟨w6, hw6⟩ : ∃ w6, w5.setCell ⟨w.heap.size + 1, 2, none⟩ (.slice A5 r.us.length c5) = w6 := ⟨_, rfl⟩
  rw [hw6] at b6 x0 x2 x4 x6 o6 o2 ⊢
  have S6 : CpS w A rs.length c (w.heap.size + 1 + 1) w2.heap.size Ao co rs w6 := ⟨x0, x2, x4, ⟨by omega, hg⟩, o2, b6⟩
  clear hw6 x0 x2 x4 x1 x5 o2 b6 b2 b5 al3 r3 hown5 hg5 hne hne2 hne4
  obtain ⟨ys, hrow, har⟩ := id S6.2.2.2.2.1
  obtain ⟨y0, yf⟩ := id S6.2.2.1.reads
  obtain ⟨e0, e1, e2, -⟩ := id x6.reads
  have z6 := S6.2.2.2.2.2.size
  go_upto_region 4 with (at_builtin; go_must (refine wpList_append_row _ rfl _ _ 23 rfl w.heap.size 33 i0 (.agg #[.int .i64 0, .int .i64 0, .slice none 0 0]) 3 40 Tryd.underlying23 hi hz0 hz1 hz2 rfl (by decide) _ rs.length ys rfl (World.ownsRow.alloc hrow _) _ (some ⟨w6.heap.size, 0, none⟩) 1 1 [.int .i64 r.k, .int .i64 r.t, .slice A5 r.us.length c5] rfl (row_threeR w6 _ _ _ _) rfl (rec_cells _ _ _ _ _) (by unfold maxLen; omega) (by omega) (by simp; omega) ?_); intro v8 w8 hown8 hg8; obtain ⟨Ao8, co8, rfl, ⟨u0, uf⟩, S8⟩ := S6.put har hrow o6 hc5 hown8 hg8)
  obtain ⟨W9, hW9⟩ : ∃ x, w8.setCell ⟨w2.heap.size, 0, none⟩ (.slice Ao8 (rs.length + 1) co8) = x := ⟨_, rfl⟩
  rw [hW9] at S8 ⊢
  have hl9 : (rs ++ [r]).length = rs.length + 1 := by simp
  obtain ⟨s1, s2, s3, -, s5, s6⟩ := S8
  rw [hl9] at s3 s5
  have sh9 := (OwnSh.mk_ s5).shd
  clear hW9 S6 y0 yf e0 e1 e2 hrow har o6 x6 hown8 hg8 u0 uf hl9 z6
  obtain ⟨y0, -⟩ := id s3.reads
  go_wp2_with fail
  refine (HV.out _ W9 sh9).mono ?_
  rintro e w10 ⟨rfl, d10⟩
  replace s1 := s1.later d10
  replace s2 := s2.later d10
  replace s3 := s3.later d10
  replace s5 := s5.below d10
  replace s6 := s6.trans (d10.mono s6.size)
  clear d10 y0 sh9 HV
  cases b with
  | false =>
    obtain rfl : xs = rs := by rw [HX.out]; simp
    have h10 := h0.on s6
    obtain ⟨y0, -⟩ := id s1.reads
    go_wp2_with fail
    refine (HC.out _ w10 ⟨A, c, rfl, h10, hc⟩).mono ?_
    rintro e w11 ⟨v11, rfl, o11, d11⟩
    obtain ⟨A6, c6, rfl, o11, -⟩ := o11
    unfold shV
    have t2 := s2.later d11
    have b11 := s6.trans (d11.mono s6.size)
    obtain ⟨t0, tf⟩ := id t2.reads
    have tf0 := tf 0
    have o12 := (o11.keptT (by decide) (by decide) (but_set w11 (w.heap.size + 1 + 1) 0 (.slice A6 xs.length c6)) (blk_type t2)).base s6.size
    have b12 := b11.setCell (p := ⟨w.heap.size + 1 + 1, 0, none⟩) (by show w.heap.size ≤ w.heap.size + 1 + 1; omega) (.slice A6 xs.length c6)
    obtain ⟨p0, -⟩ := (t2.set0 (.slice A6 xs.length c6)).reads
    clear tf s1 s2 s3 s5 s6 y0 d11 b11 h10 o11 t2
    go_wp2
    exact bodyPost_ret (v := .tuple #[.agg #[.slice A6 xs.length c6], .bool false]) (by simp [results, Tryd.results68, go_sem, p0]) rfl ⟨_, rfl, OwnSh.mk_ o12, b12⟩
  | true =>
    obtain rfl : xs = rs ++ [r] := by rw [HX.out]; simp
    obtain ⟨y0, -⟩ := id s3.reads
    obtain ⟨t0, tf⟩ := id s2.reads
    have tf0 := tf 0
    have o12 := s5.keptT (by decide) (by decide) (but_set w10 (w.heap.size + 1 + 1) 0 (.slice Ao8 (rs.length + 1) co8)) (blk_type s2)
    have b12 := s6.setCell (p := ⟨w.heap.size + 1 + 1, 0, none⟩) (by show w.heap.size ≤ w.heap.size + 1 + 1; omega) (.slice Ao8 (rs.length + 1) co8)
    obtain ⟨p0, -⟩ := (s2.set0 (.slice Ao8 (rs.length + 1) co8)).reads
    clear tf s1 s2 s3 s5 s6
    go_wp2
    exact bodyPost_ret (v := .tuple #[.agg #[.slice Ao8 (rs.length + 1) co8], .bool true]) (by simp [results, Tryd.results68, go_sem, p0]) rfl ⟨_, rfl, OwnSh.mk_ o12, b12⟩
end Go.Proofs.YteeffchnbkkpfabDoor
