/-
  Walks: objects drawn for an area.
-/
import Derived.Test.YtblknnifccmpkaaDrawSt
import Derived.Test.YtblknnifccmpkaaG7C
namespace Go.Proofs.Ytblknnifccmpkaa
open Go.RowKit Wo Pu Qu

/-- Objects have been drawn for an area. -/
def SomeDrawn (R : Nat) (q : Int) (w : World) (e : Ending) (w' : World) : Prop :=
  ∃ v os, e = .returned v ∧ OwnObs w' w.heap.size v os ∧ os.length ≤ 3 ∧ (∀ p ∈ os, vOb p = true) ∧ Rd w' R (q + 10000) ∧ But R w w'
/-- The objects so far. -/
def SmSt (R : Nat) (q : Int) (k : Nat) (w : World) (v3 v4 : Value) (wx : World) : Prop :=
  ∃ (os : List Ob) (L : List Int), OwnObs wx w.heap.size v3 os ∧ os.length ≤ k ∧ (∀ p ∈ os, vOb p = true) ∧ Own wx w.heap.size v4 L ∧ L.length ≤ 22 + k ∧ Rd wx R (q + 1 + 2000 * k) ∧ But R w wx
set_option maxRecDepth 100000 in
set_option maxHeartbeats 8000000 in
theorem l92Some_any (R : Nat) (q : Int) (A : Option Addr) (c : Nat) (ms : List Ob) (w : World) (hR : Rd w R q) (hq : q ≤ 500000000) (hs : OwnObs w (R + 1) (.slice A ms.length c) ms) (hl : ms.length ≤ 22) (hv : ∀ p ∈ ms, vOb p = true) :
    Calls Try.prog 59 #[.pointer (some ⟨R, 0, none⟩), .slice A ms.length c] w (SomeDrawn R q w) := by
  obtain ⟨i0, hi, hz0, hz1, hz2⟩ := info_of info_int
  have hRw := hR.lt
  have hm0 := hs.objs
  have HV := hid hv
  have aO := (Below.refl w.heap.size w).alloc (Nat.le_refl _) (.cells #[] 38)
  have nO : OwnObs (w.alloc (.cells #[] 38)) w.heap.size (.slice (some ⟨w.heap.size, 0, none⟩) 0 0) [] := OwnObs.nil_new (Nat.le_refl _)
  obtain ⟨W0, hW0⟩ : ∃ W0, w.alloc (.cells #[] 38) = W0 := ⟨_, rfl⟩
  have zW : W0.heap.size = w.heap.size + 1 := by rw [← hW0]; simp
  have aI := (Below.refl W0.heap.size W0).alloc (Nat.le_refl _) (.cells #[] 3)
  have nI : Own (W0.alloc (.cells #[] 3)) W0.heap.size (.slice (some ⟨W0.heap.size, 0, none⟩) 0 0) [] := .nil_new (Nat.le_refl _)
  rw [hW0] at aO nO
  rw [zW] at nI aI
  clear hv hs
  go_enter Try.func59, Try.ntmps59
  go_wp2_with fail
  go_loopw [6, 7] (fun v6 i wr => ∃ (k : Nat) (L : List Int), k ≤ ms.length ∧ i = .int .i64 k ∧ Own wr (w.heap.size + 1) v6 L ∧ L.length ≤ k ∧ Below (w.heap.size + 1) W0 wr) (fun _ i _ => ms.length - (intOf i).toNat)
  case atStart => exact ⟨0, [], Nat.zero_le _, rfl, by first | exact nI | (subst hW0; exact nI), Nat.le_refl _, by first | exact aI | (subst hW0; exact aI)⟩
  case round =>
    obtain ⟨k, L, hk, rfl, ho, hL, hb⟩ := hrel
    clear nI aI
    have hz := hb.size
    have bw : Below w.heap.size w wr := aO.trans (hb.mono (by omega))
    by_cases hlt : k < ms.length
    · obtain ⟨o, ad, A', c', hoe, rfl, ha, g0, g1, g2, g3⟩ := ((hm0.below bw (Nat.le_refl _)).more bw.size).obj hlt
      have q0 : (0 : Int) ≤ (k : Int) := by omega
      have q1 : (k : Int) < (ms.length : Int) := by omega
      have hvo : vOb o = true := by rw [← hoe]; exact HV.out _ (List.getElem_mem hlt)
      obtain ⟨A4, c4, rfl, _⟩ := ho.form
      clear hoe
      go_wp2_with fail
      refine (l1Of_val _ wr.heap.size A' c' o wr g3 (Nat.le_refl _) hvo rfl).mono ?_
      rintro e w6 ⟨rfl, hb6⟩
      have i6 := ho.below hb6 (Nat.le_refl _)
      have lt4 := World.ownsRow.lt i6
      have b6 := hb.trans (hb6.mono (by omega))
      have z6 := b6.size
      go_wp2_with (at_builtin; go_must (refine wpList_append_own _ rfl _ _ 36 rfl (w.heap.size + 1) 3 i0 (.int .i64 0) 1 8 Try.underlying36 hi hz0 hz1 hz2 rfl (by decide) _ L.length (ints L) rfl (World.ownsRow.alloc i6 _) ⟨w6.heap.size, 0, none⟩ 1 1 [.int .i64 (iOb o)] rfl rfl (cell_one_new _ _ _) (one_int _) (by unfold maxLen; omega) (by omega) (by simp; omega) ?_); intro v' w7 hown hg _)
      have i7 : Own w7 (w.heap.size + 1) v' (L ++ [iOb o]) := Own.app hown
      have b7 : Below (w.heap.size + 1) W0 w7 := (b6.alloc (by omega) (.cells #[.int .i64 (iOb o)] 3)).grown hg (by simp; omega) (fun j hj => (lt4 j hj).1)
      clear hown hg i6
      go_roundw
      case rel => exact ⟨k + 1, L ++ [iOb o], by omega, by go_num, i7, by simp; omega, b7⟩
      case measure => simp [intOf]; omega
    · have R1 := hR.below bw hRw
      have oO := nO.below (show Below W0.heap.size W0 wr by rw [zW]; exact hb)
      go_wp2_with fail
      refine (pick_any R q 3 wr R1 (by omega) (by omega) (by omega)).mono ?_
      rintro e w2 ⟨x, rfl, x0, x1, R2, T2⟩
      have S0 : SmSt R q 0 w (.slice (some ⟨w.heap.size, 0, none⟩) 0 0) u6 w2 := ⟨[], L, oO.but T2 hRw, Nat.le_refl _, (fun p hp => by cases hp), (ho.but T2 (by omega)).base (by omega), by omega, R2.more (by omega), (But.of_below bw).trans T2⟩
      clear oO ho R1 R2 T2 bw hb hlt hk hL hm0 nO aO HV hR hz hl
      obtain ⟨n, hn⟩ : ∃ n : Int, n = 1 + x := ⟨_, rfl⟩
      have hn3 : n.toNat ≤ 3 := by omega
      have hn0 : 0 ≤ n := by omega
      go_wp2_with fail
      rw [← hn]
      clear hn x0 x1
      go_loopw [5, 6, 9] (fun v3 v4 i wr => ∃ k : Nat, k ≤ n.toNat ∧ i = .int .i64 k ∧ SmSt R q k w v3 v4 wr) (fun _ _ i _ => n.toNat - (intOf i).toNat)
      case atStart => exact ⟨0, Nat.zero_le _, rfl, S0⟩
      case round =>
        clear S0
        obtain ⟨k, hk, rfl, os, L, h1, h2, h3, h4, h5, h6, h7⟩ := hrel
        by_cases hlt : (k : Int) < n
        · obtain ⟨A4, c4, rfl, _⟩ := h4.form
          obtain ⟨A3, c3, rfl, _, hc3⟩ := h1.form2
          have hRl := h6.lt
          go_wp2_with fail
          refine (l91Object_any R (q + 1 + 2000 * k) A4 c4 L wr h6 (by omega) (h4.base (by omega)) (by omega)).mono ?_
          rintro e w1 ⟨kd, A1, c1, zs, s, rfl, o1, z1, s1, R1, T1⟩
          have h1' := h1.but T1 hRw
          have h4' := h4.but T1 hRw
          have T2 := h7.trans T1
          clear h1 h4 h6 h7
          generalize ho : (⟨kd, zs, s⟩ : Ob) = o at *
          obtain rfl : o.kd = kd := by rw [← ho]
          obtain rfl : o.zs = zs := by rw [← ho]
          obtain rfl : o.s = s := by rw [← ho]
          clear ho
          have al := (Below.refl w1.heap.size w1).alloc (Nat.le_refl _) (.cells #[.int .i64 o.kd, .slice A1 o.zs.length c1, .string o.s] 38)
          have u1 := Blk.new_ w1 38 (.int .i64 o.kd) (.slice A1 o.zs.length c1) (.string o.s)
          have h1x := h1'.below al
          have h4x := h4'.below al (Nat.le_refl _)
          have o1x := o1.below al (Nat.le_refl _)
          have R1x := R1.below al R1.lt
          have T3 := T2.trans (But.of_below al)
          have z3 := T3.size
          have zz : wr.heap.size ≤ w1.heap.size := T1.size
          unfold ob
          clear h1' h4' o1 R1 T1 T2 al
          generalize hx : w1.alloc (.cells #[.int .i64 o.kd, .slice A1 o.zs.length c1, .string o.s] 38) = x1 at *
          have rx := o1x.row
          have f1 : o.zs.length ≤ maxLen := by unfold maxLen; omega
          have f2 : o.s.size ≤ maxLen := by unfold maxLen; omega
          obtain ⟨y0, y1, y2, -⟩ := id u1.reads
          subst hx
          have fin : ∀ (w9 : World), Below (w1.alloc (.cells #[.int .i64 o.kd, .slice A1 o.zs.length c1, .string o.s] 38)).heap.size (w1.alloc (.cells #[.int .i64 o.kd, .slice A1 o.zs.length c1, .string o.s] 38)) w9 →
              SmSt R q (k + 1) w (.slice A3 os.length c3) (.slice A4 L.length c4) w9 := fun w9 hb => ⟨os, L, h1x.below hb, by omega, h3, h4x.below hb (Nat.le_refl _), by omega, (R1x.below hb R1x.lt).more (by omega), T3.trans (But.of_below hb)⟩
          rcases hvo : vOb o with _ | _
          · go_wp2_with fail
            refine (specValid_val false _ A1 c1 o.kd o.zs o.s _ hvo rx (Nat.le_refl _) f1 f2).mono ?_
            rintro e w3 ⟨rfl, hb3⟩
            have fin3 := fin w3 hb3
            go_wp2_with fail
            go_roundw
            case rel => exact ⟨k + 1, by omega, by go_num, fin3⟩
            case measure => simp [intOf]; omega
          · go_wp2_with fail
            refine (specValid_val true _ A1 c1 o.kd o.zs o.s _ hvo rx (Nat.le_refl _) f1 f2).mono ?_
            rintro e w4 ⟨rfl, b4⟩
            have fin4 := fin w4 b4
            have u4 := u1.below b4 u1.lt
            have o4 := h1x.below b4
            have i4 := h4x.below b4 (Nat.le_refl _)
            have q4 := o1x.below b4 (Nat.le_refl _)
            have R4 := R1x.below b4 R1x.lt
            have T4 := T3.trans (But.of_below b4)
            clear y0 y1 y2
            obtain ⟨y0, y1, y2, -⟩ := id u4.reads
            obtain ⟨r, hr⟩ := at_ex os (iOb o)
            clear fin fin4 b4
            go_wp2_with fail
            refine (l1Put_any A3 c3 os A1 c1 o r w4 o4.objs hc3 (by omega) (fun i hi => h3 _ (List.getElem_mem hi)) q4.row hvo hr).mono ?_
            rintro e w5 ⟨v, os', b, rfl, hp, hv5, hb5⟩
            have hpl := hp.len
            have u5 := u4.below hb5 u4.lt
            have o5 := o4.below hb5
            have i5 := i4.below hb5 (Nat.le_refl _)
            have q5 := q4.below hb5 (Nat.le_refl _)
            have R5 := R4.below hb5 R4.lt
            have T5 := T4.trans (But.of_below hb5)
            have lt4 := World.ownsRow.lt i4
            have z4 := T4.size
            have z5 := hb5.size
            clear o4 i4 q4 R4 T4 u4 hb5 y0 y1 y2 hr
            cases b
            · go_wp2_with fail
              go_roundw
              case rel => exact ⟨k + 1, by omega, by go_num, os, L, o5, by omega, h3, i5, by omega, R5.more (by omega), T5⟩
              case measure => simp [intOf]; omega
            · obtain ⟨y0, y1, y2, -⟩ := id u5.reads
              clear o5
              go_wp2_with fail
              refine (l1Of_val _ w5.heap.size A1 c1 o w5 q5.row (Nat.le_refl _) hvo rfl).mono ?_
              rintro e w6 ⟨rfl, hb6⟩
              have v6 := hv5.below hb6
              have i6 := i5.below hb6 (Nat.le_refl _)
              have R6 := R5.below hb6 R5.lt
              have T6 := T5.trans (But.of_below hb6)
              have z6 := hb6.size
              clear hv5 i5 R5 T5 hb6 q5 u5 y0 y1 y2
              go_wp2_with (at_builtin; go_must (refine wpList_append_own _ rfl _ _ 36 rfl w.heap.size 3 i0 (.int .i64 0) 1 8 Try.underlying36 hi hz0 hz1 hz2 rfl (by decide) _ L.length (ints L) rfl (World.ownsRow.alloc i6 _) ⟨w6.heap.size, 0, none⟩ 1 1 [.int .i64 (iOb o)] rfl rfl (cell_one_new _ _ _) (one_int _) (by unfold maxLen; omega) (by omega) (by simp; omega) ?_); intro v' w7 hown hg _)
              replace hg : (w6.alloc (.cells #[.int .i64 (iOb o)] 3)).grownBy w7 (Value.slice A4 L.length c4).ownBlock := hg
              have i7 : Own w7 w.heap.size v' (L ++ [iOb o]) := Own.app hown
              have al6 := (Below.refl w6.heap.size w6).alloc (Nat.le_refl _) (.cells #[.int .i64 (iOb o)] 3)
              have T7 : But R w w7 := World.grownBy.andThen (T6.trans (.of_below al6)) hg (fun j hj => .inl (lt4 j hj).1)
              have R7 : Rd w7 R (q + 1 + 2000 * k + 2000) := R6.below (((Below.refl w.heap.size w6).alloc (by omega) (.cells #[.int .i64 (iOb o)] 3)).grown hg (by simp; omega) (fun j hj => (lt4 j hj).1)) hRw
              have v7 : OwnObs w7 w.heap.size v os' := by
                have v6x := v6.below al6
                rcases hob : (Value.slice A4 L.length c4).ownBlock with _ | j
                · rw [hob] at hg
                  exact (v6x.but (World.grownBy.but hg (some R)) (by omega)).base z4
                · have hj := lt4 j hob
                  rw [hob] at hg
                  exact (v6x.but hg hj.2).base z4
              have hall : ∀ p ∈ os', vOb p = true := fun p hp => by
                rcases hpl.2 p hp with h | h
                · exact h3 p h
                · rw [h]; exact hvo
              clear hown hg v6 i6 R6 T6 al6
              go_wp2
              go_roundw
              case rel => exact ⟨k + 1, by omega, by go_num, os', L ++ [iOb o], v7, by omega, hall, i7, by simp; omega, R7.more (by omega), T7⟩
              case measure => simp [intOf]; omega
        · go_wp2
          go_ret
          exact ⟨_, os, rfl, h1, by omega, h3, h6.more (by omega), h7⟩
end Go.Proofs.Ytblknnifccmpkaa
