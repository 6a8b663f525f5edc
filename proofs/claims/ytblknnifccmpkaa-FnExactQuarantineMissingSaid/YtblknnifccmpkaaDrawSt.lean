/-
  Walks: a store, as the draws make it.
-/
import Derived.Test.YtblknnifccmpkaaPut
namespace Go.Proofs.Ytblknnifccmpkaa
open Go.RowKit Wo Pu

theorem PutIs.len {os : List Ob} {o : Ob} {r : Nat} {os' : List Ob} {b : Bool} (h : PutIs os o r os' b) : os'.length ≤ os.length + 1 ∧ ∀ p ∈ os', p ∈ os ∨ p = o := by
  by_cases hex : ∃ h : r < os.length, iOb os[r] = iOb o
  · obtain ⟨h1, h2⟩ := hex
    rw [(h.1 h1 h2).1]
    exact ⟨by omega, fun p hp => .inl hp⟩
  · by_cases h16 : 16 ≤ os.length
    · rw [(h.2.1 hex h16).1]
      exact ⟨by omega, fun p hp => .inl hp⟩
    · rw [(h.2.2 hex (by omega)).1]
      refine ⟨by simp; omega, fun p hp => ?_⟩
      rcases List.mem_append.1 hp with hp | hp
      · exact .inl (List.mem_of_mem_take hp)
      · rcases List.mem_cons.1 hp with hp | hp
        · exact .inr hp
        · exact .inl (List.mem_of_mem_drop hp)
theorem vOb_small {o : Ob} (h : vOb o = true) : o.zs.length ≤ 4 ∧ o.s.size ≤ 8 := by
  constructor
  · by_cases h4 : o.zs.length ≤ 4
    · exact h4
    · have : vOb o = false := vld_b h4
      rw [this] at h; cases h
  · by_cases h8 : o.s.size ≤ 8
    · exact h8
    · have : vOb o = false := vld_c h8
      rw [this] at h; cases h
theorem OwnObs.form2 {w : World} {B : Nat} {v : Value} {os : List Ob} (h : OwnObs w B v os) : ∃ (A : Option Addr) (c : Nat), v = .slice A os.length c ∧ Objs w w.heap.size A os ∧ os.length ≤ c := by
  obtain ⟨A, c, rfl, ho⟩ := h.form
  obtain ⟨xs, ⟨_, h1⟩, _⟩ := h
  refine ⟨A, c, rfl, ho, ?_⟩
  rcases h1 with ⟨hv, h0⟩ | ⟨g, cap, cur, hv, _, _, hn, _⟩
  · omega
  · injection hv with _ _ hc
    omega
theorem OwnObs.objs {w : World} {B n c : Nat} {A : Option Addr} {os : List Ob} (h : OwnObs w B (.slice A n c) os) : Objs w w.heap.size A os := by
  obtain ⟨A2, c2, hv, ho⟩ := h.form
  injection hv with h1 h2 h3
  subst h1
  exact ho
theorem fit_of {os : List Ob} (h : ∀ p ∈ os, vOb p = true) : Fit os := fun p hp => by
  have := vOb_small (h p hp)
  unfold maxLen
  omega
/-- The store so far. -/
def StSt (R : Nat) (q : Int) (k : Nat) (w : World) (v3 v4 : Value) (wx : World) : Prop :=
  ∃ (os : List Ob) (L : List Int), OwnObs wx w.heap.size v3 os ∧ os.length ≤ k ∧ (∀ p ∈ os, vOb p = true) ∧ Own wx w.heap.size v4 L ∧ L.length ≤ k ∧ Rd wx R (q + 2 + 2000 * k) ∧ But R w wx
/-- A store has been drawn. -/
def StDrawn (R : Nat) (q : Int) (w : World) (e : Ending) (w' : World) : Prop :=
  ∃ v os, e = .returned v ∧ OwnObs w' w.heap.size v os ∧ os.length ≤ 21 ∧ (∀ p ∈ os, vOb p = true) ∧ Rd w' R (q + 50000) ∧ But R w w'

set_option maxHeartbeats 4000000 in
theorem l91Store_any (R : Nat) (q : Int) (w : World) (hR : Rd w R q) (hq : q ≤ 700000000) :
    Calls Try.prog 95 #[.pointer (some ⟨R, 0, none⟩)] w (StDrawn R q w) := by
  have hRl0 := hR.lt
  have a0 := ((Below.refl w.heap.size w).alloc (Nat.le_refl _) (.cells #[] 38)).alloc (by simp) (.cells #[] 3)
  have n0 : OwnObs ((w.alloc (.cells #[] 38)).alloc (.cells #[] 3)) w.heap.size (.slice (some ⟨w.heap.size, 0, none⟩) 0 0) [] := (OwnObs.nil_new (Nat.le_refl _)).below ((Below.refl _ _).alloc (Nat.le_refl _) _)
  have n1 : Own ((w.alloc (.cells #[] 38)).alloc (.cells #[] 3)) w.heap.size (.slice (some ⟨(w.alloc (.cells #[] 38)).heap.size, 0, none⟩) 0 0) [] := .nil_new (by simp)
  simp only [World.size_alloc] at n1
  go_enter Try.func95, Try.ntmps95
  go_wp2_with fail
  refine (pick_any R q 10 _ (hR.below a0 hRl0) (by omega) (by omega) (by omega)).mono ?_
  rintro e w1 ⟨m, rfl, m0, m1, R1, T1⟩
  have T1' := (But.of_below (R := R) a0).trans T1
  have o1 := n0.but T1 hRl0
  have i1 := n1.but T1 hRl0
  clear n0 n1 a0 T1
  go_wp2_with fail
  refine (pick_any R (q + 1) 12 _ R1 (by omega) (by omega) (by omega)).mono ?_
  rintro e w2 ⟨m2, rfl, m3, m4, R2, T2⟩
  have T2' := T1'.trans T2
  have o2 := o1.but T2 hRl0
  have i2 := i1.but T2 hRl0
  have S : StSt R q 0 w (.slice (some ⟨w.heap.size, 0, none⟩) 0 0) (.slice (some ⟨w.heap.size + 1, 0, none⟩) 0 0) w2 := ⟨[], [], o2, Nat.le_refl _, (fun p hp => (by cases hp)), i2, Nat.le_refl _, R2.more (by omega), T2'⟩
  clear o1 i1 o2 i2 T1' T2 T2' R1 R2
  by_cases h0 : m2 = 0
  · have e0 : (m2 == 0) = true := by rw [h0]; rfl
    clear h0
    go_wp2_with fail
    have S0 : StSt R q 0 w (.slice (some ⟨w.heap.size, 0, none⟩) 0 0) (.slice (some ⟨w.heap.size + 1, 0, none⟩) 0 0) w2 := S
    clear S
    go_loopw [3, 4, 6] (fun v3 v4 i wr => ∃ k : Nat, k ≤ ((20 : Int)).toNat ∧ i = .int .i64 k ∧ StSt R q k w v3 v4 wr) (fun _ _ i _ => ((20 : Int)).toNat - (intOf i).toNat)
    case atStart => exact ⟨0, Nat.zero_le _, rfl, S0⟩
    case round =>
      clear S0
      obtain ⟨k, hk, rfl, os, L, h1, h2, h3, h4, h5, h6, h7⟩ := hrel
      by_cases hlt : (k : Int) < (20 : Int)
      · obtain ⟨A4, c4, rfl, _⟩ := h4.form
        obtain ⟨A3, c3, rfl, _, hc3⟩ := h1.form2
        have hRl := h6.lt
        have hRw : R < w.heap.size := hRl0
        go_wp2_with fail
        refine (l91Object_any R (q + 2 + 2000 * k) A4 c4 L wr h6 (by omega) (h4.base (by omega)) (by omega)).mono ?_
        rintro e w1 ⟨kd, A1, c1, zs, s, rfl, o1, z1, s1, R1, T1⟩
        have h1' := h1.but T1 hRw
        have h4' := h4.but T1 hRw
        have T2 := h7.trans T1
        clear h1 h4 h6 h7
        generalize ho : (⟨kd, zs, s⟩ : Ob) = o at *
        obtain rfl : o.kd = kd := by rw [← ho]
        obtain rfl : o.zs = zs := by rw [← ho]
        obtain rfl : o.s = s := by rw [← ho]
        clear ho
        have al := (Below.refl w1.heap.size w1).alloc (Nat.le_refl _) (.cells #[.int .i64 o.kd, .slice A1 o.zs.length c1, .string o.s] 38)
        have u1 := Blk.new_ w1 38 (.int .i64 o.kd) (.slice A1 o.zs.length c1) (.string o.s)
        have h1x := h1'.below al
        have h4x := h4'.below al (Nat.le_refl _)
        have o1x := o1.below al (Nat.le_refl _)
        have R1x := R1.below al R1.lt
        have T3 := T2.trans (But.of_below al)
        have z3 := T3.size
        have zz : wr.heap.size ≤ w1.heap.size := T1.size
        unfold ob
        clear h1' h4' o1 R1 T1 T2 al
        generalize hx : w1.alloc (.cells #[.int .i64 o.kd, .slice A1 o.zs.length c1, .string o.s] 38) = x1 at *
        have rx := o1x.row
        have f1 : o.zs.length ≤ maxLen := by unfold maxLen; omega
        have f2 : o.s.size ≤ maxLen := by unfold maxLen; omega
        obtain ⟨y0, y1, y2, -⟩ := id u1.reads
        subst hx
        have fin : ∀ (w9 : World), Below (w1.alloc (.cells #[.int .i64 o.kd, .slice A1 o.zs.length c1, .string o.s] 38)).heap.size (w1.alloc (.cells #[.int .i64 o.kd, .slice A1 o.zs.length c1, .string o.s] 38)) w9 →
            StSt R q (k + 1) w (.slice A3 os.length c3) (.slice A4 L.length c4) w9 := fun w9 hb => ⟨os, L, h1x.below hb, by omega, h3, h4x.below hb (Nat.le_refl _), by omega, (R1x.below hb R1x.lt).more (by omega), T3.trans (But.of_below hb)⟩
        rcases hvo : vOb o with _ | _
        · go_wp2_with fail
          refine (specValid_val false _ A1 c1 o.kd o.zs o.s _ hvo rx (Nat.le_refl _) f1 f2).mono ?_
          rintro e w3 ⟨rfl, hb3⟩
          have fin3 := fin w3 hb3
          go_wp2_with fail
          go_roundw
          case rel => exact ⟨k + 1, by omega, by go_num, fin3⟩
          case measure => simp [intOf]; omega
        · go_wp2_with fail
          refine (specValid_val true _ A1 c1 o.kd o.zs o.s _ hvo rx (Nat.le_refl _) f1 f2).mono ?_
          rintro e w3 ⟨rfl, hb3⟩
          have o3 := h1x.below hb3
          go_wp2_with fail
          refine (specStoreValid_any A3 c3 os w3 o3.objs (fit_of h3) (by unfold maxLen; omega)).mono ?_
          rintro e w4 ⟨rfl, hb4⟩
          have b4 := hb3.trans (hb4.mono hb3.size)
          have fin4 := fin w4 b4
          have u4 := u1.below b4 u1.lt
          have o4 := h1x.below b4
          have i4 := h4x.below b4 (Nat.le_refl _)
          have q4 := o1x.below b4 (Nat.le_refl _)
          have R4 := R1x.below b4 R1x.lt
          have T4 := T3.trans (But.of_below b4)
          clear y0 y1 y2
          rcases hst : storeB os with _ | _
          · go_wp2_with fail
            go_roundw
            case rel => exact ⟨k + 1, by omega, by go_num, fin4⟩
            case measure => simp [intOf]; omega
          · obtain ⟨y0, y1, y2, -⟩ := id u4.reads
            obtain ⟨r, hr⟩ := at_ex os (iOb o)
            clear fin fin4 o3 hb3 hb4 b4
            go_wp2_with fail
            refine (l1Put_any A3 c3 os A1 c1 o r w4 o4.objs hc3 (by omega) (storeB_valid hst) q4.row hvo hr).mono ?_
            rintro e w5 ⟨v, os', b, rfl, hp, hv5, hb5⟩
            have hpl := hp.len
            have u5 := u4.below hb5 u4.lt
            have o5 := o4.below hb5
            have i5 := i4.below hb5 (Nat.le_refl _)
            have q5 := q4.below hb5 (Nat.le_refl _)
            have R5 := R4.below hb5 R4.lt
            have T5 := T4.trans (But.of_below hb5)
            have lt4 := World.ownsRow.lt i4
            have z4 := T4.size
            have z5 := hb5.size
            clear o4 i4 q4 R4 T4 u4 hb5 y0 y1 y2 hr
            cases b
            · go_wp2_with fail
              go_roundw
              case rel => exact ⟨k + 1, by omega, by go_num, os, L, o5, by omega, h3, i5, by omega, R5.more (by omega), T5⟩
              case measure => simp [intOf]; omega
            · obtain ⟨i0, hi, hz0, hz1, hz2⟩ := info_of info_int
              obtain ⟨y0, y1, y2, -⟩ := id u5.reads
              clear o5
              go_wp2_with fail
              refine (l1Of_val _ w5.heap.size A1 c1 o w5 q5.row (Nat.le_refl _) hvo rfl).mono ?_
              rintro e w6 ⟨rfl, hb6⟩
              have v6 := hv5.below hb6
              have i6 := i5.below hb6 (Nat.le_refl _)
              have R6 := R5.below hb6 R5.lt
              have T6 := T5.trans (But.of_below hb6)
              have z6 := hb6.size
              clear hv5 i5 R5 T5 hb6 q5 u5 y0 y1 y2
              go_wp2_with (at_builtin; go_must (refine wpList_append_own _ rfl _ _ 36 rfl w.heap.size 3 i0 (.int .i64 0) 1 8 Try.underlying36 hi hz0 hz1 hz2 rfl (by decide) _ L.length (ints L) rfl (World.ownsRow.alloc i6 _) ⟨w6.heap.size, 0, none⟩ 1 1 [.int .i64 (iOb o)] rfl rfl (cell_one_new _ _ _) (one_int _) (by unfold maxLen; omega) (by omega) (by simp; omega) ?_); intro v' w7 hown hg _)
              replace hg : (w6.alloc (.cells #[.int .i64 (iOb o)] 3)).grownBy w7 (Value.slice A4 L.length c4).ownBlock := hg
              have i7 : Own w7 w.heap.size v' (L ++ [iOb o]) := Own.app hown
              have al6 := (Below.refl w6.heap.size w6).alloc (Nat.le_refl _) (.cells #[.int .i64 (iOb o)] 3)
              have T7 : But R w w7 := World.grownBy.andThen (T6.trans (.of_below al6)) hg (fun j hj => .inl (lt4 j hj).1)
              have R7 : Rd w7 R (q + 2 + 2000 * k + 2000) := R6.below (((Below.refl w.heap.size w6).alloc (by omega) (.cells #[.int .i64 (iOb o)] 3)).grown hg (by simp; omega) (fun j hj => (lt4 j hj).1)) hRw
              have v7 : OwnObs w7 w.heap.size v os' := by
                have v6x := v6.below al6
                rcases hob : (Value.slice A4 L.length c4).ownBlock with _ | j
                · rw [hob] at hg
                  exact (v6x.but (World.grownBy.but hg (some R)) (by omega)).base z4
                · have hj := lt4 j hob
                  rw [hob] at hg
                  exact (v6x.but hg hj.2).base z4
              have hall : ∀ p ∈ os', vOb p = true := fun p hp => by
                rcases hpl.2 p hp with h | h
                · exact h3 p h
                · rw [h]; exact hvo
              clear hown hg v6 i6 R6 T6 al6
              go_wp2
              go_roundw
              case rel => exact ⟨k + 1, by omega, by go_num, os', L ++ [iOb o], v7, by omega, hall, i7, by simp; omega, R7.more (by omega), T7⟩
              case measure => simp [intOf]; omega
      · go_wp2
        go_ret
        exact ⟨_, os, rfl, h1, by omega, h3, h6.more (by omega), h7⟩
  · have e0 : (m2 == 0) = false := by rw [beq_eq_false_iff_ne]; omega
    clear h0
    go_wp2_with fail
    have S0 : StSt R q 0 w (.slice (some ⟨w.heap.size, 0, none⟩) 0 0) (.slice (some ⟨w.heap.size + 1, 0, none⟩) 0 0) w2 := S
    clear S
    go_loopw [3, 4, 6] (fun v3 v4 i wr => ∃ k : Nat, k ≤ (m).toNat ∧ i = .int .i64 k ∧ StSt R q k w v3 v4 wr) (fun _ _ i _ => (m).toNat - (intOf i).toNat)
    case atStart => exact ⟨0, Nat.zero_le _, rfl, S0⟩
    case round =>
      clear S0
      obtain ⟨k, hk, rfl, os, L, h1, h2, h3, h4, h5, h6, h7⟩ := hrel
      by_cases hlt : (k : Int) < m
      · obtain ⟨A4, c4, rfl, _⟩ := h4.form
        obtain ⟨A3, c3, rfl, _, hc3⟩ := h1.form2
        have hRl := h6.lt
        have hRw : R < w.heap.size := hRl0
        go_wp2_with fail
        refine (l91Object_any R (q + 2 + 2000 * k) A4 c4 L wr h6 (by omega) (h4.base (by omega)) (by omega)).mono ?_
        rintro e w1 ⟨kd, A1, c1, zs, s, rfl, o1, z1, s1, R1, T1⟩
        have h1' := h1.but T1 hRw
        have h4' := h4.but T1 hRw
        have T2 := h7.trans T1
        clear h1 h4 h6 h7
        generalize ho : (⟨kd, zs, s⟩ : Ob) = o at *
        obtain rfl : o.kd = kd := by rw [← ho]
        obtain rfl : o.zs = zs := by rw [← ho]
        obtain rfl : o.s = s := by rw [← ho]
        clear ho
        have al := (Below.refl w1.heap.size w1).alloc (Nat.le_refl _) (.cells #[.int .i64 o.kd, .slice A1 o.zs.length c1, .string o.s] 38)
        have u1 := Blk.new_ w1 38 (.int .i64 o.kd) (.slice A1 o.zs.length c1) (.string o.s)
        have h1x := h1'.below al
        have h4x := h4'.below al (Nat.le_refl _)
        have o1x := o1.below al (Nat.le_refl _)
        have R1x := R1.below al R1.lt
        have T3 := T2.trans (But.of_below al)
        have z3 := T3.size
        have zz : wr.heap.size ≤ w1.heap.size := T1.size
        unfold ob
        clear h1' h4' o1 R1 T1 T2 al
        generalize hx : w1.alloc (.cells #[.int .i64 o.kd, .slice A1 o.zs.length c1, .string o.s] 38) = x1 at *
        have rx := o1x.row
        have f1 : o.zs.length ≤ maxLen := by unfold maxLen; omega
        have f2 : o.s.size ≤ maxLen := by unfold maxLen; omega
        obtain ⟨y0, y1, y2, -⟩ := id u1.reads
        subst hx
        have fin : ∀ (w9 : World), Below (w1.alloc (.cells #[.int .i64 o.kd, .slice A1 o.zs.length c1, .string o.s] 38)).heap.size (w1.alloc (.cells #[.int .i64 o.kd, .slice A1 o.zs.length c1, .string o.s] 38)) w9 →
            StSt R q (k + 1) w (.slice A3 os.length c3) (.slice A4 L.length c4) w9 := fun w9 hb => ⟨os, L, h1x.below hb, by omega, h3, h4x.below hb (Nat.le_refl _), by omega, (R1x.below hb R1x.lt).more (by omega), T3.trans (But.of_below hb)⟩
        rcases hvo : vOb o with _ | _
        · go_wp2_with fail
          refine (specValid_val false _ A1 c1 o.kd o.zs o.s _ hvo rx (Nat.le_refl _) f1 f2).mono ?_
          rintro e w3 ⟨rfl, hb3⟩
          have fin3 := fin w3 hb3
          go_wp2_with fail
          go_roundw
          case rel => exact ⟨k + 1, by omega, by go_num, fin3⟩
          case measure => simp [intOf]; omega
        · go_wp2_with fail
          refine (specValid_val true _ A1 c1 o.kd o.zs o.s _ hvo rx (Nat.le_refl _) f1 f2).mono ?_
          rintro e w3 ⟨rfl, hb3⟩
          have o3 := h1x.below hb3
          go_wp2_with fail
          refine (specStoreValid_any A3 c3 os w3 o3.objs (fit_of h3) (by unfold maxLen; omega)).mono ?_
          rintro e w4 ⟨rfl, hb4⟩
          have b4 := hb3.trans (hb4.mono hb3.size)
          have fin4 := fin w4 b4
          have u4 := u1.below b4 u1.lt
          have o4 := h1x.below b4
          have i4 := h4x.below b4 (Nat.le_refl _)
          have q4 := o1x.below b4 (Nat.le_refl _)
          have R4 := R1x.below b4 R1x.lt
          have T4 := T3.trans (But.of_below b4)
          clear y0 y1 y2
          rcases hst : storeB os with _ | _
          · go_wp2_with fail
            go_roundw
            case rel => exact ⟨k + 1, by omega, by go_num, fin4⟩
            case measure => simp [intOf]; omega
          · obtain ⟨y0, y1, y2, -⟩ := id u4.reads
            obtain ⟨r, hr⟩ := at_ex os (iOb o)
            clear fin fin4 o3 hb3 hb4 b4
            go_wp2_with fail
            refine (l1Put_any A3 c3 os A1 c1 o r w4 o4.objs hc3 (by omega) (storeB_valid hst) q4.row hvo hr).mono ?_
            rintro e w5 ⟨v, os', b, rfl, hp, hv5, hb5⟩
            have hpl := hp.len
            have u5 := u4.below hb5 u4.lt
            have o5 := o4.below hb5
            have i5 := i4.below hb5 (Nat.le_refl _)
            have q5 := q4.below hb5 (Nat.le_refl _)
            have R5 := R4.below hb5 R4.lt
            have T5 := T4.trans (But.of_below hb5)
            have lt4 := World.ownsRow.lt i4
            have z4 := T4.size
            have z5 := hb5.size
            clear o4 i4 q4 R4 T4 u4 hb5 y0 y1 y2 hr
            cases b
            · go_wp2_with fail
              go_roundw
              case rel => exact ⟨k + 1, by omega, by go_num, os, L, o5, by omega, h3, i5, by omega, R5.more (by omega), T5⟩
              case measure => simp [intOf]; omega
            · obtain ⟨i0, hi, hz0, hz1, hz2⟩ := info_of info_int
              obtain ⟨y0, y1, y2, -⟩ := id u5.reads
              clear o5
              go_wp2_with fail
              refine (l1Of_val _ w5.heap.size A1 c1 o w5 q5.row (Nat.le_refl _) hvo rfl).mono ?_
              rintro e w6 ⟨rfl, hb6⟩
              have v6 := hv5.below hb6
              have i6 := i5.below hb6 (Nat.le_refl _)
              have R6 := R5.below hb6 R5.lt
              have T6 := T5.trans (But.of_below hb6)
              have z6 := hb6.size
              clear hv5 i5 R5 T5 hb6 q5 u5 y0 y1 y2
              go_wp2_with (at_builtin; go_must (refine wpList_append_own _ rfl _ _ 36 rfl w.heap.size 3 i0 (.int .i64 0) 1 8 Try.underlying36 hi hz0 hz1 hz2 rfl (by decide) _ L.length (ints L) rfl (World.ownsRow.alloc i6 _) ⟨w6.heap.size, 0, none⟩ 1 1 [.int .i64 (iOb o)] rfl rfl (cell_one_new _ _ _) (one_int _) (by unfold maxLen; omega) (by omega) (by simp; omega) ?_); intro v' w7 hown hg _)
              replace hg : (w6.alloc (.cells #[.int .i64 (iOb o)] 3)).grownBy w7 (Value.slice A4 L.length c4).ownBlock := hg
              have i7 : Own w7 w.heap.size v' (L ++ [iOb o]) := Own.app hown
              have al6 := (Below.refl w6.heap.size w6).alloc (Nat.le_refl _) (.cells #[.int .i64 (iOb o)] 3)
              have T7 : But R w w7 := World.grownBy.andThen (T6.trans (.of_below al6)) hg (fun j hj => .inl (lt4 j hj).1)
              have R7 : Rd w7 R (q + 2 + 2000 * k + 2000) := R6.below (((Below.refl w.heap.size w6).alloc (by omega) (.cells #[.int .i64 (iOb o)] 3)).grown hg (by simp; omega) (fun j hj => (lt4 j hj).1)) hRw
              have v7 : OwnObs w7 w.heap.size v os' := by
                have v6x := v6.below al6
                rcases hob : (Value.slice A4 L.length c4).ownBlock with _ | j
                · rw [hob] at hg
                  exact (v6x.but (World.grownBy.but hg (some R)) (by omega)).base z4
                · have hj := lt4 j hob
                  rw [hob] at hg
                  exact (v6x.but hg hj.2).base z4
              have hall : ∀ p ∈ os', vOb p = true := fun p hp => by
                rcases hpl.2 p hp with h | h
                · exact h3 p h
                · rw [h]; exact hvo
              clear hown hg v6 i6 R6 T6 al6
              go_wp2
              go_roundw
              case rel => exact ⟨k + 1, by omega, by go_num, os', L ++ [iOb o], v7, by omega, hall, i7, by simp; omega, R7.more (by omega), T7⟩
              case measure => simp [intOf]; omega
      · go_wp2
        go_ret
        exact ⟨_, os, rfl, h1, by omega, h3, h6.more (by omega), h7⟩
end Go.Proofs.Ytblknnifccmpkaa
