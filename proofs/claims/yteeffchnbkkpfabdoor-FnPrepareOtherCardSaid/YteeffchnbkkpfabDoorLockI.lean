/-
  Walks: the program's functions on locks, but for LocksTake.
-/
import Derived.Test.YteeffchnbkkpfabDoorRefI
import Derived.Test.YteeffchnbkkpfabDoorG4C
import Derived.Test.YteeffchnbkkpfabDoorG5C
namespace Go.Proofs.YteeffchnbkkpfabDoor
open Go.RowKit Wo Pu Rf Lk

theorem txnValid_is (b : Bool) (n : Int) (w : World) (hb : b = true ↔ TV n) : Calls Tryd.prog 61 #[.int .i64 n] w (Same (.bool b) w) := by
  have HB := hid hb
  clear hb
  by_cases h1 : 0 ≤ n
  · have e1 : decide (0 ≤ n) = true := decide_eq_true h1
    by_cases h2 : n < 12
    · have F := hid (HB.out.2 ⟨by omega, by omega⟩)
      have e2 : decide (n < 12) = true := decide_eq_true h2
      clear h1 h2
      go_enter Tryd.func61, Tryd.ntmps61
      go_wp2
      go_ret
      rw [F.out]
      exact ⟨rfl, rfl⟩
    · have F : Hid (b = false) := by
        show b = false
        rw [← Bool.not_eq_true]
        exact fun e => by have := (HB.out.1 e).2; omega
      have e2 : decide (n < 12) = false := decide_eq_false h2
      clear h1 h2
      go_enter Tryd.func61, Tryd.ntmps61
      go_wp2
      go_ret
      rw [F.out]
      exact ⟨rfl, rfl⟩
  · have F : Hid (b = false) := by
      show b = false
      rw [← Bool.not_eq_true]
      exact fun e => by have := (HB.out.1 e).1; omega
    have e1 : decide (0 ≤ n) = false := decide_eq_false h1
    clear h1
    go_enter Tryd.func61, Tryd.ntmps61
    go_wp2
    go_ret
    rw [F.out]
    exact ⟨rfl, rfl⟩
set_option maxHeartbeats 4000000 in
theorem implLocksValid_same (b : Bool) (A : Option Addr) (c : Nat) (zs : List Int) (w : World) (B : Nat) (hr : Row w B A (ints zs)) (hm : zs.length ≤ 1048600) (hb : b = true ↔ LV zs) :
    Calls Tryd.prog 70 #[.slice A zs.length c] w (Same (.bool b) w) := by
  have HB := hid hb
  clear hb
  by_cases h4 : zs.length = 4
  · have H4 := hid h4
    have e0 : ((zs.length : Int) != 4) = false := by rw [bne_eq_false_iff_eq]; omega
    clear h4
    go_enter Tryd.func70, Tryd.ntmps70
    go_wp2_with fail
    go_loop [10] (fun i => ∃ k : Nat, k ≤ zs.length ∧ i = .int .i64 k ∧ Hid (OwnTo zs k)) (fun i => zs.length - (intOf i).toNat)
    case atStart => exact ⟨0, Nat.zero_le _, rfl, .zero zs⟩
    case round =>
      obtain ⟨k, hk, rfl, H⟩ := hrel
      by_cases hlt : k < zs.length
      · obtain ⟨ad, rfl, hbl, hc⟩ := hr.int_ hlt
        have q0 : (0 : Int) ≤ (k : Int) := by omega
        have q1 : (k : Int) < (zs.length : Int) := by omega
        by_cases hv : zs[k] = -1
        · have e1 : (zs[k] != -1) = false := by rw [bne_eq_false_iff_eq]; exact hv
          have HN := hid (H.out.next hlt (by rw [hv]; unfold Lk.Own; omega))
          clear H hv
          go_wp2_with fail
          go_round
          case rel => exact ⟨k + 1, by omega, by go_num, HN⟩
          case measure => simp [intOf]; omega
        · have e1 : (zs[k] != -1) = true := by rw [bne_iff_ne]; exact hv
          obtain ⟨v, hv2⟩ := bool_of (TV zs[k])
          have CV : Hid (∀ x, Calls Tryd.prog 61 #[.int .i64 zs[k]] x (Same (.bool v) x)) := fun x => txnValid_is v _ x hv2
          cases v with
          | true =>
            have HN := hid (H.out.next hlt (by have := hv2.1 rfl; unfold TV at this; unfold Lk.Own; omega))
            clear H hv hv2
            go_wp2_with (go_at_call 61; refine (CV.out _).mono ?_; rintro e w' ⟨rfl, rfl⟩)
            go_round
            case rel => exact ⟨k + 1, by omega, by go_num, HN⟩
            case measure => simp [intOf]; omega
          | false =>
            have F : Hid (b = false) := by
              show b = false
              rw [← Bool.not_eq_true]
              intro e
              have h1 := (HB.out.1 e).2 _ (List.getElem_mem hlt)
              unfold Lk.Own at h1
              have h2 := hv2.2 ⟨by omega, by omega⟩
              cases h2
            clear H hv hv2
            go_wp2_with (go_at_call 61; refine (CV.out _).mono ?_; rintro e w' ⟨rfl, rfl⟩)
            go_ret
            rw [F.out]
            exact ⟨rfl, rfl⟩
      · have hk' : k = zs.length := by omega
        subst hk'
        have F := hid (HB.out.2 ⟨H4.out, H.out.all⟩)
        clear H
        go_wp2
        go_ret
        rw [F.out]
        exact ⟨rfl, rfl⟩
  · have F : Hid (b = false) := by
      show b = false
      rw [← Bool.not_eq_true]
      exact fun e => h4 (HB.out.1 e).1
    have e0 : ((zs.length : Int) != 4) = true := by rw [bne_iff_ne]; omega
    clear h4
    go_enter Tryd.func70, Tryd.ntmps70
    go_wp2
    go_ret
    rw [F.out]
    exact ⟨rfl, rfl⟩
theorem implLocksValid_is (b : Bool) (A : Option Addr) (c : Nat) (zs : List Int) (w : World) (B : Nat) (hr : Row w B A (ints zs)) (hm : zs.length ≤ 1048600) (hb : b = true ↔ LV zs) :
    Calls Tryd.prog 70 #[.slice A zs.length c] w (Ret (.bool b) w) :=
  (implLocksValid_same b A c zs w B hr hm hb).mono fun _ _ ⟨he, hw⟩ => by subst hw; exact ⟨he, Below.refl _ _⟩

/-! ### Whose. -/
theorem of_next' {zs : List Int} {t : Int} {k : Nat} (h : k < zs.length) : ofL 0 t (zs.take (k + 1)) = ofL 0 t (zs.take k) ++ (if zs[k] = t then [(k : Int)] else []) := by
  rw [List.take_succ_eq_append_getElem h, ofL_snoc, List.length_take, Nat.min_eq_left (Nat.le_of_lt h), Int.zero_add]
set_option maxRecDepth 100000 in
set_option maxHeartbeats 4000000 in
theorem lockedRefs_is (A : Option Addr) (c : Nat) (zs : List Int) (t : Int) (w : World) (hz : Row w w.heap.size A (ints zs)) (h4 : zs.length = 4) :
    Calls Tryd.prog 71 #[.slice A zs.length c, .int .i64 t] w (IntsOf (ofL 0 t zs) w) := by
  obtain ⟨i0, hi, hz0, hz1, hz2⟩ := info_of info_int
  have al := (Below.refl w.heap.size w).alloc (Nat.le_refl _) (.cells #[] 3)
  have on0 := OwnI.nil_new (w := w) (Nat.le_refl _)
  have H4 := hid h4
  have hm : zs.length ≤ 1048600 := by omega
  clear h4
  go_enter Tryd.func71, Tryd.ntmps71
  go_wp2_with fail
  go_loopw [5, 11] (fun q i wr => ∃ (k : Nat) (ys : List Int), k ≤ zs.length ∧ i = .int .i64 k ∧ Hid (ys.length ≤ k) ∧ OwnI wr w.heap.size q ys ∧ Hid (ofL 0 t (zs.take k) = ys) ∧ Below w.heap.size w wr) (fun _ i _ => zs.length - (intOf i).toNat)
  case atStart => exact ⟨0, [], Nat.zero_le _, rfl, Nat.le_refl _, on0, rfl, al⟩
  case round =>
    obtain ⟨k, ys, hk, rfl, HL, ho, H, hbr⟩ := hrel
    clear on0 al
    have hzw := hbr.size
    have rz := (hz.below hbr (Nat.le_refl _)).more hzw
    have HL1 : Hid (ys.length ≤ 10) := by show _ ≤ _; have := HL.out; have := H4.out; omega
    by_cases hlt : k < zs.length
    · obtain ⟨ad, rfl, hbl, hc⟩ := rz.int_ hlt
      have q0 : (0 : Int) ≤ (k : Int) := by omega
      have q1 : (k : Int) < (zs.length : Int) := by omega
      have hnx := of_next' (t := t) hlt
      rw [H.out] at hnx
      clear H
      by_cases hv : zs[k] = t
      · have e0 : (zs[k] == t) = true := by rw [beq_iff_eq]; exact hv
        rw [if_pos hv] at hnx
        have HN := hid hnx
        have HL2 : Hid ((ys ++ [(k : Int)]).length ≤ k + 1) := by show _ ≤ _; rw [List.length_append]; have := HL.out; simp; omega
        clear hnx hv HL
        have oB : (wr.alloc (.cells #[.int .i64 (k : Int)] 3)).ownsRow w.heap.size 3 1 _ ys.length (ints ys) := World.ownsRow.alloc ho _
        have lt1 := World.ownsRow.lt oB
        go_wp2_with (at_builtin; go_must (refine wpList_append_own _ rfl _ _ 27 rfl w.heap.size 3 i0 (.int .i64 0) 1 8 Tryd.underlying27 hi hz0 hz1 hz2 rfl (by decide) _ ys.length (ints ys) rfl oB ⟨wr.heap.size, 0, none⟩ 1 1 [.int .i64 (k : Int)] rfl rfl (cell_one_new _ _ _) (one_int _) (by have := HL1.out; unfold maxLen; omega) (by have := HL1.out; omega) (by simp; omega) ?_); intro u9 w9 hown hg _)
        have o9 := OwnI.app hown
        have b9 : Below w.heap.size w w9 := hbr.trans (((Below.refl w.heap.size wr).alloc hzw _).grown hg (by simp; omega) (fun j hj => (lt1 j hj).1))
        clear hown hg oB lt1 ho hbr
        go_wp2
        go_roundw
        case rel => exact ⟨k + 1, ys ++ [(k : Int)], by omega, by go_num, HL2, o9, HN, b9⟩
        case measure => simp [intOf]; omega
      · have e0 : (zs[k] == t) = false := by rw [beq_eq_false_iff_ne]; exact hv
        rw [if_neg hv, List.append_nil] at hnx
        have HN := hid hnx
        have HL2 : Hid (ys.length ≤ k + 1) := by show _ ≤ _; have := HL.out; omega
        clear hnx hv HL
        go_wp2_with fail
        go_roundw
        case rel => exact ⟨k + 1, ys, by omega, by go_num, HL2, ho, HN, hbr⟩
        case measure => simp [intOf]; omega
    · have hk' : k = zs.length := by omega
      subst hk'
      have HD : Hid (ofL 0 t zs = ys) := by
        have := H.out
        rwa [List.take_length] at this
      clear H
      go_wp2
      go_ret
      rw [HD.out]
      exact .mk_ ho hbr
set_option maxHeartbeats 4000000 in
theorem implLocksOf_is (v : Bool) (qs : List Int) (A : Option Addr) (c : Nat) (zs : List Int) (t : Int) (w : World) (hz : Row w w.heap.size A (ints zs)) (hm : zs.length ≤ 1048600) (hv : v = true ↔ LV zs ∧ TV t) (hq : owned v zs t = qs) :
    Calls Tryd.prog 32 #[.slice A zs.length c, .int .i64 t] w (IntsOf qs w) := by
  obtain ⟨vz, hvz⟩ := bool_of (LV zs)
  obtain ⟨vt, hvt⟩ := bool_of (TV t)
  have CZ : Hid (∀ x, Row x x.heap.size A (ints zs) → Calls Tryd.prog 70 #[.slice A zs.length c] x (Same (.bool vz) x)) := fun x h => implLocksValid_same vz A c zs x _ h hm hvz
  have CT : Hid (∀ x, Calls Tryd.prog 61 #[.int .i64 t] x (Same (.bool vt) x)) := fun x => txnValid_is vt t x hvt
  have hvv : v = (vz && vt) := by rw [Bool.eq_iff_iff, hv, Bool.and_eq_true, hvz, hvt]
  have al := (Below.refl w.heap.size w).alloc (Nat.le_refl _) (.cells #[] 3)
  have on0 := OwnI.nil_new (w := w) (Nat.le_refl _)
  cases vz with
  | false =>
    obtain rfl : v = false := hvv
    obtain rfl : qs = [] := hq.symm
    clear hvz hvt hv
    go_enter Tryd.func32, Tryd.ntmps32
    go_wp2_with fail
    refine (CZ.out _ hz).mono ?_
    rintro e w1 ⟨rfl, rfl⟩
    go_wp2_with fail
    go_ret
    exact .mk_ on0 al
  | true =>
    cases vt with
    | false =>
      obtain rfl : v = false := hvv
      obtain rfl : qs = [] := hq.symm
      clear hvz hvt hv
      go_enter Tryd.func32, Tryd.ntmps32
      go_wp2_with fail
      refine (CZ.out _ hz).mono ?_
      rintro e w1 ⟨rfl, rfl⟩
      go_wp2_with fail
      refine (CT.out _).mono ?_
      rintro e w1 ⟨rfl, rfl⟩
      go_wp2_with fail
      go_ret
      exact .mk_ on0 al
    | true =>
      obtain rfl : v = true := hvv
      have HQ : ofL 0 t zs = qs := hq
      have CL : Hid (∀ x, Row x x.heap.size A (ints zs) → Calls Tryd.prog 71 #[.slice A zs.length c, .int .i64 t] x (IntsOf qs x)) := fun x h => by
        rw [← HQ]
        exact lockedRefs_is A c zs t x h (hvz.1 rfl).1
      clear hvz hvt hv hq HQ
      go_enter Tryd.func32, Tryd.ntmps32
      go_wp2_with fail
      refine (CZ.out _ hz).mono ?_
      rintro e w1 ⟨rfl, rfl⟩
      go_wp2_with fail
      refine (CT.out _).mono ?_
      rintro e w1 ⟨rfl, rfl⟩
      go_wp2_with fail
      refine (CL.out _ hz).mono ?_
      rintro e w2 ⟨A2, c2, rfl, o2, b2⟩
      go_wp2_with fail
      go_ret
      exact .mk_ o2 b2
/-! ### Freed. -/
/-- -1 at each of hs. -/
def setM (zs : List Int) (hs : List Int) : List Int := hs.foldl (fun z r => z.set r.toNat (-1)) zs
theorem setM_length (hs : List Int) : ∀ zs, (setM zs hs).length = zs.length := by
  induction hs with
  | nil => intro zs; rfl
  | cons h hs ih => intro zs; exact (ih (zs.set h.toNat (-1))).trans (List.length_set ..)
theorem setM_snoc (zs hs : List Int) (r : Int) : setM zs (hs ++ [r]) = (setM zs hs).set r.toNat (-1) := by unfold setM; rw [List.foldl_append]; rfl
theorem setM_get (hs : List Int) : ∀ (zs : List Int) (i : Nat), (setM zs hs)[i]? = if ∃ r ∈ hs, r.toNat = i then zs[i]?.map (fun _ => -1) else zs[i]? := by
  induction hs with
  | nil => intro zs i; simp [setM]
  | cons h hs ih =>
    intro zs i
    show (setM (zs.set h.toNat (-1)) hs)[i]? = _
    rw [ih, List.getElem?_set]
    by_cases e : h.toNat = i
    · subst e
      rw [if_pos rfl, if_pos (c := ∃ r ∈ h :: hs, r.toNat = h.toNat) ⟨h, List.mem_cons_self .., rfl⟩]
      by_cases hl : h.toNat < zs.length
      · simp [hl]
      · simp [hl]
    · rw [if_neg e]
      by_cases hx : ∃ r ∈ hs, r.toNat = i
      · obtain ⟨r, hr, er⟩ := hx
        rw [if_pos ⟨r, hr, er⟩, if_pos ⟨r, List.mem_cons_of_mem _ hr, er⟩]
      · rw [if_neg hx, if_neg]
        rintro ⟨r, hr, er⟩
        rcases List.mem_cons.1 hr with rfl | hr
        · exact e er
        · exact hx ⟨r, hr, er⟩
theorem setM_free (zs : List Int) (t : Int) : setM zs (ofL 0 t zs) = freeL t zs := by
  apply List.ext_getElem?
  intro i
  rw [setM_get]
  unfold freeL
  rw [List.getElem?_map]
  by_cases hi : i < zs.length
  · rw [List.getElem?_eq_getElem hi]
    simp only [Option.map_some]
    by_cases e : zs[i] = t
    · rw [if_pos ⟨(i : Int), (ofL_at hi).2 e, by simp⟩]
      unfold free1
      rw [if_pos e]
    · rw [if_neg]
      · unfold free1
        rw [if_neg e]
      · rintro ⟨r, hr, er⟩
        obtain ⟨j, hj, hj2⟩ := (ofL_mem t r zs 0).1 hr
        obtain rfl : j = i := by omega
        rw [List.getElem?_eq_getElem hi] at hj2
        injection hj2 with hj2
        exact e hj2
  · rw [List.getElem?_eq_none (by omega)]
    simp
theorem ofL_range {t : Int} {zs : List Int} {r : Int} (h : r ∈ ofL 0 t zs) : ∃ m : Nat, r = m ∧ m < zs.length := by
  obtain ⟨j, hj, hj2⟩ := (ofL_mem t r zs 0).1 h
  refine ⟨j, by omega, ?_⟩
  rcases Nat.lt_or_ge j zs.length with h1 | h1
  · exact h1
  · rw [List.getElem?_eq_none h1] at hj2; cases hj2
set_option maxRecDepth 100000 in
set_option maxHeartbeats 8000000 in
theorem implLocksFree_is (v b : Bool) (qs : List Int) (A : Option Addr) (c : Nat) (zs : List Int) (t : Int) (w : World) (hz : Row w w.heap.size A (ints zs)) (hm : zs.length ≤ 1048600) (hv : v = true ↔ LV zs ∧ TV t) (hb : b = true ↔ v = true ∧ t ∈ zs) (hq : freed v zs t = qs) :
    Calls Tryd.prog 108 #[.slice A zs.length c, .int .i64 t] w (Took qs b w) := by
  obtain ⟨vz, hvz⟩ := bool_of (LV zs)
  obtain ⟨vt, hvt⟩ := bool_of (TV t)
  have CZ : Hid (∀ x, Row x x.heap.size A (ints zs) → Calls Tryd.prog 70 #[.slice A zs.length c] x (Same (.bool vz) x)) := fun x h => implLocksValid_same vz A c zs x _ h hm hvz
  have CT : Hid (∀ x, Calls Tryd.prog 61 #[.int .i64 t] x (Same (.bool vt) x)) := fun x => txnValid_is vt t x hvt
  have hvv : v = (vz && vt) := by rw [Bool.eq_iff_iff, hv, Bool.and_eq_true, hvz, hvt]
  have no : (vz && vt) = false → b = false ∧ qs = [] := fun e => by
    rw [e] at hvv
    subst hvv
    refine ⟨?_, by rw [← hq]; rfl⟩
    rw [← Bool.not_eq_true]
    exact fun e2 => by have := (hb.1 e2).1; cases this
  cases vz with
  | false =>
    obtain ⟨rfl, rfl⟩ := no rfl
    clear hvz hvt hv hb hq hvv no
    go_enter Tryd.func108, Tryd.ntmps108
    go_wp2_with fail
    refine (CZ.out _ hz).mono ?_
    rintro e w1 ⟨rfl, rfl⟩
    go_wp2_with fail
    go_ret2
    exact ⟨_, _, rfl, OwnI.nil_new (Nat.le_refl _), (Below.refl _ _).alloc (Nat.le_refl _) _⟩
  | true =>
    cases vt with
    | false =>
      obtain ⟨rfl, rfl⟩ := no rfl
      clear hvz hvt hv hb hq hvv no
      go_enter Tryd.func108, Tryd.ntmps108
      go_wp2_with fail
      refine (CZ.out _ hz).mono ?_
      rintro e w1 ⟨rfl, rfl⟩
      go_wp2_with fail
      refine (CT.out _).mono ?_
      rintro e w1 ⟨rfl, rfl⟩
      go_wp2_with fail
      go_ret2
      exact ⟨_, _, rfl, OwnI.nil_new (Nat.le_refl _), (Below.refl _ _).alloc (Nat.le_refl _) _⟩
    | true =>
      obtain rfl : v = true := hvv
      have h4 := (hvz.1 rfl).1
      obtain ⟨hs, hhs⟩ : ∃ hs, ofL 0 t zs = hs := ⟨_, rfl⟩
      have HM : Hid (setM zs hs = qs) := by
        show _ = _
        rw [← hhs, setM_free, ← hq]
        rfl
      have HQL : Hid (qs.length = zs.length) := by show _ = _; rw [← HM.out]; exact setM_length _ _
      have HHL : Hid (hs.length ≤ 4) := by show _ ≤ _; rw [← hhs, ← h4]; exact ofL_le t zs 0
      have HR : Hid (∀ r ∈ hs, ∃ m : Nat, r = m ∧ m < zs.length) := fun r h => ofL_range (by rw [hhs]; exact h)
      have HBB : Hid (b = true ↔ 0 < hs.length) := by
        show _ ↔ _
        rw [hb]
        have := ofL_none t zs
        rw [hhs] at this
        constructor
        · rintro ⟨-, e⟩
          rcases Nat.eq_zero_or_pos hs.length with h0 | h0
          · exact absurd e (this.1 h0)
          · exact h0
        · intro e
          refine ⟨rfl, ?_⟩
          rcases Classical.em (t ∈ zs) with h0 | h0
          · exact h0
          · have := this.2 h0; omega
      have CL : Hid (∀ x, Row x x.heap.size A (ints zs) → Calls Tryd.prog 71 #[.slice A zs.length c, .int .i64 t] x (IntsOf hs x)) := fun x h => by
        rw [← hhs]
        exact lockedRefs_is A c zs t x h h4
      have CN : Hid (∀ x, Row x x.heap.size A (ints zs) → Calls Tryd.prog 56 #[.slice A zs.length c] x (IntsOf zs x)) := fun x h => copyNumbers_of A c zs.length zs x h rfl (by omega)
      have H4 := hid h4
      have hhl : hs.length ≤ 1048600 := by have := HHL.out; omega
      clear hvz hvt hv hb hq no hhs h4
      go_enter Tryd.func108, Tryd.ntmps108
      go_wp2_with fail
      refine (CZ.out _ hz).mono ?_
      rintro e w1 ⟨rfl, rfl⟩
      go_wp2_with fail
      refine (CT.out _).mono ?_
      rintro e w1 ⟨rfl, rfl⟩
      go_wp2_with fail
      refine (CN.out _ hz).mono ?_
      rintro e w2 ⟨A2, c2, rfl, o2, b2⟩
      obtain ⟨g, c4, hgc, hg1, hg2⟩ := o2.at (by rw [H4.out]; omega)
      injection hgc with e1 e2 e3
      subst e1
      subst e3
      clear e2
      have r2 := (hz.below b2 (Nat.le_refl _)).more b2.size
      clear CZ CT CN
      go_wp2_with fail
      refine (CL.out _ r2).mono ?_
      rintro e w3 ⟨A3, c3, rfl, o3, b3⟩
      have b33 := b2.trans (b3.mono b2.size)
      have o23 := o2.below b3 (Nat.le_refl _)
      have z2 := b2.size
      clear CL r2 b3 o2
      go_wp2_with fail
      go_loopw [26] (fun i wr => ∃ k : Nat, k ≤ hs.length ∧ i = .int .i64 k ∧ OwnI wr w.heap.size (.slice (some ⟨g, 0, none⟩) zs.length c2) (setM zs (hs.take k)) ∧ OwnI wr w2.heap.size (.slice A3 hs.length c3) hs ∧ Below w.heap.size w wr) (fun i _ => hs.length - (intOf i).toNat)
      case atStart => exact ⟨0, Nat.zero_le _, rfl, (by rw [List.take_zero]; exact o23), o3, b33⟩
      case round =>
        obtain ⟨k, hk, rfl, ho, hh, hbr⟩ := hrel
        clear o23 o3 b33
        by_cases hlt : k < hs.length
        · obtain ⟨ad, rfl, hbl, hc⟩ := hh.row.int_ hlt
          have q0 : (0 : Int) ≤ (k : Int) := by omega
          have q1 : (k : Int) < (hs.length : Int) := by omega
          obtain ⟨m, hm0, hmz⟩ := HR.out _ (List.getElem_mem hlt)
          rw [hm0] at hc
          have k2 : (0 : Int) ≤ (m : Int) := by omega
          have k3 : (m : Int) < (zs.length : Int) := by omega
          have hsl := setM_length (hs.take k) zs
          have ho' : OwnI wr w.heap.size (.slice (some ⟨g, 0, none⟩) (setM zs (hs.take k)).length c2) (setM zs (hs.take k)) := by rw [hsl]; exact ho
          have hmz' : m < (setM zs (hs.take k)).length := by rw [hsl]; exact hmz
          have y0 := ho'.cell hmz'
          have f0 := World.ownsRow.frozenAt ho' m
          have ho2 := ho'.set m (-1)
          have hb2 := hbr.setCell (p := ⟨g, m, none⟩) hg1 (.int .i64 (-1))
          have hh2 := hh.but (but_set wr g m (.int .i64 (-1))) hg2
          have hst : setM zs (hs.take (k + 1)) = (setM zs (hs.take k)).set m (-1) := by
            rw [List.take_succ_eq_append_getElem hlt, setM_snoc, hm0, Int.toNat_natCast]
          have hl2 : ((setM zs (hs.take k)).set m (-1)).length = zs.length := by rw [List.length_set, hsl]
          rw [← hst] at ho2 hl2
          rw [hl2] at ho2
          clear ho ho' hbr hst hl2 hsl hm0 hh
          go_wp2
          go_roundw
          case rel => exact ⟨k + 1, by omega, by go_num, ho2, hh2, hb2⟩
          case measure => simp [intOf]; omega
        · have hk' : k = hs.length := by omega
          subst hk'
          rw [List.take_length, HM.out] at ho
          by_cases h0 : 0 < hs.length
          · have F := hid (HBB.out.2 h0)
            have e0 : decide (0 < (hs.length : Int)) = true := decide_eq_true (by omega)
            have e1 : decide (0 < hs.length) = true := decide_eq_true h0
            go_wp2
            go_ret2
            rw [F.out]
            exact ⟨_, _, by rw [HQL.out]; rfl, by rw [HQL.out]; exact ho, hbr⟩
          · have F : Hid (b = false) := by
              show b = false
              rw [← Bool.not_eq_true]
              exact fun e => h0 (HBB.out.1 e)
            have e0 : decide (0 < (hs.length : Int)) = false := decide_eq_false (by omega)
            have e1 : decide (0 < hs.length) = false := decide_eq_false h0
            clear h0
            go_wp2
            go_ret2
            rw [F.out]
            exact ⟨_, _, by rw [HQL.out]; rfl, by rw [HQL.out]; exact ho, hbr⟩
end Go.Proofs.YteeffchnbkkpfabDoor
