/-
  Walks: LocksFree and LocksOf of the model.
-/
import Derived.Test.YtcjnlbjlbmadlaaLockF
namespace Go.Proofs.Ytcjnlbjlbmadlaa
open Go.RowKit Wo Pu Rf Lk

set_option maxHeartbeats 4000000 in
theorem specLocksFree_is (v b : Bool) (qs : List Int) (A : Option Addr) (c : Nat) (zs : List Int) (t : Int) (w : World) (hz : Row w w.heap.size A (ints zs)) (hm : zs.length ≤ 1048600) (hv : v = true ↔ LV zs ∧ TV t) (hb : b = true ↔ v = true ∧ t ∈ zs) (hq : freed v zs t = qs) :
    Calls Try.prog 13 #[.slice A zs.length c, .int .i64 t] w (Took qs b w) := by
  obtain ⟨vz, hvz⟩ := bool_of (LV zs)
  obtain ⟨vt, hvt⟩ := bool_of (TV t)
  have CZ : Hid (∀ x, Row x x.heap.size A (ints zs) → Calls Try.prog 15 #[.slice A zs.length c] x (Same (.bool vz) x)) := fun x h => specLocksValid_is vz A c zs x _ h hm hvz
  have CT : Hid (∀ x, Calls Try.prog 37 #[.int .i64 t] x (Same (.bool vt) x)) := fun x => l12Txn_is vt t x hvt
  have hvv : v = (vz && vt) := by rw [Bool.eq_iff_iff, hv, Bool.and_eq_true, hvz, hvt]
  have no : (vz && vt) = false → b = false ∧ qs = [] := fun e => by
    rw [e] at hvv
    subst hvv
    refine ⟨?_, by rw [← hq]; rfl⟩
    rw [← Bool.not_eq_true]
    exact fun e2 => by have := (hb.1 e2).1; cases this
  cases vz with
  | false =>
    obtain ⟨rfl, rfl⟩ := no rfl
    clear hvz hvt hv hb hq hvv no
    go_enter Try.func13, Try.ntmps13
    go_wp2_with fail
    refine (CZ.out _ hz).mono ?_
    rintro e w1 ⟨rfl, rfl⟩
    go_wp2_with fail
    go_ret2
    exact ⟨_, _, rfl, OwnI.nil_new (Nat.le_refl _), (Below.refl _ _).alloc (Nat.le_refl _) _⟩
  | true =>
    cases vt with
    | false =>
      obtain ⟨rfl, rfl⟩ := no rfl
      clear hvz hvt hv hb hq hvv no
      go_enter Try.func13, Try.ntmps13
      go_wp2_with fail
      refine (CZ.out _ hz).mono ?_
      rintro e w1 ⟨rfl, rfl⟩
      go_wp2_with fail
      refine (CT.out _).mono ?_
      rintro e w1 ⟨rfl, rfl⟩
      go_wp2_with fail
      go_ret2
      exact ⟨_, _, rfl, OwnI.nil_new (Nat.le_refl _), (Below.refl _ _).alloc (Nat.le_refl _) _⟩
    | true =>
      obtain rfl : v = true := hvv
      have CF : Hid (∀ x, Row x x.heap.size A (ints zs) → Calls Try.prog 38 #[.slice A zs.length c, .int .i64 t] x (IntsOf qs x)) := fun x h => by
        rw [← hq]
        exact l12Free_any A c zs t x h hm
      have CH : Hid (∀ x, Row x x.heap.size A (ints zs) → Calls Try.prog 39 #[.slice A zs.length c, .int .i64 t] x (Same (.bool b) x)) := fun x h => l1Has_is b A c zs t x _ h hm (hb.trans ⟨fun e => e.2, fun e => ⟨rfl, e⟩⟩)
      clear hvz hvt hv hb hq no
      go_enter Try.func13, Try.ntmps13
      go_wp2_with fail
      refine (CZ.out _ hz).mono ?_
      rintro e w1 ⟨rfl, rfl⟩
      go_wp2_with fail
      refine (CT.out _).mono ?_
      rintro e w1 ⟨rfl, rfl⟩
      go_wp2_with fail
      refine (CF.out _ hz).mono ?_
      rintro e w2 ⟨A2, c2, rfl, o2, b2⟩
      have r2 := (hz.below b2 (Nat.le_refl _)).more b2.size
      go_wp2_with fail
      refine (CH.out _ r2).mono ?_
      rintro e w3 ⟨rfl, rfl⟩
      go_wp2_with fail
      go_ret2
      exact ⟨A2, c2, rfl, o2, b2⟩
theorem of_next {zs : List Int} {t : Int} {k : Nat} (h : k < zs.length) : ofL 0 t (zs.take (k + 1)) = ofL 0 t (zs.take k) ++ (if zs[k] = t then [(k : Int)] else []) := by
  rw [List.take_succ_eq_append_getElem h, ofL_snoc, List.length_take, Nat.min_eq_left (Nat.le_of_lt h), Int.zero_add]
set_option maxRecDepth 100000 in
set_option maxHeartbeats 4000000 in
theorem specLocksOf_is (v : Bool) (qs : List Int) (A : Option Addr) (c : Nat) (zs : List Int) (t : Int) (w : World) (hz : Row w w.heap.size A (ints zs)) (hm : zs.length ≤ 1048600) (hv : v = true ↔ LV zs ∧ TV t) (hq : owned v zs t = qs) :
    Calls Try.prog 24 #[.slice A zs.length c, .int .i64 t] w (IntsOf qs w) := by
  obtain ⟨i0, hi, hz0, hz1, hz2⟩ := info_of info_int
  obtain ⟨vz, hvz⟩ := bool_of (LV zs)
  obtain ⟨vt, hvt⟩ := bool_of (TV t)
  have CZ : Hid (∀ x, Row x x.heap.size A (ints zs) → Calls Try.prog 15 #[.slice A zs.length c] x (Same (.bool vz) x)) := fun x h => specLocksValid_is vz A c zs x _ h hm hvz
  have CT : Hid (∀ x, Calls Try.prog 37 #[.int .i64 t] x (Same (.bool vt) x)) := fun x => l12Txn_is vt t x hvt
  have hvv : v = (vz && vt) := by rw [Bool.eq_iff_iff, hv, Bool.and_eq_true, hvz, hvt]
  have al := (Below.refl w.heap.size w).alloc (Nat.le_refl _) (.cells #[] 3)
  have ra := (hz.below al (Nat.le_refl _)).more al.size
  have on0 := OwnI.nil_new (w := w) (Nat.le_refl _)
  by_cases h0 : zs.length = 0
  · obtain rfl : zs = [] := List.eq_nil_of_length_eq_zero h0
    obtain rfl : qs = [] := by
      rw [← hq]
      unfold owned
      cases v <;> rfl
    clear hvz hvt hv hq hvv h0
    go_enter Try.func24, Try.ntmps24
    go_wp2_with fail
    go_loopw [5, 6] (fun q i wr => i = .int .i64 0 ∧ q = .slice (some ⟨w.heap.size, 0, none⟩) 0 0 ∧ w.alloc (.cells #[] 3) = wr) (fun _ _ _ => 0)
    case atStart => exact ⟨rfl, rfl, rfl⟩
    case round =>
      obtain ⟨rfl, rfl, rfl⟩ := hrel
      go_wp2_with fail
      go_ret
      exact .mk_ on0 al
  · have p0 : (0 : Int) < (zs.length : Int) := by omega
    cases vz with
    | false =>
      obtain rfl : v = false := hvv
      obtain rfl : qs = [] := hq.symm
      clear hvz hvt hv h0
      go_enter Try.func24, Try.ntmps24
      go_wp2_with fail
      go_loopw [5, 6] (fun q i wr => i = .int .i64 0 ∧ q = .slice (some ⟨w.heap.size, 0, none⟩) 0 0 ∧ w.alloc (.cells #[] 3) = wr) (fun _ _ _ => 0)
      case atStart => exact ⟨rfl, rfl, rfl⟩
      case round =>
        obtain ⟨rfl, rfl, rfl⟩ := hrel
        go_wp2_with fail
        refine (CZ.out _ ra).mono ?_
        rintro e w1 ⟨rfl, rfl⟩
        go_wp2_with fail
        go_ret
        exact .mk_ on0 al
    | true =>
      cases vt with
      | false =>
        obtain rfl : v = false := hvv
        obtain rfl : qs = [] := hq.symm
        clear hvz hvt hv h0
        go_enter Try.func24, Try.ntmps24
        go_wp2_with fail
        go_loopw [5, 6] (fun q i wr => i = .int .i64 0 ∧ q = .slice (some ⟨w.heap.size, 0, none⟩) 0 0 ∧ w.alloc (.cells #[] 3) = wr) (fun _ _ _ => 0)
        case atStart => exact ⟨rfl, rfl, rfl⟩
        case round =>
          obtain ⟨rfl, rfl, rfl⟩ := hrel
          go_wp2_with fail
          refine (CZ.out _ ra).mono ?_
          rintro e w1 ⟨rfl, rfl⟩
          go_wp2_with fail
          refine (CT.out _).mono ?_
          rintro e w1 ⟨rfl, rfl⟩
          go_wp2_with fail
          go_ret
          exact .mk_ on0 al
      | true =>
        obtain rfl : v = true := hvv
        have HQ : Hid (ofL 0 t zs = qs) := hq
        have H4 : Hid (zs.length = 4) := (hvz.1 rfl).1
        clear hvz hvt hv hq ra h0 p0
        go_enter Try.func24, Try.ntmps24
        go_wp2_with fail
        go_loopw [5, 6] (fun q i wr => ∃ (k : Nat) (ys : List Int), k ≤ zs.length ∧ i = .int .i64 k ∧ Hid (ys.length ≤ k) ∧ OwnI wr w.heap.size q ys ∧ Hid (ofL 0 t (zs.take k) = ys) ∧ Below w.heap.size w wr) (fun _ i _ => zs.length - (intOf i).toNat)
        case atStart => exact ⟨0, [], Nat.zero_le _, rfl, Nat.le_refl _, on0, rfl, al⟩
        case round =>
          obtain ⟨k, ys, hk, rfl, HL, ho, H, hbr⟩ := hrel
          clear on0 al
          have hzw := hbr.size
          have rz := (hz.below hbr (Nat.le_refl _)).more hzw
          have HL1 : Hid (ys.length ≤ 10) := by show _ ≤ _; have := HL.out; have := H4.out; omega
          by_cases hlt : k < zs.length
          · obtain ⟨ad, rfl, hbl, hc⟩ := rz.int_ hlt
            have q0 : (0 : Int) ≤ (k : Int) := by omega
            have q1 : (k : Int) < (zs.length : Int) := by omega
            have hnx := of_next (t := t) hlt
            rw [H.out] at hnx
            clear H
            by_cases hv : zs[k] = t
            · have e0 : (zs[k] == t) = true := by rw [beq_iff_eq]; exact hv
              rw [if_pos hv] at hnx
              have HN := hid hnx
              have HL2 : Hid ((ys ++ [(k : Int)]).length ≤ k + 1) := by show _ ≤ _; rw [List.length_append]; have := HL.out; simp; omega
              clear hnx hv HL
              go_wp2_with fail
              refine (CZ.out _ rz).mono ?_
              rintro e w1 ⟨rfl, rfl⟩
              go_wp2_with fail
              refine (CT.out _).mono ?_
              rintro e w1 ⟨rfl, rfl⟩
              have oB : (wr.alloc (.cells #[.int .i64 (k : Int)] 3)).ownsRow w.heap.size 3 1 _ ys.length (ints ys) := World.ownsRow.alloc ho _
              have lt1 := World.ownsRow.lt oB
              go_wp2_with (at_builtin; go_must (refine wpList_append_own _ rfl _ _ 23 rfl w.heap.size 3 i0 (.int .i64 0) 1 8 Try.underlying23 hi hz0 hz1 hz2 rfl (by decide) _ ys.length (ints ys) rfl oB ⟨wr.heap.size, 0, none⟩ 1 1 [.int .i64 (k : Int)] rfl rfl (cell_one_new _ _ _) (one_int _) (by have := HL1.out; unfold maxLen; omega) (by have := HL1.out; omega) (by simp; omega) ?_); intro u9 w9 hown hg _)
              have o9 := OwnI.app hown
              have b9 : Below w.heap.size w w9 := hbr.trans (((Below.refl w.heap.size wr).alloc hzw _).grown hg (by simp; omega) (fun j hj => (lt1 j hj).1))
              clear hown hg oB lt1 ho hbr
              go_wp2
              go_roundw
              case rel => exact ⟨k + 1, ys ++ [(k : Int)], by omega, by go_num, HL2, o9, HN, b9⟩
              case measure => simp [intOf]; omega
            · have e0 : (zs[k] == t) = false := by rw [beq_eq_false_iff_ne]; exact hv
              rw [if_neg hv, List.append_nil] at hnx
              have HN := hid hnx
              have HL2 : Hid (ys.length ≤ k + 1) := by show _ ≤ _; have := HL.out; omega
              clear hnx hv HL
              go_wp2_with fail
              refine (CZ.out _ rz).mono ?_
              rintro e w1 ⟨rfl, rfl⟩
              go_wp2_with fail
              refine (CT.out _).mono ?_
              rintro e w1 ⟨rfl, rfl⟩
              go_wp2_with fail
              go_roundw
              case rel => exact ⟨k + 1, ys, by omega, by go_num, HL2, ho, HN, hbr⟩
              case measure => simp [intOf]; omega
          · have hk' : k = zs.length := by omega
            subst hk'
            have HD : Hid (qs = ys) := by
              have := H.out
              rw [List.take_length, HQ.out] at this
              exact this
            clear H
            go_wp2
            go_ret
            rw [HD.out]
            exact .mk_ ho hbr
end Go.Proofs.Ytcjnlbjlbmadlaa
