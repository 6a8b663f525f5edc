/-
  Walks of the laws on whose locks are.
-/
import Derived.Test.YtcjnlbjlbmadlaaLockM
namespace Go.Proofs.Ytcjnlbjlbmadlaa
open Go.RowKit Wo Pu Rf Lk

theorem FnFreeAll_no (A : Option Addr) (c : Nat) (bs : List Int) (A' : Option Addr) (c' : Nat) (bs' : List Int) (w : World) (h : Code_ w A c bs) (h' : Code_ w A' c' bs') (hl : ¬ (bs.length ≤ 1048576 ∧ bs'.length ≤ 1048576)) :
    Calls Try.prog 5 #[.slice A bs.length c, .slice A' bs'.length c'] w (Ret (.bool true) w) := by
  have hc := h.2.1
  have hm := h.2.2.1
  have hc' := h'.2.1
  have hm' := h'.2.2.1
  unfold maxLen at hm hm'
  by_cases h1 : bs.length ≤ 1048576
  · have h2 : ¬ bs'.length ≤ 1048576 := fun e => hl ⟨h1, e⟩
    clear hl
    go_enter Try.func5, Try.ntmps5
    go_wp2
    go_ret
    exact .mk_ (Below.refl _ _)
  · clear hl
    go_enter Try.func5, Try.ntmps5
    go_wp2
    go_ret
    exact .mk_ (Below.refl _ _)
set_option maxRecDepth 100000 in
set_option maxHeartbeats 4000000 in
theorem FnFreeAll_yes (A : Option Addr) (c : Nat) (bs : List Int) (A' : Option Addr) (c' : Nat) (bs' : List Int) (w : World) (h : Code_ w A c bs) (_h' : Code_ w A' c' bs') (hl : bs.length ≤ 1048576) (hl' : bs'.length ≤ 1048576) :
    Calls Try.prog 5 #[.slice A bs.length c, .slice A' bs'.length c'] w (Ret (.bool true) w) := by
  go_enter Try.func5, Try.ntmps5
  go_wp2_with fail
  refine (DrawLocksValid_any A c bs _ h).mono ?_
  rintro e w1 ⟨A1, c1, zs, rfl, r1, h4, hc1, b1⟩
  obtain ⟨v, hv⟩ := bool_of (LV zs)
  have HV := hid hv
  clear hv
  go_wp2_with fail
  refine (implLocksValid_is v A1 c1 zs _ _ r1 (by omega) HV.out).mono ?_
  rintro e w2 ⟨rfl, d2⟩
  have r2 := r1.on d2
  have b2 := b1.trans (d2.mono b1.size)
  clear r1 b1 d2
  go_wp2_with fail
  refine (specLocksValid_is v A1 c1 zs _ _ r2 (by omega) HV.out).mono ?_
  rintro e w3 ⟨rfl, rfl⟩
  cases v with
  | false =>
    go_wp2
    go_ret
    exact .mk_ b2
  | true =>
    obtain ⟨n, hn⟩ : ∃ n : Nat, (bs'.length : Int) % 12 = (n : Int) := ⟨bs'.length % 12, by simp⟩
    have hn12 : n < 12 := by omega
    obtain ⟨fs, hfs⟩ : ∃ fs : List Int, fs = [-1, -1, -1, -1] := ⟨_, rfl⟩
    have lv : LV fs := by rw [hfs]; exact ⟨rfl, (fun z hz => by simp at hz; subst hz; exact ⟨by omega, by omega⟩)⟩
    have tv : TV (n : Int) := ⟨by omega, by omega⟩
    have hno : (n : Int) ∉ fs := by rw [hfs]; intro hm; simp at hm
    have CF : Hid (∀ x A c, Row x x.heap.size A (ints fs) → Calls Try.prog 12 #[.slice A 4 c, .int .i64 (n : Int)] x (fun e w' => ∃ A5 c5, e = .returned (.tuple #[.slice A5 4 c5, .bool false]) ∧ Row w' w'.heap.size A5 (ints fs) ∧ Below x.heap.size x w')) := fun x A c hx => by
      have := implLocksFree_is true false fs A c fs (n : Int) x hx (by rw [lv.1]; omega) ⟨fun _ => ⟨lv, tv⟩, fun _ => rfl⟩ ⟨(fun e => by cases e), fun e => absurd e.2 hno⟩ (free_same hno)
      rw [lv.1] at this
      refine this.mono ?_
      rintro e w' ⟨A5, c5, rfl, o5, d5⟩
      rw [lv.1] at o5 ⊢
      exact ⟨A5, c5, rfl, o5.row, d5⟩
    have CO : Hid (∀ x A c, Row x x.heap.size A (ints fs) → Calls Try.prog 16 #[.slice A 4 c, .int .i64 (n : Int)] x (fun e w' => ∃ A5 c5, e = .returned (.slice A5 0 c5) ∧ Below x.heap.size x w')) := fun x A c hx => by
      have e0 : ofL 0 (n : Int) fs = [] := List.eq_nil_of_length_eq_zero ((ofL_none _ _).2 hno)
      have := implLocksOf_is true [] A c fs (n : Int) x hx (by rw [lv.1]; omega) ⟨fun _ => ⟨lv, tv⟩, fun _ => rfl⟩ e0
      rw [lv.1] at this
      refine this.mono ?_
      rintro e w' ⟨A5, c5, rfl, o5, d5⟩
      exact ⟨A5, c5, rfl, d5⟩
    have CS : Hid (∀ x A c A2 c2, Row x x.heap.size A (ints fs) → Row x x.heap.size A2 (ints fs) → Calls Try.prog 14 #[.slice A 4 c, .slice A2 4 c2] x (Ret (.bool true) x)) := fun x A c A2 c2 h1 h2 => by
      have := sameInts_ret A A2 c c2 fs x _ _ h1 h2 (by rw [lv.1]; unfold maxLen; omega)
      rwa [lv.1] at this
    have rf := row_four w2 3
    rw [← hfs] at rf
    have al := (Below.refl w2.heap.size w2).alloc (Nat.le_refl _) (.cells #[.int .i64 (-1), .int .i64 (-1), .int .i64 (-1), .int .i64 (-1)] 3)
    have b3 := b2.trans (al.mono b2.size)
    clear HV lv tv hno hfs r2 al b2
    go_wp2_with fail
    rw [hn]
    refine (CF.out _ _ _ rf).mono ?_
    rintro e w4 ⟨A5, c5, rfl, r5, d4⟩
    have rf4 := rf.on d4
    have b4 := b3.trans (d4.mono b3.size)
    clear rf b3 d4 CF
    go_wp2_with fail
    refine (CO.out _ _ _ rf4).mono ?_
    rintro e w5 ⟨A6, c6, rfl, d5⟩
    have rf5 := rf4.on d5
    have r6 := r5.on d5
    have b5 := b4.trans (d5.mono b4.size)
    clear rf4 r5 b4 d5 CO
    go_wp2_with fail
    refine (CS.out _ _ _ _ _ r6 rf5).mono ?_
    rintro e w6 ⟨rfl, d6⟩
    go_wp2_with fail
    go_ret
    exact .mk_ (b5.trans (d6.mono b5.size))
theorem FnFreeAll_any (A : Option Addr) (c : Nat) (bs : List Int) (A' : Option Addr) (c' : Nat) (bs' : List Int) (w : World) (f1 : Row w w.heap.size A (bs.map (Value.int .u8))) (f2 : bs.length ≤ c) (f3 : c ≤ maxLen) (f4 : ∀ n ∈ bs, 0 ≤ n ∧ n < 256) (g1 : Row w w.heap.size A' (bs'.map (Value.int .u8))) (g2 : bs'.length ≤ c') (g3 : c' ≤ maxLen) (g4 : ∀ n ∈ bs', 0 ≤ n ∧ n < 256) :
    Calls Try.prog 5 #[.slice A bs.length c, .slice A' bs'.length c'] w (Ret (.bool true) w) := by
  by_cases hl : bs.length ≤ 1048576 ∧ bs'.length ≤ 1048576
  · exact FnFreeAll_yes A c bs A' c' bs' w ⟨f1, f2, f3, f4⟩ ⟨g1, g2, g3, g4⟩ hl.1 hl.2
  · exact FnFreeAll_no A c bs A' c' bs' w ⟨f1, f2, f3, f4⟩ ⟨g1, g2, g3, g4⟩ hl
set_option maxHeartbeats 4000000 in
theorem hasInt_is (b : Bool) (A : Option Addr) (c : Nat) (zs : List Int) (x : Int) (w : World) (B : Nat) (hr : Row w B A (ints zs)) (hm : zs.length ≤ 1048600) (hb : b = true ↔ x ∈ zs) :
    Calls Try.prog 17 #[.slice A zs.length c, .int .i64 x] w (Same (.bool b) w) := by
  have HB := hid hb
  clear hb
  go_enter Try.func17, Try.ntmps17
  go_wp2_with fail
  go_loop [5] (fun i => ∃ k : Nat, k ≤ zs.length ∧ i = .int .i64 k ∧ Hid (NotTo zs x k)) (fun i => zs.length - (intOf i).toNat)
  case atStart => exact ⟨0, Nat.zero_le _, rfl, .zero zs x⟩
  case round =>
    obtain ⟨k, hk, rfl, H⟩ := hrel
    by_cases hlt : k < zs.length
    · obtain ⟨ad, rfl, hbl, hc⟩ := hr.int_ hlt
      have q0 : (0 : Int) ≤ (k : Int) := by omega
      have q1 : (k : Int) < (zs.length : Int) := by omega
      by_cases hv : zs[k] = x
      · have e0 : (zs[k] == x) = true := by rw [beq_iff_eq]; exact hv
        have F := hid (HB.out.2 (by rw [← hv]; exact List.getElem_mem hlt))
        clear H hv
        go_wp2
        go_ret
        rw [F.out]
        exact ⟨rfl, rfl⟩
      · have e0 : (zs[k] == x) = false := by rw [beq_eq_false_iff_ne]; exact hv
        have HN := hid (H.out.next hlt hv)
        clear H hv
        go_wp2
        go_round
        case rel => exact ⟨k + 1, by omega, by go_num, HN⟩
        case measure => simp [intOf]; omega
    · have hk' : k = zs.length := by omega
      subst hk'
      have F : Hid (b = false) := by
        show b = false
        rw [← Bool.not_eq_true]
        exact fun e => H.out.all (HB.out.1 e)
      clear H
      go_wp2
      go_ret
      rw [F.out]
      exact ⟨rfl, rfl⟩
/-- How many of the first k transactions own a lock. -/
def own1 (z : Int) (k : Nat) : Nat := if 0 ≤ z ∧ z < (k : Int) then 1 else 0
theorem own1_zero (z : Int) : own1 z 0 = 0 := by unfold own1; rw [if_neg (by omega)]
theorem own1_yes {z : Int} {k : Nat} (h : z = (k : Int)) : own1 z (k + 1) = own1 z k + 1 := by
  unfold own1
  rw [if_pos (by omega), if_neg (by omega)]
theorem own1_no {z : Int} {k : Nat} (h : ¬ z = (k : Int)) : own1 z (k + 1) = own1 z k := by
  unfold own1
  by_cases h1 : 0 ≤ z ∧ z < (k : Int)
  · rw [if_pos h1, if_pos (by omega)]
  · rw [if_neg h1, if_neg (by omega)]
theorem FnLocksOf_no (A : Option Addr) (c : Nat) (bs : List Int) (w : World) (h : Code_ w A c bs) (hl : ¬ bs.length ≤ 1048576) :
    Calls Try.prog 4 #[.slice A bs.length c] w (Ret (.bool true) w) := by
  have hc := h.2.1
  have hm := h.2.2.1
  unfold maxLen at hm
  go_enter Try.func4, Try.ntmps4
  go_wp2
  go_ret
  exact .mk_ (Below.refl _ _)
set_option maxRecDepth 100000 in
set_option maxHeartbeats 8000000 in
theorem FnLocksOf_yes (A : Option Addr) (c : Nat) (bs : List Int) (w : World) (h : Code_ w A c bs) (hl : bs.length ≤ 1048576) :
    Calls Try.prog 4 #[.slice A bs.length c] w (Ret (.bool true) w) := by
  go_enter Try.func4, Try.ntmps4
  go_wp2_with fail
  refine (DrawLocksValid_any A c bs _ h).mono ?_
  rintro e w1 ⟨A1, c1, zs, rfl, r1, h4, hc1, b1⟩
  obtain ⟨v, hv⟩ := bool_of (LV zs)
  have HV := hid hv
  clear hv
  go_wp2_with fail
  refine (implLocksValid_is v A1 c1 zs _ _ r1 (by omega) HV.out).mono ?_
  rintro e w2 ⟨rfl, d2⟩
  have r2 := r1.on d2
  have b2 := b1.trans (d2.mono b1.size)
  clear r1 b1 d2
  go_wp2_with fail
  refine (specLocksValid_is v A1 c1 zs _ _ r2 (by omega) HV.out).mono ?_
  rintro e w3 ⟨rfl, rfl⟩
  cases v with
  | false =>
    go_wp2
    go_ret
    exact .mk_ b2
  | true =>
    have PL := hid (HV.out.1 rfl)
    clear HV
    go_wp2_with fail
    go_loopw [6] (fun i wr => ∃ r : Nat, r ≤ zs.length ∧ i = .int .i64 r ∧ Row wr wr.heap.size A1 (ints zs) ∧ Below w.heap.size w wr) (fun i _ => zs.length - (intOf i).toNat)
    case atStart => exact ⟨0, Nat.zero_le _, rfl, r2, b2⟩
    case round =>
      clear r2 b2
      obtain ⟨r, hr, rfl, rz, hb⟩ := hrel
      by_cases hlt : r < zs.length
      · obtain ⟨z, hz⟩ : ∃ z, zs[r] = z := ⟨_, rfl⟩
        have hown : Lk.Own z := by rw [← hz]; exact PL.out.2 _ (List.getElem_mem hlt)
        have HZ : Hid (∀ (h : r < zs.length), zs[r] = z) := fun _ => hz
        have CO : Hid (∀ (k : Nat), k < 12 → ∀ x, Row x x.heap.size A1 (ints zs) → Calls Try.prog 16 #[.slice A1 zs.length c1, .int .i64 (k : Int)] x (IntsOf (ofL 0 (k : Int) zs) x)) := fun k hk x hx =>
          implLocksOf_is true _ A1 c1 zs (k : Int) x hx (by omega) ⟨fun _ => ⟨PL.out, ⟨by omega, by omega⟩⟩, fun _ => rfl⟩ rfl
        clear hz
        go_wp2_with fail
        go_loopw [7, 8] (fun m i wr2 => ∃ k : Nat, k ≤ 12 ∧ i = .int .i64 k ∧ m = .int .i64 (own1 z k : Nat) ∧ Row wr2 wr2.heap.size A1 (ints zs) ∧ Below w.heap.size w wr2) (fun _ i _ => 12 - (intOf i).toNat)
        case atStart => exact ⟨0, Nat.zero_le _, rfl, by rw [own1_zero]; rfl, rz, hb⟩
        case round =>
          clear rz hb
          obtain ⟨k, hk, rfl, rfl, rz, hb⟩ := hrel
          by_cases hk12 : k < 12
          · obtain ⟨os, hos⟩ : ∃ os, ofL 0 (k : Int) zs = os := ⟨_, rfl⟩
            have CO2 : Hid (∀ x, Row x x.heap.size A1 (ints zs) → Calls Try.prog 16 #[.slice A1 zs.length c1, .int .i64 (k : Int)] x (IntsOf os x)) := fun x hx => by rw [← hos]; exact CO.out k hk12 x hx
            have hol : os.length ≤ 4 := by rw [← hos]; exact Nat.le_trans (ofL_le _ _ _) h4
            obtain ⟨b, hbb⟩ := bool_of ((r : Int) ∈ os)
            have hbz : b = true ↔ z = (k : Int) := by rw [hbb, ← hos, ofL_at hlt, HZ.out hlt]
            have HBB := hid hbb
            have hb1 : own1 z k ≤ 1 := by unfold own1; split <;> omega
            clear hos hbb
            go_wp2_with fail
            refine (CO2.out _ rz).mono ?_
            rintro e w5 ⟨A5, c5, rfl, o5, d5⟩
            have rz5 := rz.on d5
            have b5 := hb.trans (d5.mono hb.size)
            clear rz hb d5 CO2
            go_wp2_with fail
            refine (hasInt_is b A5 c5 os (r : Int) _ _ o5.row (by omega) HBB.out).mono ?_
            rintro e w6 ⟨rfl, rfl⟩
            cases b with
            | true =>
              have hst := own1_yes (hbz.1 rfl)
              obtain ⟨m, hm⟩ : ∃ m, own1 z k = m := ⟨_, rfl⟩
              rw [hm] at hst hb1
              have HST := hid hst
              rw [hm]
              clear HBB hbz hst hm
              go_wp2
              go_roundw
              case rel => exact ⟨k + 1, by omega, by go_num, by rw [HST.out]; go_num, rz5, b5⟩
              case measure => simp [intOf]; omega
            | false =>
              have hst := own1_no (z := z) (k := k) (fun e => by have := hbz.2 e; cases this)
              have HST := hid hst
              clear HBB hbz hst
              go_wp2
              go_roundw
              case rel => exact ⟨k + 1, by omega, by go_num, by rw [HST.out], rz5, b5⟩
              case measure => simp [intOf]; omega
          · have hk' : k = 12 := by omega
            subst hk'
            obtain ⟨ad, rfl, had, hc⟩ := rz.int_ hlt
            rw [HZ.out hlt] at hc
            have q0 : (0 : Int) ≤ (r : Int) := by omega
            have q1 : (r : Int) < (zs.length : Int) := by omega
            have ho1 := hown.1
            have ho2 := hown.2
            clear CO hown
            by_cases hz0 : 0 ≤ z
            · have e1 : own1 z 12 = 1 := by unfold own1; rw [if_pos ⟨hz0, by omega⟩]
              have g0 : decide (0 ≤ z) = true := decide_eq_true hz0
              rw [e1]
              clear e1
              go_wp2_with fail
              try go_quiet (fail)
              try go_wp2
              go_roundw
              case rel => exact ⟨r + 1, by omega, by go_num, rz, hb⟩
              case measure => simp [intOf]; omega
            · have e1 : own1 z 12 = 0 := by unfold own1; rw [if_neg (fun e => hz0 e.1)]
              have g0 : decide (0 ≤ z) = false := decide_eq_false hz0
              rw [e1]
              clear e1
              go_wp2_with fail
              try go_quiet (fail)
              try go_wp2
              go_roundw
              case rel => exact ⟨r + 1, by omega, by go_num, rz, hb⟩
              case measure => simp [intOf]; omega
      · have hr' : r = zs.length := by omega
        subst hr'
        go_wp2
        go_ret
        exact .mk_ hb
theorem FnLocksOf_any (A : Option Addr) (c : Nat) (bs : List Int) (w : World) (f1 : Row w w.heap.size A (bs.map (Value.int .u8))) (f2 : bs.length ≤ c) (f3 : c ≤ maxLen) (f4 : ∀ n ∈ bs, 0 ≤ n ∧ n < 256) :
    Calls Try.prog 4 #[.slice A bs.length c] w (Ret (.bool true) w) := by
  by_cases hl : bs.length ≤ 1048576
  · exact FnLocksOf_yes A c bs w ⟨f1, f2, f3, f4⟩ hl
  · exact FnLocksOf_no A c bs w ⟨f1, f2, f3, f4⟩ hl
end Go.Proofs.Ytcjnlbjlbmadlaa
