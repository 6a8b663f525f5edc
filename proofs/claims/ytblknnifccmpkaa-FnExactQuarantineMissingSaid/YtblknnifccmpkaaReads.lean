/-
  Walks of the functions that only read links and texts.
-/
import Derived.Test.YtblknnifccmpkaaProg
import Derived.Test.YtblknnifccmpkaaG0C
import Derived.Deep.QuietTactic
import Derived.BigQuiet
namespace Go.Proofs.Ytblknnifccmpkaa
open Go.RowKit Wo Pu

def Quiet (v : Value) (w : World) (e : Ending) (w' : World) : Prop := e = .returned v ∧ ∃ d, w' = w.drewN d
theorem Quiet.intro_ {v : Value} {w : World} (d : Nat) : Quiet v w (.returned v) (w.drewN d) := ⟨rfl, d, rfl⟩

theorem l1Id_yes (z : Int) (w : World) (h0 : 0 ≤ z) (h1 : z ≤ 990) : Calls Try.prog 112 #[.int .i64 z] w fun e w' => e = .returned (.bool true) ∧ w' = w := by
  have e0 : decide (0 ≤ z) = true := by simp [h0]
  have e1 : decide (z ≤ 990) = true := by simp [h1]
  go_enter Try.func112, Try.ntmps112
  go_wp2
  go_ret
  exact ⟨rfl, rfl⟩
theorem l1Id_no (z : Int) (w : World) (h : z < 0 ∨ 990 < z) : Calls Try.prog 112 #[.int .i64 z] w fun e w' => e = .returned (.bool false) ∧ w' = w := by
  by_cases h0 : 0 ≤ z
  · have e0 : decide (0 ≤ z) = true := by simp [h0]
    have h1 : ¬ z ≤ 990 := by omega
    have e1 : decide (z ≤ 990) = false := by simpa using h1
    go_enter Try.func112, Try.ntmps112
    go_wp2
    go_ret
    exact ⟨rfl, rfl⟩
  · have e0 : decide (0 ≤ z) = false := by simpa using h0
    go_enter Try.func112, Try.ntmps112
    go_wp2
    go_ret
    exact ⟨rfl, rfl⟩

/-- The link before place k. -/
def prev (zs : List Int) (k : Nat) : Int := if k = 0 then -1 else zs.getD (k - 1) 0
theorem prev_succ (zs : List Int) (k : Nat) (hk : k < zs.length) : prev zs (k + 1) = zs[k] := by
  simp [prev, List.getD, List.getElem?_eq_getElem hk]

theorem step_no {zs : List Int} {k : Nat} (hk : k < zs.length) (hp : -1 ≤ prev zs k) (h : zs[k] < 0 ∨ 990 < zs[k]) : ascB (prev zs k) (zs.drop k) = false := by
  rw [ascB_drop hk]
  rcases h with h | h
  · rw [decide_eq_false (by omega)]; rfl
  · rw [decide_eq_false (p := zs[k] < 991) (by omega)]; simp
theorem step_low {zs : List Int} {k : Nat} (hk : k < zs.length) (h : zs[k] ≤ prev zs k) : ascB (prev zs k) (zs.drop k) = false := by
  rw [ascB_drop hk, decide_eq_false (by omega)]; rfl
theorem step_yes {zs : List Int} {k : Nat} (hk : k < zs.length) (h : prev zs k < zs[k]) (h1 : zs[k] ≤ 990) : ascB (prev zs k) (zs.drop k) = ascB (prev zs (k + 1)) (zs.drop (k + 1)) := by
  rw [ascB_drop hk, decide_eq_true h, decide_eq_true (p := zs[k] < 991) (by omega), prev_succ zs k hk]; rfl
theorem prev_zero (zs : List Int) : prev zs 0 = -1 := rfl
theorem prev_pos (zs : List Int) (k : Nat) (hk : k + 1 ≤ zs.length) (h0 : 0 < k) : prev zs k = zs[k - 1] := by
  unfold prev
  rw [if_neg (by omega)]
  simp [List.getD, List.getElem?_eq_getElem (show k - 1 < zs.length by omega)]

/-- The world is the old one, but for draws. -/
def Dr (w w' : World) : Prop := ∃ d, w' = w.drewN d
theorem Dr.refl (w : World) : Dr w w := ⟨0, rfl⟩
theorem Dr.drewN {w w' : World} (h : Dr w w') (n : Nat) : Dr w (w'.drewN n) := by
  obtain ⟨d, rfl⟩ := h
  exact ⟨d + n, World.drewN_drewN _ _ _⟩
theorem Dr.row {w w' : World} (h : Dr w w') {B : Nat} {A : Option Addr} {vs : List Value} (hr : Row w B A vs) : Row w' B A vs := by
  obtain ⟨d, rfl⟩ := h
  exact hr.drewN d
theorem Dr.quiet {w w' : World} (h : Dr w w') (v : Value) : Quiet v w (.returned v) w' := ⟨rfl, h⟩

set_option maxHeartbeats 1000000 in
theorem l1Ids_any (B : Nat) (A : Option Addr) (c : Nat) (zs : List Int) (w : World) (hr : Row w B A (ints zs)) (hm : zs.length ≤ maxLen) :
    Calls Try.prog 83 #[.slice A zs.length c] w (Quiet (.bool (ascB (-1) zs)) w) := by
  unfold maxLen at hm
  go_enter Try.func83, Try.ntmps83
  go_wp2
  go_loopw [3] (fun i wr => ∃ k : Nat, k ≤ zs.length ∧ i = .int .i64 k ∧ Dr w wr ∧ Hid (ascB (-1) zs = ascB (prev zs k) (zs.drop k)) ∧ Hid (-1 ≤ prev zs k)) (fun i _ => zs.length - (intOf i).toNat)
  case atStart => exact ⟨0, Nat.zero_le _, rfl, .refl _, rfl, by show -1 ≤ prev zs 0; rw [prev_zero]; decide⟩
  case round =>
    obtain ⟨k, hk, rfl, HW, H, HP⟩ := hrel
    by_cases hlt : k < zs.length
    · obtain ⟨ad, rfl, hb, hc⟩ := (HW.row hr).int_ hlt
      by_cases hz : 0 ≤ zs[k] ∧ zs[k] ≤ 990
      · obtain ⟨hz0, hz1⟩ := hz
        rcases Nat.eq_zero_or_pos k with h0 | h0
        · subst h0
          have H2 := hid ((H.out).trans (step_yes hlt (by rw [prev_zero]; omega) hz1))
          have HP2 : Hid (-1 ≤ prev zs (0 + 1)) := by show -1 ≤ prev zs (0 + 1); rw [prev_succ zs 0 hlt]; omega
          clear H HP
          rw [add_zero] at hc
          go_wp2
          go_quiet ((go_at_call 112; exact Calls.quiet_of_same (l1Id_yes _ _ hz0 hz1)))
          go_wp2
          go_roundw
          case rel => exact ⟨0 + 1, by omega, by go_num, .drewN HW _, H2, HP2⟩
          case measure => simp [intOf]; omega
        · obtain ⟨ad', e', hb', hc'⟩ := (HW.row hr).int_ (k := k - 1) (by omega)
          obtain rfl : ad = ad' := by injection e'
          by_cases hle : zs[k] ≤ zs[k - 1]
          · have hfin : ascB (-1) zs = false := (H.out).trans (step_low hlt (by rw [prev_pos zs k (by omega) h0]; exact hle))
            clear H HP e'
            go_wp2
            go_quiet ((go_at_call 112; exact Calls.quiet_of_same (l1Id_yes _ _ hz0 hz1)))
            go_wp2
            go_ret
            rw [hfin]
            exact (HW.drewN _).quiet _
          · have H2 := hid ((H.out).trans (step_yes hlt (by rw [prev_pos zs k (by omega) h0]; omega) hz1))
            have HP2 : Hid (-1 ≤ prev zs (k + 1)) := by show -1 ≤ prev zs (k + 1); rw [prev_succ zs k hlt]; omega
            clear H HP e'
            go_wp2
            go_quiet ((go_at_call 112; exact Calls.quiet_of_same (l1Id_yes _ _ hz0 hz1)))
            go_wp2
            go_roundw
            case rel => exact ⟨k + 1, by omega, by go_num, .drewN HW _, H2, HP2⟩
            case measure => simp [intOf]; omega
      · have hfin : ascB (-1) zs = false := (H.out).trans (step_no hlt HP.out (by omega))
        clear H HP
        go_wp2
        go_quiet ((go_at_call 112; exact Calls.quiet_of_same (l1Id_no _ _ (by omega))))
        go_wp2
        go_ret
        rw [hfin]
        exact (HW.drewN _).quiet _
    · have hk' : k = zs.length := by omega
      have hfin : ascB (-1) zs = true := by rw [H.out, hk', List.drop_length]; rfl
      clear H HP
      subst hk'
      go_wp2
      go_ret
      rw [hfin]
      exact HW.quiet _

def Same (v : Value) (w : World) (e : Ending) (w' : World) : Prop := e = .returned v ∧ w = w'


/-- Links that an object may have. -/
def linksB (zs : List Int) : Bool := ascB (-1) zs && decide (zs.length ≤ 4)
theorem links_a {zs : List Int} (h : ascB (-1) zs = false) : linksB zs = false := by simp [linksB, h]
theorem links_b {zs : List Int} (h : ¬ zs.length ≤ 4) : linksB zs = false := by simp [linksB, h]
theorem links_c {zs : List Int} (h : ascB (-1) zs = true) (h4 : zs.length ≤ 4) : linksB zs = true := by simp [linksB, h, h4]

set_option maxHeartbeats 1000000 in
theorem idsValid_any (B : Nat) (A : Option Addr) (c : Nat) (zs : List Int) (w : World) (hr : Row w B A (ints zs)) (hm : zs.length ≤ maxLen) :
    Calls Try.prog 80 #[.slice A zs.length c] w (Same (.bool (linksB zs)) w) := by
  unfold maxLen at hm
  by_cases h4 : zs.length ≤ 4
  · go_enter Try.func80, Try.ntmps80
    go_wp2
    go_loop [3, 11] (fun l i => ∃ k : Nat, k ≤ zs.length ∧ i = .int .i64 k ∧ l = .int .i64 (prev zs k) ∧ Hid (ascB (-1) zs = ascB (prev zs k) (zs.drop k))) (fun _ i => zs.length - (intOf i).toNat)
    case atStart => exact ⟨0, Nat.zero_le _, rfl, rfl, rfl⟩
    case round =>
      obtain ⟨k, hk, rfl, rfl, H⟩ := hrel
      by_cases hlt : k < zs.length
      · obtain ⟨ad, rfl, hb, hc⟩ := hr.int_ hlt
        by_cases hz : zs[k] ≤ prev zs k
        · have F := hid (links_a ((H.out).trans (step_low hlt hz)))
          clear H
          go_wp2
          go_ret
          rw [F.out]
          exact ⟨rfl, rfl⟩
        · by_cases hz1 : zs[k] ≤ 990
          · have H2 := hid ((H.out).trans (step_yes hlt (by omega) hz1))
            have HP := hid (prev_succ zs k hlt)
            clear H
            go_wp2
            go_round
            case rel => exact ⟨k + 1, by omega, by go_num, by rw [HP.out], H2⟩
            case measure => simp [intOf]; omega
          · have F : Hid (linksB zs = false) := by
              refine links_a ?_
              rw [H.out, ascB_drop hlt, decide_eq_false (p := zs[k] < 991) (by omega)]
              simp
            clear H
            go_wp2
            go_ret
            rw [F.out]
            exact ⟨rfl, rfl⟩
      · have hk' : k = zs.length := by omega
        have F : Hid (linksB zs = true) := by refine links_c ?_ h4; rw [H.out, hk', List.drop_length]; rfl
        clear H
        subst hk'
        go_wp2
        go_ret
        rw [F.out]
        exact ⟨rfl, rfl⟩
  · have F := hid (links_b h4)
    go_enter Try.func80, Try.ntmps80
    go_wp2
    go_ret
    rw [F.out]
    exact ⟨rfl, rfl⟩

/-- It returns v; what was there is as it was. -/
def Ret (v : Value) (w : World) (e : Ending) (w' : World) : Prop := e = .returned v ∧ Below w.heap.size w w'
theorem Dr.below {w w' : World} (h : Dr w w') (B : Nat) : Below B w w' := by
  obtain ⟨d, rfl⟩ := h
  exact Wo.Below.drewN (Below.refl _ _) _

/-- An object as a value. -/
def ob (kd : Int) (A : Option Addr) (n c : Nat) (s : ByteArray) : Value := .agg #[.int .i64 kd, .slice A n c, .string s]

theorem vld_a {kd : Int} {zs : List Int} {m : Nat} (h : ascB (-1) zs = false) : vldB kd zs m = false := by simp [vldB, h]
theorem vld_b {kd : Int} {zs : List Int} {m : Nat} (h : ¬ zs.length ≤ 4) : vldB kd zs m = false := by simp [vldB, h]
theorem vld_c {kd : Int} {zs : List Int} {m : Nat} (h : ¬ m ≤ 8) : vldB kd zs m = false := by simp [vldB, h]
theorem vld_d {kd : Int} {zs : List Int} {m : Nat} (h : ascB (-1) zs = true) (h4 : zs.length ≤ 4) (h8 : m ≤ 8) : vldB kd zs m = kindB kd zs.length m := by simp [vldB, h, h4, h8]

theorem Ret.mk_ {v : Value} {w w' : World} (h : Below w.heap.size w w') : Ret v w (.returned v) w' := ⟨rfl, h⟩

theorem Ret.bool_ {a b : Bool} {w w' : World} (h : b = a) (hb : Below w.heap.size w w') : Ret (.bool a) w (.returned (.bool b)) w' := by subst h; exact ⟨rfl, hb⟩
theorem emp_ (s : ByteArray) : s.toList.isEmpty = decide (s.size = 0) := by
  rw [← decide_eq_emptyBytes s]
  simp

theorem kind_1 (n m : Nat) : kindB 1 n m = decide (n = 0) := rfl
theorem kind_2 (n m : Nat) : kindB 2 n m = decide (m = 0) := rfl
theorem kind_3 (n m : Nat) : kindB 3 n m = decide (0 < n) := rfl
theorem kind_0 {kd : Int} (n m : Nat) (h1 : ¬ kd = 1) (h2 : ¬ kd = 2) (h3 : ¬ kd = 3) : kindB kd n m = false := by simp [kindB, h1, h2, h3]

set_option maxHeartbeats 4000000 in
theorem specValid_any (B : Nat) (A : Option Addr) (c : Nat) (kd : Int) (zs : List Int) (s : ByteArray) (w : World) (hr : Row w B A (ints zs)) (hB : B ≤ w.heap.size) (hm : zs.length ≤ maxLen) (hs : s.size ≤ maxLen) :
    Calls Try.prog 70 #[ob kd A zs.length c s] w (Ret (.bool (vldB kd zs s.size)) w) := by
  have hm' := hm
  unfold ob
  unfold maxLen at hs hm'
  cases hA : ascB (-1) zs
  · have F := hid (vld_a (kd := kd) (m := s.size) hA)
    go_enter Try.func70, Try.ntmps70
    go_wp2_with (go_at_call 83; refine (l1Ids_any B A c zs _ (hr.alloc hB _) hm).mono ?_; rintro e w' ⟨rfl, d, rfl⟩)
    go_ret
    rw [F.out]
    exact .mk_ (Below.drewN ((Below.refl _ _).alloc (Nat.le_refl _) _) d)
  by_cases h4 : zs.length ≤ 4
  · by_cases h8 : s.size ≤ 8
    · have F := hid (vld_d (kd := kd) (m := s.size) hA h4 h8)
      have key : Hid (kd = 1 ∨ kd = 2 ∨ kd = 3 ∨ (¬ kd = 1 ∧ ¬ kd = 2 ∧ ¬ kd = 3)) := by show kd = 1 ∨ kd = 2 ∨ kd = 3 ∨ (¬ kd = 1 ∧ ¬ kd = 2 ∧ ¬ kd = 3); omega
      rcases key.out with k1 | k1 | k1 | ⟨k1, k2, k3⟩
      · subst k1
        clear key
        go_enter Try.func70, Try.ntmps70
        go_wp2_with (go_at_call 83; refine (l1Ids_any B A c zs _ (hr.alloc hB _) hm).mono ?_; rintro e w' ⟨rfl, d, rfl⟩)
        go_ret
        rw [F.out, kind_1]
        exact .bool_ (by rw [Bool.eq_iff_iff]; simp) (Below.drewN ((Below.refl _ _).alloc (Nat.le_refl _) _) d)
      · subst k1
        clear key
        go_enter Try.func70, Try.ntmps70
        go_wp2_with (go_at_call 83; refine (l1Ids_any B A c zs _ (hr.alloc hB _) hm).mono ?_; rintro e w' ⟨rfl, d, rfl⟩)
        go_ret
        rw [F.out, kind_2]
        exact .bool_ (emp_ s) (Below.drewN ((Below.refl _ _).alloc (Nat.le_refl _) _) d)
      · subst k1
        clear key
        go_enter Try.func70, Try.ntmps70
        go_wp2_with (go_at_call 83; refine (l1Ids_any B A c zs _ (hr.alloc hB _) hm).mono ?_; rintro e w' ⟨rfl, d, rfl⟩)
        go_ret
        rw [F.out, kind_3]
        exact .bool_ (by simp) (Below.drewN ((Below.refl _ _).alloc (Nat.le_refl _) _) d)
      · clear key
        go_enter Try.func70, Try.ntmps70
        go_wp2_with (go_at_call 83; refine (l1Ids_any B A c zs _ (hr.alloc hB _) hm).mono ?_; rintro e w' ⟨rfl, d, rfl⟩)
        go_ret
        rw [F.out, kind_0 _ _ k1 k2 k3]
        exact .mk_ (Below.drewN ((Below.refl _ _).alloc (Nat.le_refl _) _) d)
    · have F := hid (vld_c (kd := kd) (zs := zs) h8)
      go_enter Try.func70, Try.ntmps70
      go_wp2_with (go_at_call 83; refine (l1Ids_any B A c zs _ (hr.alloc hB _) hm).mono ?_; rintro e w' ⟨rfl, d, rfl⟩)
      go_ret
      rw [F.out]
      exact .mk_ (Below.drewN ((Below.refl _ _).alloc (Nat.le_refl _) _) d)
  · have F := hid (vld_b (kd := kd) (m := s.size) h4)
    go_enter Try.func70, Try.ntmps70
    go_wp2_with (go_at_call 83; refine (l1Ids_any B A c zs _ (hr.alloc hB _) hm).mono ?_; rintro e w' ⟨rfl, d, rfl⟩)
    go_ret
    rw [F.out]
    exact .mk_ (Below.drewN ((Below.refl _ _).alloc (Nat.le_refl _) _) d)

end Go.Proofs.Ytblknnifccmpkaa
