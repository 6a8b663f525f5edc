/-
  Walks: a text cut by the model; which parts are valid, by the model and by the program.
-/
import Derived.Test.YtdjfglebnblfkabDoorNamS
import Derived.Deep.RegionHeld3
namespace Go.Proofs.YtdjfglebnblfkabDoor
open Go.RowKit Wo Pu Nm

theorem bool_of (p : Prop) : ∃ b : Bool, (b = true ↔ p) := by
  by_cases h : p
  · exact ⟨true, by simp [h]⟩
  · exact ⟨false, by simp [h]⟩

/-! ### The model's cut. -/
/-- The parts ts have been cut off, up to a; from a to k there is no slash. -/
def At5 (s : ByteArray) (ts : List ByteArray) (a k : Nat) : Prop := cutB s = ts ++ cutB (s.extract a s.size) ∧ Clear (bl (s.extract a k))
theorem ext_all (s : ByteArray) : s.extract 0 s.size = s := by
  apply bl_inj
  rw [bl_extract, List.drop_zero, Nat.sub_zero, List.take_of_length_le (by rw [bl_size]; omega)]
theorem ext_same (s : ByteArray) (a : Nat) : bl (s.extract a a) = [] := by rw [bl_extract, Nat.sub_self, List.take_zero]
theorem bl_at (s : ByteArray) {k : Nat} (h : k < s.size) : (bl s)[k]'(by rw [bl_size]; exact h) = s[k] := rfl
theorem ext_snoc (s : ByteArray) {a k : Nat} (h : a ≤ k) (hk : k < s.size) : bl (s.extract a (k + 1)) = bl (s.extract a k) ++ [s[k]] := by
  have hl := bl_size s
  rw [bl_extract, bl_extract, show k + 1 - a = (k - a) + 1 from by omega, List.take_succ_eq_append_getElem (by rw [List.length_drop]; omega)]
  congr 2
  rw [List.getElem_drop]
  have : a + (k - a) = k := by omega
  simp only [this]
  exact bl_at s hk
theorem ext_split (s : ByteArray) {a k : Nat} (h : a ≤ k) (hk : k < s.size) : bl (s.extract a s.size) = bl (s.extract a k) ++ s[k] :: bl (s.extract (k + 1) s.size) := by
  have hl := bl_size s
  rw [bl_extract, bl_extract, bl_extract, List.take_of_length_le (by rw [List.length_drop]; omega), List.take_of_length_le (l := List.drop (k + 1) (bl s)) (by rw [List.length_drop]; omega)]
  conv => lhs; rw [← List.take_append_drop (k - a) ((bl s).drop a)]
  have e : (bl s).drop k = s[k] :: (bl s).drop (k + 1) := List.drop_eq_getElem_cons (l := bl s) (i := k) (by omega)
  rw [List.drop_drop, show a + (k - a) = k from by omega, e]
theorem At5.zero (s : ByteArray) : At5 s [] 0 0 := ⟨by rw [ext_all]; rfl, by rw [ext_same]; exact .nil⟩
theorem At5.next {s : ByteArray} {ts : List ByteArray} {a k : Nat} (h : At5 s ts a k) (ha : a ≤ k) (hk : k < s.size) (hb : s[k] ≠ 47) : At5 s ts a (k + 1) :=
  ⟨h.1, by rw [ext_snoc s ha hk]; exact h.2.snoc hb⟩
theorem At5.hit {s : ByteArray} {ts : List ByteArray} {a k : Nat} (h : At5 s ts a k) (ha : a ≤ k) (hk : k < s.size) (hb : s[k] = 47) : At5 s (ts ++ [s.extract a k]) (k + 1) (k + 1) := by
  refine ⟨?_, by rw [ext_same]; exact .nil⟩
  rw [h.1]
  have e : cutB (s.extract a s.size) = s.extract a k :: cutB (s.extract (k + 1) s.size) := by
    unfold cutB
    rw [ext_split s ha hk, hb, cut_hit h.2, List.map_cons, mk_bl]
  rw [e, List.append_assoc]
  rfl
theorem At5.last {s : ByteArray} {ts : List ByteArray} {a : Nat} (h : At5 s ts a s.size) : cutB s = ts ++ [s.extract a s.size] := by
  rw [h.1]
  congr 1
  unfold cutB
  rw [cut_miss h.2, List.map_cons, List.map_nil, mk_bl]
/-- What the cut answers: a list of texts of the call's own. -/
def TextsOf (ts : List ByteArray) (w : World) (e : Ending) (w' : World) : Prop := ∃ A c, e = .returned (.slice A ts.length c) ∧ OwnT w' w.heap.size (.slice A ts.length c) ts ∧ Below w.heap.size w w'
theorem TextsOf.mk_ {ts : List ByteArray} {w w' : World} {v : Value} (ho : OwnT w' w.heap.size v ts) (hb : Below w.heap.size w w') : TextsOf ts w (.returned v) w' := by
  obtain ⟨A, c, rfl, _⟩ := ho.form
  exact ⟨A, c, rfl, ho, hb⟩

set_option maxRecDepth 100000 in
set_option maxHeartbeats 4000000 in
theorem l5Cut_any (s : ByteArray) (w : World) (hs : s.size ≤ 1048600) :
    Calls Tryd.prog 30 #[.string s] w (TextsOf (cutB s) w) := by
  obtain ⟨i0, hi, hz0, hz1, hz2⟩ := info_of info_str
  go_enter Tryd.func30, Tryd.ntmps30
  go_wp2_with fail
  go_loopw [3, 4, 5] (fun v f i wr => ∃ (ts : List ByteArray) (a k : Nat), k ≤ s.size ∧ a ≤ k ∧ f = .int .i64 a ∧ i = .int .i64 k ∧ Hid (At5 s ts a k) ∧ OwnT wr w.heap.size v ts ∧ ts.length ≤ a ∧ Below w.heap.size w wr) (fun _ _ i _ => s.size - (intOf i).toNat)
  case atStart => exact ⟨[], 0, 0, Nat.zero_le _, Nat.le_refl _, rfl, rfl, .zero s, OwnT.nil_new (Nat.le_refl _), Nat.le_refl _, (Below.refl _ _).alloc (Nat.le_refl _) _⟩
  case round =>
    obtain ⟨ts, a, k, hk, ha, rfl, rfl, HA, ho, hl, hb⟩ := hrel
    have hz := hb.size
    by_cases hlt : k < s.size
    · by_cases h47 : s[k] = 47
      · have HM := hid (HA.out.hit ha hlt h47)
        have e0 : (((s[k]).toNat : Int) == 47) = true := by rw [h47]; rfl
        have q0 : (0 : Int) ≤ (a : Int) := by omega
        have q1 : (a : Int) ≤ (k : Int) := by omega
        have q2 : (k : Int) ≤ (s.size : Int) := by omega
        have a2 := World.ownsRow.alloc ho (.cells #[.string (s.extract a k)] 9)
        have b3 := hb.alloc hz (.cells #[.string (s.extract a k)] 9)
        have lt1 := World.ownsRow.lt a2
        clear HA h47
        go_wp2_with (at_builtin; go_must (refine wpList_append_own _ rfl _ _ 26 rfl w.heap.size 9 i0 (.string ⟨#[]⟩) 1 16 Tryd.underlying26 hi hz0 hz1 hz2 rfl (by decide) _ ts.length (txts ts) rfl a2 ⟨wr.heap.size, 0, none⟩ 1 1 [.string (s.extract a k)] rfl rfl (cell_one_new _ _ _) (one_str _) (by unfold maxLen; omega) (by omega) (by simp; omega) ?_); intro u4 w4 hown hg _)
        have b4 : Below w.heap.size w w4 := b3.grown hg (by simp; omega) (fun j hj => (lt1 j hj).1)
        have ho4 := OwnT.app hown
        clear hown hg a2 b3 lt1 ho hb
        go_wp2
        go_roundw
        case rel => exact ⟨ts ++ [s.extract a k], k + 1, k + 1, by omega, by omega, by go_num, by go_num, HM, ho4, by rw [List.length_append, List.length_singleton]; omega, b4⟩
        case measure => simp [intOf]; omega
      · have HM := hid (HA.out.next ha hlt h47)
        have e0 : (((s[k]).toNat : Int) == 47) = false := by
          rw [beq_eq_false_iff_ne]
          intro e
          exact h47 (UInt8.toNat_inj.1 (by rw [show (47 : UInt8).toNat = 47 from rfl]; omega))
        clear HA h47
        go_wp2
        go_roundw
        case rel => exact ⟨ts, a, k + 1, by omega, by omega, rfl, by go_num, HM, ho, hl, hb⟩
        case measure => simp [intOf]; omega
    · have hk' : k = s.size := by omega
      subst hk'
      have HL := hid HA.out.last
      have q0 : (0 : Int) ≤ (a : Int) := by omega
      have q1 : (a : Int) ≤ (s.size : Int) := by omega
      have a2 := World.ownsRow.alloc ho (.cells #[.string (s.extract a s.size)] 9)
      have b3 := hb.alloc hz (.cells #[.string (s.extract a s.size)] 9)
      have lt1 := World.ownsRow.lt a2
      clear HA
      go_wp2_with (at_builtin; go_must (refine wpList_append_own _ rfl _ _ 26 rfl w.heap.size 9 i0 (.string ⟨#[]⟩) 1 16 Tryd.underlying26 hi hz0 hz1 hz2 rfl (by decide) _ ts.length (txts ts) rfl a2 ⟨wr.heap.size, 0, none⟩ 1 1 [.string (s.extract a s.size)] rfl rfl (cell_one_new _ _ _) (one_str _) (by unfold maxLen; omega) (by omega) (by simp; omega) ?_); intro u4 w4 hown hg _)
      have b4 : Below w.heap.size w w4 := b3.grown hg (by simp; omega) (fun j hj => (lt1 j hj).1)
      have ho4 := OwnT.app hown
      rw [← HL.out] at ho4
      clear hown hg a2 b3 lt1 ho hb
      go_wp2
      go_ret
      exact .mk_ ho4 b4

/-! ### Which parts are valid. -/
/-- The byte at k may stand there. -/
def OkAt (s : ByteArray) (k : Nat) (h : k < s.size) : Prop := Lett s[k] ∨ (s[k].toNat = 45 ∧ k ≠ 0 ∧ k + 1 ≠ s.size)
theorem part_iff (s : ByteArray) : Part (bl s) ↔ s.size ≠ 0 ∧ ∀ k (h : k < s.size), OkAt s k h := by
  have hl := bl_size s
  unfold Part OkAt
  refine and_congr ⟨fun h e => h (List.eq_nil_of_length_eq_zero (by omega)), fun h e => h (by rw [← hl, e]; rfl)⟩ ⟨fun h k hk => ?_, fun h k hk => ?_⟩
  · exact (h k (by omega)).imp id (fun ⟨x, y, z⟩ => ⟨x, y, by omega⟩)
  · exact (h k (by omega)).imp id (fun ⟨x, y, z⟩ => ⟨x, y, by omega⟩)
/-- The bytes ahead of k may stand there. -/
def OkTo (s : ByteArray) (k : Nat) : Prop := ∀ j (h : j < s.size), j < k → OkAt s j h
theorem OkTo.zero (s : ByteArray) : OkTo s 0 := fun _ _ h => absurd h (Nat.not_lt_zero _)
theorem OkTo.next {s : ByteArray} {k : Nat} (h : OkTo s k) (hk : k < s.size) (ho : OkAt s k hk) : OkTo s (k + 1) := fun j hj hl => by
  by_cases e : j = k
  · subst e; exact ho
  · exact h j hj (by omega)
theorem OkTo.yes {s : ByteArray} {b : Bool} (hb : b = true ↔ Part (bl s)) (h : OkTo s s.size) (h0 : s.size ≠ 0) : b = true := hb.2 ((part_iff s).2 ⟨h0, fun k hk => h k hk hk⟩)
theorem part_no {s : ByteArray} {b : Bool} (hb : b = true ↔ Part (bl s)) {k : Nat} (hk : k < s.size) (h : ¬ OkAt s k hk) : b = false := by
  rw [← Bool.not_eq_true]
  exact fun e => h (((part_iff s).1 (hb.1 e)).2 k hk)
theorem part_none {s : ByteArray} {b : Bool} (hb : b = true ↔ Part (bl s)) (h : s.size = 0) : b = false := by
  rw [← Bool.not_eq_true]
  exact fun e => ((part_iff s).1 (hb.1 e)).1 h

set_option maxRecDepth 100000 in
set_option maxHeartbeats 4000000 in
theorem l5Part_is (b : Bool) (s : ByteArray) (w : World) (hb : b = true ↔ Part (bl s)) (hs : s.size ≤ 1048600) :
    Calls Tryd.prog 31 #[.string s] w (Same (.bool b) w) := by
  have HB := hid hb
  clear hb
  go_enter Tryd.func31, Tryd.ntmps31
  go_wp2
  go_loop [3] (fun i => ∃ k : Nat, k ≤ s.size ∧ i = .int .i64 k ∧ Hid (OkTo s k)) (fun i => s.size - (intOf i).toNat)
  case atStart => exact ⟨0, Nat.zero_le _, rfl, .zero s⟩
  case round =>
    obtain ⟨k, hk, rfl, H⟩ := hrel
    by_cases hlt : k < s.size
    · obtain ⟨z, hz⟩ : ∃ z, s[k].toNat = z := ⟨_, rfl⟩
      have hz9 : z < 256 := by rw [← hz]; exact s[k].toNat_lt
      have hoi : OkAt s k hlt ↔ ((97 ≤ z ∧ z ≤ 122) ∨ (48 ≤ z ∧ z ≤ 57)) ∨ (z = 45 ∧ k ≠ 0 ∧ k + 1 ≠ s.size) := by unfold OkAt Lett; rw [hz]
      by_cases hok : OkAt s k hlt
      · have HN := hid (H.out.next hlt hok)
        have hcs := hoi.1 hok
        clear H hok hoi
        rcases hcs with (⟨c1, c2⟩ | ⟨c1, c2⟩) | ⟨c1, c2, c3⟩
        ·
          go_wp2
          go_round
          case rel => exact ⟨k + 1, by omega, by go_num, HN⟩
          case measure => simp [intOf]; omega
        · have p1 : decide ((97 : Int) ≤ (z : Int)) = false := by simp; omega
          have p2 : decide (97 ≤ z) = false := by simp; omega
          go_wp2
          go_round
          case rel => exact ⟨k + 1, by omega, by go_num, HN⟩
          case measure => simp [intOf]; omega
        · subst c1
          have p3 : ((k : Int) == 0) = false := by rw [beq_eq_false_iff_ne]; omega
          have p4 : ((k : Int) == (s.size : Int) - 1) = false := by rw [beq_eq_false_iff_ne]; omega
          go_wp2
          go_round
          case rel => exact ⟨k + 1, by omega, by go_num, HN⟩
          case measure => simp [intOf]; omega
      · have hcs : ¬ (((97 ≤ z ∧ z ≤ 122) ∨ (48 ≤ z ∧ z ≤ 57)) ∨ (z = 45 ∧ k ≠ 0 ∧ k + 1 ≠ s.size)) := fun h => hok (hoi.2 h)
        clear hoi H
        by_cases c1 : z = 45
        · subst c1
          by_cases c2 : k = 0
          · have p3 : ((k : Int) == 0) = true := by rw [beq_iff_eq]; omega
            clear hcs c2
            have F := hid (part_no HB.out hlt hok)
            clear hok
            go_wp2
            go_ret
            rw [F.out]
            exact ⟨rfl, rfl⟩
          · have p3 : ((k : Int) == 0) = false := by rw [beq_eq_false_iff_ne]; omega
            have p4 : ((k : Int) == (s.size : Int) - 1) = true := by rw [beq_iff_eq]; omega
            clear hcs c2
            have F := hid (part_no HB.out hlt hok)
            clear hok
            go_wp2
            go_ret
            rw [F.out]
            exact ⟨rfl, rfl⟩
        · have p5 : ((z : Int) != 45) = true := by rw [bne_iff_ne]; omega
          by_cases c2 : 97 ≤ z
          · have p1 : decide ((z : Int) ≤ 122) = false := by simp; omega
            have p2 : decide (z ≤ 122) = false := by simp; omega
            have p3 : decide ((z : Int) ≤ 57) = false := by simp; omega
            have p4 : decide (z ≤ 57) = false := by simp; omega
            have p6 : 48 ≤ z := by omega
            clear hcs c1
            have F := hid (part_no HB.out hlt hok)
            clear hok
            go_wp2
            go_ret
            rw [F.out]
            exact ⟨rfl, rfl⟩
          · have p1 : decide ((97 : Int) ≤ (z : Int)) = false := by simp; omega
            have p2 : decide (97 ≤ z) = false := by simp; omega
            by_cases c3 : 48 ≤ z
            · have p3 : decide ((z : Int) ≤ 57) = false := by simp; omega
              have p4 : decide (z ≤ 57) = false := by simp; omega
              clear hcs c1
              have F := hid (part_no HB.out hlt hok)
              clear hok
              go_wp2
              go_ret
              rw [F.out]
              exact ⟨rfl, rfl⟩
            · have p3 : decide ((48 : Int) ≤ (z : Int)) = false := by simp; omega
              have p4 : decide (48 ≤ z) = false := by simp; omega
              clear hcs c1
              have F := hid (part_no HB.out hlt hok)
              clear hok
              go_wp2
              go_ret
              rw [F.out]
              exact ⟨rfl, rfl⟩
    · have hk' : k = s.size := by omega
      subst hk'
      by_cases h0 : s.size = 0
      · have F := hid (part_none HB.out h0)
        have e0 : decide (0 < (s.size : Int)) = false := decide_eq_false (by omega)
        have e1 : decide (0 < s.size) = false := decide_eq_false (by omega)
        clear h0 H
        go_wp2
        go_ret
        rw [F.out]
        exact ⟨rfl, rfl⟩
      · have F := hid (OkTo.yes HB.out H.out h0)
        have e0 : decide (0 < (s.size : Int)) = true := decide_eq_true (by omega)
        have e1 : decide (0 < s.size) = true := decide_eq_true (by omega)
        clear h0 H
        go_wp2
        go_ret
        rw [F.out]
        exact ⟨rfl, rfl⟩
end Go.Proofs.YtdjfglebnblfkabDoor
