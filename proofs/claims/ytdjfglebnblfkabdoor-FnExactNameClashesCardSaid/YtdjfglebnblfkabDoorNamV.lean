/-
  Walks: which names are valid, and their parts, by the program and by the model.
-/
import Derived.Test.YtdjfglebnblfkabDoorNamC
namespace Go.Proofs.YtdjfglebnblfkabDoor
open Go.RowKit Wo Pu Nm

/-! ### Prefixes and suffixes. -/
set_option maxHeartbeats 1000000 in
theorem litePrefix_any (s p : ByteArray) (w : World) :
    Calls Tryd.prog 42 #[.string s, .string p] w (Same (.bool (Lib.hasPrefix s.data.toList p.data.toList)) w) := by
  rw [← Lib.hasPrefix_of_take, ← Lib.size_eq, ← Lib.size_eq]
  go_enter Tryd.func42, Tryd.ntmps42
  go_wp2
  · rename_i h
    go_ret
    refine ⟨?_, rfl⟩
    show Ending.returned (Value.bool ((s.extract 0 p.size).toList == p.toList)) = _
    rw [Lib.extract_toList, Lib.toList_data]
    simp [h]
  · rename_i h
    go_ret
    refine ⟨?_, rfl⟩
    show Ending.returned (Value.bool false) = _
    simp [h]
theorem hasPrefix_val (b : Bool) (s p : ByteArray) (w : World) (hb : Lib.hasPrefix (bl s) (bl p) = b) :
    Calls Tryd.prog 37 #[.string s, .string p] w (Same (.bool b) w) := by
  subst hb
  go_enter Tryd.func37, Tryd.ntmps37
  go_wp2_with (go_at_call 42; refine (litePrefix_any _ _ _).mono ?_; rintro e w' ⟨rfl, rfl⟩)
  go_ret
  exact ⟨rfl, rfl⟩
set_option maxHeartbeats 1000000 in
theorem liteSuffix_any (s p : ByteArray) (w : World) (hs : s.size ≤ 9223372036854775807) :
    Calls Tryd.prog 50 #[.string s, .string p] w (Same (.bool (Lib.hasSuffix s.data.toList p.data.toList)) w) := by
  rw [← Lib.hasSuffix_raw]
  have hlo : p.size ≤ s.size → ((s.size : Int) - (p.size : Int) + 9223372036854775808) % 18446744073709551616 - 9223372036854775808 = ((s.size - p.size : Nat) : Int) := fun _ => by omega
  go_enter Tryd.func50, Tryd.ntmps50
  go_wp2
  · have h : p.size ≤ s.size := by assumption
    go_ret
    refine ⟨?_, rfl⟩
    show Ending.returned (Value.bool ((s.extract (s.size - p.size) s.size).toList == p.toList)) = _
    simp [h]
  · have h : ¬ p.size ≤ s.size := by assumption
    go_ret
    refine ⟨?_, rfl⟩
    show Ending.returned (Value.bool false) = _
    simp [h]
theorem hasSuffix_val (b : Bool) (s p : ByteArray) (w : World) (hs : s.size ≤ 1048600) (hb : Lib.hasSuffix (bl s) (bl p) = b) :
    Calls Tryd.prog 43 #[.string s, .string p] w (Same (.bool b) w) := by
  subst hb
  go_enter Tryd.func43, Tryd.ntmps43
  go_wp2_with (go_at_call 50; refine (liteSuffix_any _ _ _ (by omega)).mono ?_; rintro e w' ⟨rfl, rfl⟩)
  go_ret
  exact ⟨rfl, rfl⟩
theorem prefix_iff (s : ByteArray) (h : 0 < s.size) : Lib.hasPrefix (bl s) [45] = true ↔ s[0] = 45 := by
  have hl := bl_size s
  obtain ⟨x, r, e⟩ : ∃ x r, bl s = x :: r := by
    cases h0 : bl s with
    | nil => rw [h0] at hl; simp at hl; omega
    | cons x r => exact ⟨x, r, rfl⟩
  have hx : s[0] = x := by
    have := bl_at s h
    simp only [e] at this
    exact this.symm
  rw [hx, e]
  unfold Lib.hasPrefix
  rw [List.isPrefixOf_iff_prefix]
  simp only [List.cons_prefix_cons, List.nil_prefix, and_true]
  exact eq_comm
theorem suffix_iff (s : ByteArray) (h : 0 < s.size) : Lib.hasSuffix (bl s) [45] = true ↔ s[s.size - 1] = 45 := by
  have hl := bl_size s
  have hne : bl s ≠ [] := fun e => by rw [e] at hl; simp at hl; omega
  have e := (List.dropLast_concat_getLast hne).symm
  have hx : s[s.size - 1] = (bl s).getLast hne := by
    rw [List.getLast_eq_getElem]
    simp only [hl]
    exact (bl_at s (by omega)).symm
  rw [hx]
  unfold Lib.hasSuffix
  rw [List.isSuffixOf_iff_suffix]
  constructor
  · rintro ⟨t, ht⟩
    have h1 : (bl s).getLast? = some 45 := by rw [← ht]; simp
    rw [List.getLast?_eq_some_getLast hne] at h1
    injection h1
  · intro hx
    exact ⟨(bl s).dropLast, by rw [← hx]; exact e.symm⟩

/-! ### Parts, by the program. -/
set_option maxHeartbeats 1000000 in
theorem partByte_is (b : Bool) (z : Nat) (w : World) (hb : b = true ↔ ((97 ≤ z ∧ z ≤ 122) ∨ (48 ≤ z ∧ z ≤ 57)) ∨ z = 45) (hz : z < 256) :
    Calls Tryd.prog 44 #[.int .u8 z] w (Same (.bool b) w) := by
  have HB := hid hb
  clear hb
  by_cases c1 : 97 ≤ z ∧ z ≤ 122
  · have F := hid (HB.out.2 (.inl (.inl c1)))
    obtain ⟨c1, c2⟩ := c1
    go_enter Tryd.func44, Tryd.ntmps44
    go_wp2
    go_ret
    rw [F.out]
    exact ⟨rfl, rfl⟩
  · by_cases c2 : 48 ≤ z ∧ z ≤ 57
    · have F := hid (HB.out.2 (.inl (.inr c2)))
      obtain ⟨c2, c3⟩ := c2
      have p1 : decide ((97 : Int) ≤ (z : Int)) = false := by simp; omega
      have p2 : decide (97 ≤ z) = false := by simp; omega
      clear c1
      go_enter Tryd.func44, Tryd.ntmps44
      go_wp2
      go_ret
      rw [F.out]
      exact ⟨rfl, rfl⟩
    · by_cases c3 : z = 45
      · have F := hid (HB.out.2 (.inr c3))
        subst c3
        clear c1 c2
        go_enter Tryd.func44, Tryd.ntmps44
        go_wp2
        go_ret
        rw [F.out]
        exact ⟨rfl, rfl⟩
      · have F : Hid (b = false) := by
          show b = false
          rw [← Bool.not_eq_true]
          exact fun e => by
            rcases HB.out.1 e with (h | h) | h
            · exact c1 h
            · exact c2 h
            · exact c3 h
        have p5 : ((z : Int) == 45) = false := by rw [beq_eq_false_iff_ne]; omega
        by_cases d1 : 97 ≤ z
        · have p1 : decide ((z : Int) ≤ 122) = false := by simp; omega
          have p2 : decide (z ≤ 122) = false := by simp; omega
          have p3 : decide ((z : Int) ≤ 57) = false := by simp; omega
          have p4 : decide (z ≤ 57) = false := by simp; omega
          have p6 : 48 ≤ z := by omega
          clear c1 c2 c3
          go_enter Tryd.func44, Tryd.ntmps44
          go_wp2
          go_ret
          rw [F.out]
          exact ⟨rfl, rfl⟩
        · have p1 : decide ((97 : Int) ≤ (z : Int)) = false := by simp; omega
          have p2 : decide (97 ≤ z) = false := by simp; omega
          by_cases d2 : 48 ≤ z
          · have p3 : decide ((z : Int) ≤ 57) = false := by simp; omega
            have p4 : decide (z ≤ 57) = false := by simp; omega
            clear c1 c2 c3
            go_enter Tryd.func44, Tryd.ntmps44
            go_wp2
            go_ret
            rw [F.out]
            exact ⟨rfl, rfl⟩
          · have p3 : decide ((48 : Int) ≤ (z : Int)) = false := by simp; omega
            have p4 : decide (48 ≤ z) = false := by simp; omega
            clear c1 c2 c3
            go_enter Tryd.func44, Tryd.ntmps44
            go_wp2
            go_ret
            rw [F.out]
            exact ⟨rfl, rfl⟩

set_option maxRecDepth 100000 in
set_option maxHeartbeats 4000000 in
theorem partValid_is (b : Bool) (s : ByteArray) (w : World) (hb : b = true ↔ Part (bl s)) (hs : s.size ≤ 1048600) :
    Calls Tryd.prog 38 #[.string s] w (Ret (.bool b) w) := by
  have HB := hid hb
  clear hb
  by_cases h0 : s.size = 0
  · have F := hid (part_none HB.out h0)
    have e0 : s.toList.isEmpty = true := (emp_ s).trans (decide_eq_true h0)
    clear h0
    go_enter Tryd.func38, Tryd.ntmps38
    go_wp2
    go_ret
    rw [F.out]
    exact .mk_ (Below.refl _ _)
  · have e0 : s.toList.isEmpty = false := (emp_ s).trans (decide_eq_false h0)
    have hpos : 0 < s.size := by omega
    have hpre := prefix_iff s hpos
    have hsuf := suffix_iff s hpos
    obtain ⟨p, hp⟩ : ∃ p, Lib.hasPrefix (bl s) [45] = p := ⟨_, rfl⟩
    obtain ⟨q, hq⟩ : ∃ q, Lib.hasSuffix (bl s) [45] = q := ⟨_, rfl⟩
    have CP : Hid (∀ x, Calls Tryd.prog 37 #[.string s, .string ⟨#[45]⟩] x (Same (.bool p) x)) := fun x => hasPrefix_val p s _ x hp
    have CQ : Hid (∀ x, Calls Tryd.prog 43 #[.string s, .string ⟨#[45]⟩] x (Same (.bool q) x)) := fun x => hasSuffix_val q s _ x hs hq
    rw [hp] at hpre
    rw [hq] at hsuf
    clear hp hq h0
    cases p with
    | true =>
      have F := hid (part_no HB.out hpos (by unfold OkAt; rw [hpre.1 rfl]; rintro (h | h); exact absurd h (by decide); exact h.2.1 rfl))
      clear hpre hsuf CQ
      go_enter Tryd.func38, Tryd.ntmps38
      go_wp2_with (go_at_call 37; refine (CP.out _).mono ?_; rintro e w' ⟨rfl, rfl⟩)
      go_ret
      rw [F.out]
      exact .mk_ (Below.refl _ _)
    | false =>
      cases q with
      | true =>
        have F := hid (part_no HB.out (k := s.size - 1) (by omega) (by unfold OkAt; rw [hsuf.1 rfl]; rintro (h | h); exact absurd h (by decide); exact h.2.2 (by omega)))
        clear hpre hsuf
        go_enter Tryd.func38, Tryd.ntmps38
        go_wp2_with (first | (go_at_call 37; refine (CP.out _).mono ?_; rintro e w' ⟨rfl, rfl⟩) | (go_at_call 43; refine (CQ.out _).mono ?_; rintro e w' ⟨rfl, rfl⟩))
        go_ret
        rw [F.out]
        exact .mk_ (Below.refl _ _)
      | false =>
        have hok : ∀ k (hk : k < s.size), OkAt s k hk ↔ Lett s[k] ∨ s[k].toNat = 45 := by
          intro k hk
          refine ⟨fun h => h.imp id (fun h => h.1), fun h => h.imp id (fun h => ⟨h, fun e => ?_, fun e => ?_⟩)⟩
          · subst e
            exact absurd (hpre.2 (UInt8.toNat_inj.1 (by rw [h]; rfl))) (by simp)
          · have : k = s.size - 1 := by omega
            subst this
            exact absurd (hsuf.2 (UInt8.toNat_inj.1 (by rw [h]; rfl))) (by simp)
        have HK := hid hok
        clear hok hpre hsuf
        obtain ⟨w2, cap, hrun, hb2, hcell⟩ := bytes_of w s
        have hz2 := hb2.size
        obtain ⟨bc, bf⟩ := bcell hb2
        go_enter Tryd.func38, Tryd.ntmps38
        go_wp2_with (first | (go_at_call 37; refine (CP.out _).mono ?_; rintro e w' ⟨rfl, rfl⟩) | (go_at_call 43; refine (CQ.out _).mono ?_; rintro e w' ⟨rfl, rfl⟩))
        clear CP CQ hrun
        go_loop [18] (fun i => ∃ k : Nat, k ≤ s.size ∧ i = .int .i64 k ∧ Hid (OkTo s k)) (fun i => s.size - (intOf i).toNat)
        case atStart => exact ⟨0, Nat.zero_le _, rfl, .zero s⟩
        case round =>
          obtain ⟨k, hk, rfl, H⟩ := hrel
          by_cases hlt : k < s.size
          · have hc := hcell.out k hlt
            obtain ⟨z, hz⟩ : ∃ z, s[k].toNat = z := ⟨_, rfl⟩
            have hz9 : z < 256 := by rw [← hz]; exact s[k].toNat_lt
            have hoi : OkAt s k hlt ↔ ((97 ≤ z ∧ z ≤ 122) ∨ (48 ≤ z ∧ z ≤ 57)) ∨ z = 45 := by rw [HK.out k hlt]; unfold Lett; rw [hz]
            obtain ⟨x, hx⟩ := bool_of (((97 ≤ z ∧ z ≤ 122) ∨ (48 ≤ z ∧ z ≤ 57)) ∨ z = 45)
            have CB : Hid (∀ y, Calls Tryd.prog 44 #[.int .u8 z] y (Same (.bool x) y)) := fun y => partByte_is x z y hx hz9
            rw [hz] at hc
            cases x with
            | true =>
              have HN := hid (H.out.next hlt (hoi.2 (hx.1 rfl)))
              clear H hoi hx hz
              go_wp2_with (go_at_call 44; refine (CB.out _).mono ?_; rintro e w' ⟨rfl, rfl⟩)
              go_round
              case rel => exact ⟨k + 1, by omega, by go_num, HN⟩
              case measure => simp [intOf]; omega
            | false =>
              have F := hid (part_no HB.out hlt (fun h => by have := hx.2 (hoi.1 h); cases this))
              clear H hoi hx hz
              go_wp2_with (go_at_call 44; refine (CB.out _).mono ?_; rintro e w' ⟨rfl, rfl⟩)
              go_ret
              rw [F.out]
              exact .mk_ hb2
          · have hk' : k = s.size := by omega
            subst hk'
            have F := hid (OkTo.yes HB.out H.out (by omega))
            clear H
            go_wp2
            go_ret
            rw [F.out]
            exact .mk_ hb2

/-! ### Names. -/
theorem name_iff (s : ByteArray) : Name (bl s) ↔ s.size ≤ 12 ∧ ∀ t ∈ cutB s, Part (bl t) := by
  unfold Name
  rw [bl_size, ← bl_cutB]
  refine and_congr_right fun _ => ⟨fun h t ht => h _ (List.mem_map_of_mem ht), fun h p hp => ?_⟩
  obtain ⟨t, ht, rfl⟩ := List.mem_map.1 hp
  exact h t ht
/-- The parts ahead of k are valid. -/
def AllTo (ts : List ByteArray) (k : Nat) : Prop := ∀ j (h : j < ts.length), j < k → Part (bl ts[j])
theorem AllTo.zero (ts : List ByteArray) : AllTo ts 0 := fun _ _ h => absurd h (Nat.not_lt_zero _)
theorem AllTo.next {ts : List ByteArray} {k : Nat} (h : AllTo ts k) (hk : k < ts.length) (hp : Part (bl ts[k])) : AllTo ts (k + 1) := fun j hj hl => by
  by_cases e : j = k
  · subst e; exact hp
  · exact h j hj (by omega)
theorem AllTo.all {ts : List ByteArray} (h : AllTo ts ts.length) : ∀ t ∈ ts, Part (bl t) := fun t ht => by
  obtain ⟨j, hj, rfl⟩ := List.getElem_of_mem ht
  exact h j hj hj
theorem name_no {s : ByteArray} {k : Nat} (hk : k < (cutB s).length) (hp : ¬ Part (bl (cutB s)[k])) : ¬ Name (bl s) := fun h => hp (((name_iff s).1 h).2 _ (List.getElem_mem hk))
theorem part_size {s t : ByteArray} (h : t ∈ cutB s) : t.size ≤ s.size := by
  have h1 := cut_le (L := bl s) (p := bl t) (by rw [← bl_cutB]; exact List.mem_map_of_mem h)
  rwa [bl_size, bl_size] at h1
theorem OwnT.cell {w : World} {B g c : Nat} {ts : List ByteArray} (h : OwnT w B (.slice (some ⟨g, 0, none⟩) ts.length c) ts) {k : Nat} (hk : k < ts.length) : w.cell? ⟨g, k, none⟩ = some (.string ts[k]) := by
  have := World.ownsRow.cellAt h k (by omega)
  rw [this]
  simp [txts, hk]

/-- What splitName answers for a name. -/
def SplitYes (ts : List ByteArray) (w : World) (e : Ending) (w' : World) : Prop := ∃ g, e = .returned (.tuple #[.slice (some ⟨g, 0, none⟩) ts.length ts.length, .bool true]) ∧ w.heap.size ≤ g ∧ OwnT w' w.heap.size (.slice (some ⟨g, 0, none⟩) ts.length ts.length) ts ∧ Below w.heap.size w w'
def SplitNo (w : World) (e : Ending) (w' : World) : Prop := e = .returned (.tuple #[.slice none 0 0, .bool false]) ∧ Below w.heap.size w w'
set_option maxRecDepth 100000 in
set_option maxHeartbeats 4000000 in
theorem splitName_yes (s : ByteArray) (w : World) (hn : Name (bl s)) : Calls Tryd.prog 28 #[.string s] w (SplitYes (cutB s) w) := by
  obtain ⟨hs, hall⟩ := (name_iff s).1 hn
  have HZ : Hid (∀ t ∈ cutB s, t.size ≤ s.size) := fun t ht => part_size ht
  clear hn
  obtain ⟨ts, hts⟩ : ∃ ts, cutB s = ts := ⟨_, rfl⟩
  have CS : Hid (∀ x, Calls Tryd.prog 33 #[.string s, .string ⟨#[47]⟩] x (fun e w' => ∃ g n, e = .returned (.slice (some ⟨g, 0, none⟩) n n) ∧ n = ts.length ∧ OwnT w' x.heap.size (.slice (some ⟨g, 0, none⟩) n n) ts ∧ Below x.heap.size x w')) := fun x => by subst hts; exact split_any s x (by omega)
  have hlt : ts.length ≤ 1048601 := by have := cutB_few s; rw [hts] at this; omega
  rw [hts] at hall HZ ⊢
  have HA := hid hall
  clear hall hts
  go_enter Tryd.func28, Tryd.ntmps28
  go_wp2_with fail
  refine (CS.out _).mono ?_
  rintro e w1 ⟨g, n, rfl, rfl, ho1, hb1⟩
  have hg1 : w.heap.size ≤ g := (World.ownsRow.lt ho1 g rfl).1
  clear CS
  go_wp2_with fail
  go_loopw [14] (fun i wr => ∃ k : Nat, k ≤ ts.length ∧ i = .int .i64 k ∧ Hid (AllTo ts k) ∧ OwnT wr w.heap.size (.slice (some ⟨g, 0, none⟩) ts.length ts.length) ts ∧ Below w.heap.size w wr) (fun i _ => ts.length - (intOf i).toNat)
  case atStart => exact ⟨0, Nat.zero_le _, rfl, .zero ts, ho1, hb1⟩
  case round =>
    obtain ⟨k, hk, rfl, H, ho, hb⟩ := hrel
    clear ho1 hb1
    by_cases hlk : k < ts.length
    · have hp := HA.out _ (List.getElem_mem hlk)
      have hc := ho.cell hlk
      have hsz : ts[k].size ≤ 1048600 := by have := HZ.out _ (List.getElem_mem hlk); omega
      have CP : Hid (∀ x, Calls Tryd.prog 38 #[.string ts[k]] x (Ret (.bool true) x)) := fun x => partValid_is true _ x (by simp [hp]) hsz
      have HN := hid (H.out.next hlk hp)
      have hz := hb.size
      clear H hp
      go_wp2_with fail
      refine (CP.out _).mono ?_
      rintro e w2 ⟨rfl, b2⟩
      have ho2 := ho.below b2 (Nat.le_refl _)
      have hb2 := hb.trans (b2.mono hz)
      clear CP ho b2 hc
      go_wp2_with fail
      go_roundw
      case rel => exact ⟨k + 1, by omega, by go_num, HN, ho2, hb2⟩
      case measure => simp [intOf]; omega
    · have hk' : k = ts.length := by omega
      subst hk'
      go_wp2
      go_ret2
      exact ⟨g, rfl, hg1, ho, hb⟩
set_option maxRecDepth 100000 in
set_option maxHeartbeats 4000000 in
theorem splitName_no (s : ByteArray) (w : World) (hn : ¬ Name (bl s)) (hs : s.size ≤ maxLen) : Calls Tryd.prog 28 #[.string s] w (SplitNo w) := by
  unfold maxLen at hs
  by_cases h12 : s.size ≤ 12
  · have hsome : ¬ ∀ t ∈ cutB s, Part (bl t) := fun h => hn ((name_iff s).2 ⟨h12, h⟩)
    have HZ : Hid (∀ t ∈ cutB s, t.size ≤ s.size) := fun t ht => part_size ht
    clear hn hs
    obtain ⟨ts, hts⟩ : ∃ ts, cutB s = ts := ⟨_, rfl⟩
    have CS : Hid (∀ x, Calls Tryd.prog 33 #[.string s, .string ⟨#[47]⟩] x (fun e w' => ∃ g n, e = .returned (.slice (some ⟨g, 0, none⟩) n n) ∧ n = ts.length ∧ OwnT w' x.heap.size (.slice (some ⟨g, 0, none⟩) n n) ts ∧ Below x.heap.size x w')) := fun x => by subst hts; exact split_any s x (by omega)
    have hlt : ts.length ≤ 1048601 := by have := cutB_few s; rw [hts] at this; omega
    rw [hts] at hsome HZ
    have HA := hid hsome
    clear hsome hts
    go_enter Tryd.func28, Tryd.ntmps28
    go_wp2_with fail
    refine (CS.out _).mono ?_
    rintro e w1 ⟨g, n, rfl, rfl, ho1, hb1⟩
    have hg1 : w.heap.size ≤ g := (World.ownsRow.lt ho1 g rfl).1
    clear CS
    go_wp2_with fail
    go_loopw [14] (fun i wr => ∃ k : Nat, k ≤ ts.length ∧ i = .int .i64 k ∧ Hid (AllTo ts k) ∧ OwnT wr w.heap.size (.slice (some ⟨g, 0, none⟩) ts.length ts.length) ts ∧ Below w.heap.size w wr) (fun i _ => ts.length - (intOf i).toNat)
    case atStart => exact ⟨0, Nat.zero_le _, rfl, .zero ts, ho1, hb1⟩
    case round =>
      obtain ⟨k, hk, rfl, H, ho, hb⟩ := hrel
      clear ho1 hb1
      by_cases hlk : k < ts.length
      · by_cases hp : Part (bl ts[k])
        ·
          have hc := ho.cell hlk
          have hsz : ts[k].size ≤ 1048600 := by have := HZ.out _ (List.getElem_mem hlk); omega
          have CP : Hid (∀ x, Calls Tryd.prog 38 #[.string ts[k]] x (Ret (.bool true) x)) := fun x => partValid_is true _ x (by simp [hp]) hsz
          have HN := hid (H.out.next hlk hp)
          have hz := hb.size
          clear H hp
          go_wp2_with fail
          refine (CP.out _).mono ?_
          rintro e w2 ⟨rfl, b2⟩
          have ho2 := ho.below b2 (Nat.le_refl _)
          have hb2 := hb.trans (b2.mono hz)
          clear CP ho b2 hc
          go_wp2_with fail
          go_roundw
          case rel => exact ⟨k + 1, by omega, by go_num, HN, ho2, hb2⟩
          case measure => simp [intOf]; omega
        ·
          have hc := ho.cell hlk
          have hsz : ts[k].size ≤ 1048600 := by have := HZ.out _ (List.getElem_mem hlk); omega
          have CP : Hid (∀ x, Calls Tryd.prog 38 #[.string ts[k]] x (Ret (.bool false) x)) := fun x => partValid_is false _ x (by simp [hp]) hsz
          have hz := hb.size
          clear H hp
          go_wp2_with fail
          refine (CP.out _).mono ?_
          rintro e w2 ⟨rfl, b2⟩
          have hb2 := hb.trans (b2.mono hz)
          clear CP b2 hc
          go_wp2_with fail
          go_ret2
          exact ⟨rfl, hb2⟩
      · have hk' : k = ts.length := by omega
        subst hk'
        exact absurd H.out.all HA.out
  · have e0 : decide ((12 : Int) < (s.size : Int)) = true := decide_eq_true (by omega)
    have e1 : decide (12 < s.size) = true := decide_eq_true (by omega)
    clear hn
    go_enter Tryd.func28, Tryd.ntmps28
    go_wp2
    go_ret2
    exact ⟨rfl, Below.refl _ _⟩
set_option maxRecDepth 100000 in
theorem implNameValid_is (b : Bool) (s : ByteArray) (w : World) (hb : b = true ↔ Name (bl s)) (hs : s.size ≤ maxLen) : Calls Tryd.prog 18 #[.string s] w (Ret (.bool b) w) := by
  cases b with
  | true =>
    have hn := hb.1 rfl
    have CS : Hid (∀ x, Calls Tryd.prog 28 #[.string s] x (SplitYes (cutB s) x)) := fun x => splitName_yes s x hn
    clear hb hn
    generalize cutB s = ts at *
    go_enter Tryd.func18, Tryd.ntmps18
    go_wp2_with fail
    refine (CS.out _).mono ?_
    rintro e w1 ⟨g, rfl, -, -, b1⟩
    go_wp2_with fail
    go_ret
    exact .mk_ b1
  | false =>
    have hn : ¬ Name (bl s) := fun h => by have := hb.2 h; cases this
    go_enter Tryd.func18, Tryd.ntmps18
    go_wp2_with fail
    refine (splitName_no s _ hn hs).mono ?_
    rintro e w1 ⟨rfl, b1⟩
    go_wp2_with fail
    go_ret
    exact .mk_ b1

/-- The parts of a name; none of what is no name. -/
def partsOf (s : ByteArray) (b : Bool) : List ByteArray := if b then cutB s else []
theorem partsOf_true (s : ByteArray) : partsOf s true = cutB s := rfl
theorem partsOf_false (s : ByteArray) : partsOf s false = [] := rfl
theorem OwnT.set_same {w : World} {B g c : Nat} {ts : List ByteArray} (h : OwnT w B (.slice (some ⟨g, 0, none⟩) ts.length c) ts) {k : Nat} (hk : k < ts.length) : OwnT (w.setCell ⟨g, k, none⟩ (.string ts[k])) B (.slice (some ⟨g, 0, none⟩) ts.length c) ts := by
  have := (World.ownsRow.stored h k (.string ts[k])).1
  have e : (txts ts).set k (.string ts[k]) = txts ts := by unfold txts; rw [← List.map_set, List.set_getElem_self]
  rw [e] at this
  exact this
set_option maxRecDepth 100000 in
set_option maxHeartbeats 4000000 in
theorem implNameParts_is (b : Bool) (s : ByteArray) (w : World) (hb : b = true ↔ Name (bl s)) (hs : s.size ≤ maxLen) : Calls Tryd.prog 13 #[.string s] w (TextsOf (partsOf s b) w) := by
  cases b with
  | false =>
    have hn : ¬ Name (bl s) := fun h => by have := hb.2 h; cases this
    go_enter Tryd.func13, Tryd.ntmps13
    go_wp2_with fail
    refine (splitName_no s _ hn hs).mono ?_
    rintro e w1 ⟨rfl, b1⟩
    have hz := b1.size
    go_wp2_with fail
    go_ret
    exact .mk_ (OwnT.nil_new hz) (b1.alloc hz _)
  | true =>
    have hn := hb.1 rfl
    rw [partsOf_true]
    have h12 := ((name_iff s).1 hn).1
    have HZ : Hid (∀ t ∈ cutB s, t.size ≤ s.size) := fun t ht => part_size ht
    have CS : Hid (∀ x, Calls Tryd.prog 28 #[.string s] x (SplitYes (cutB s) x)) := fun x => splitName_yes s x hn
    have hfew := cutB_few s
    clear hb hn
    generalize cutB s = ts at *
    go_enter Tryd.func13, Tryd.ntmps13
    go_wp2_with fail
    refine (CS.out _).mono ?_
    rintro e w1 ⟨g, rfl, hg1, ho1, hb1⟩
    clear CS
    go_wp2_with fail
    go_loopw [17] (fun i wr => ∃ k : Nat, k ≤ ts.length ∧ i = .int .i64 k ∧ OwnT wr w.heap.size (.slice (some ⟨g, 0, none⟩) ts.length ts.length) ts ∧ Below w.heap.size w wr) (fun i _ => ts.length - (intOf i).toNat)
    case atStart => exact ⟨0, Nat.zero_le _, rfl, ho1, hb1⟩
    case round =>
      obtain ⟨k, hk, rfl, ho, hb⟩ := hrel
      clear ho1 hb1
      by_cases hlk : k < ts.length
      · have hc := ho.cell hlk
        have hsz : ts[k].size ≤ 1048576 := by have := HZ.out _ (List.getElem_mem hlk); omega
        have hz := hb.size
        go_wp2_with fail
        refine (clone_any ts[k] _ hsz).mono ?_
        rintro e w2 ⟨rfl, b2⟩
        have ho2 := ho.below b2 (Nat.le_refl _)
        have hb2 := hb.trans (b2.mono hz)
        have c2 := ho2.cell hlk
        have f2 := World.ownsRow.frozenAt ho2 k
        have ho3 := ho2.set_same hlk
        have hb3 := hb2.setCell (p := ⟨g, k, none⟩) hg1 (.string ts[k])
        clear hc ho b2 hb ho2 hb2
        go_wp2_with fail
        go_roundw
        case rel => exact ⟨k + 1, by omega, by go_num, ho3, hb3⟩
        case measure => simp [intOf]; omega
      · have hk' : k = ts.length := by omega
        subst hk'
        go_wp2
        go_ret
        exact .mk_ ho hb

/-! ### Names, by the model. -/
set_option maxRecDepth 100000 in
set_option maxHeartbeats 4000000 in
theorem specNameValid_is (b : Bool) (s : ByteArray) (w : World) (hb : b = true ↔ Name (bl s)) (hs : s.size ≤ 1048600) : Calls Tryd.prog 17 #[.string s] w (Ret (.bool b) w) := by
  have HB := hid (hb.trans (name_iff s))
  have HZ : Hid (∀ t ∈ cutB s, t.size ≤ s.size) := fun t ht => part_size ht
  have CS : Hid (∀ x, Calls Tryd.prog 30 #[.string s] x (TextsOf (cutB s) x)) := fun x => l5Cut_any s x hs
  have hfew := cutB_few s
  clear hb
  generalize cutB s = ts at *
  go_enter Tryd.func17, Tryd.ntmps17
  go_wp2_with fail
  refine (CS.out _).mono ?_
  rintro e w1 ⟨A, c, rfl, ho1, hb1⟩
  have r1 : Row w1 w1.heap.size A (txts ts) := by obtain ⟨A', c', e, h⟩ := ho1.form; injection e with e1; subst e1; exact h
  clear CS ho1
  go_wp2_with fail
  go_loopw [4] (fun i wr => ∃ k : Nat, k ≤ ts.length ∧ i = .int .i64 k ∧ Hid (AllTo ts k) ∧ Row wr wr.heap.size A (txts ts) ∧ Below w.heap.size w wr) (fun i _ => ts.length - (intOf i).toNat)
  case atStart => exact ⟨0, Nat.zero_le _, rfl, .zero ts, r1, hb1⟩
  case round =>
    obtain ⟨k, hk, rfl, H, hr, hb⟩ := hrel
    clear r1 hb1
    have hz := hb.size
    by_cases hlk : k < ts.length
    · obtain ⟨ad, rfl, had, hc⟩ := hr.str_ hlk
      have hsz : ts[k].size ≤ 1048600 := by have := HZ.out _ (List.getElem_mem hlk); omega
      have q0 : (0 : Int) ≤ (k : Int) := by omega
      have q1 : (k : Int) < (ts.length : Int) := by omega
      by_cases hp : Part (bl ts[k])
      · have CP : Hid (∀ x, Calls Tryd.prog 31 #[.string ts[k]] x (Same (.bool true) x)) := fun x => l5Part_is true _ x (by simp [hp]) hsz
        have HN := hid (H.out.next hlk hp)
        clear H hp
        go_wp2_with (go_at_call 31; refine (CP.out _).mono ?_; rintro e w' ⟨rfl, rfl⟩)
        go_roundw
        case rel => exact ⟨k + 1, by omega, by go_num, HN, hr, hb⟩
        case measure => simp [intOf]; omega
      · have CP : Hid (∀ x, Calls Tryd.prog 31 #[.string ts[k]] x (Same (.bool false) x)) := fun x => l5Part_is false _ x (by simp [hp]) hsz
        have F : Hid (b = false) := by
          show b = false
          rw [← Bool.not_eq_true]
          exact fun e => hp ((HB.out.1 e).2 _ (List.getElem_mem hlk))
        clear H hp
        go_wp2_with (go_at_call 31; refine (CP.out _).mono ?_; rintro e w' ⟨rfl, rfl⟩)
        go_ret
        rw [F.out]
        exact .mk_ hb
    · have hk' : k = ts.length := by omega
      subst hk'
      have HA := H.out.all
      by_cases h12 : s.size ≤ 12
      · have F := hid (HB.out.2 ⟨h12, HA⟩)
        have e0 : decide ((s.size : Int) ≤ 12) = true := decide_eq_true (by omega)
        clear HA H HB
        go_wp2
        go_ret
        rw [F.out]
        exact .mk_ hb
      · have F : Hid (b = false) := by
          show b = false
          rw [← Bool.not_eq_true]
          exact fun e => h12 (HB.out.1 e).1
        have e0 : decide ((s.size : Int) ≤ 12) = false := decide_eq_false (by omega)
        have e1 : decide (s.size ≤ 12) = false := decide_eq_false (by omega)
        clear HA H HB
        go_wp2
        go_ret
        rw [F.out]
        exact .mk_ hb
theorem TextsOf.base {ts : List ByteArray} {w w1 w' : World} {e : Ending} (h : TextsOf ts w1 e w') (hb : Below w.heap.size w w1) : TextsOf ts w e w' := by
  obtain ⟨A, c, rfl, ho, hb'⟩ := h
  refine ⟨A, c, rfl, ?_, hb.trans (hb'.mono hb.size)⟩
  obtain ⟨h1, h2⟩ := ho
  have := hb.size
  refine ⟨h1, ?_⟩
  rcases h2 with h2 | ⟨g', cap, cur, hv, hB, hr⟩
  · exact .inl h2
  · exact .inr ⟨g', cap, cur, hv, by omega, hr⟩
theorem specNameParts_is (b : Bool) (s : ByteArray) (w : World) (hb0 : b = true ↔ Name (bl s)) (hs : s.size ≤ 1048600) : Calls Tryd.prog 16 #[.string s] w (TextsOf (partsOf s b) w) := by
  have hb := hid hb0
  clear hb0
  cases b with
  | false =>
    have hn := hid (fun h => absurd (hb.out.2 h) (by simp) : ¬ Name (bl s))
    clear hb
    go_enter Tryd.func16, Tryd.ntmps16
    go_wp2_with fail
    refine (specNameValid_is false s _ ⟨(fun e => by cases e), fun h => absurd h hn.out⟩ hs).mono ?_
    rintro e w1 ⟨rfl, b1⟩
    have hz := b1.size
    go_wp2_with fail
    go_ret
    exact .mk_ (OwnT.nil_new hz) (b1.alloc hz _)
  | true =>
    have hn := hid (hb.out.1 rfl)
    clear hb
    go_enter Tryd.func16, Tryd.ntmps16
    go_wp2_with fail
    refine (specNameValid_is true s _ ⟨fun _ => hn.out, fun _ => rfl⟩ hs).mono ?_
    rintro e w1 ⟨rfl, b1⟩
    go_wp2_with fail
    refine (l5Cut_any s _ hs).mono ?_
    intro e w2 h2
    obtain ⟨A, c, rfl, ho, hb2⟩ := h2.base b1
    go_wp2_with fail
    go_ret
    exact .mk_ ho hb2
end Go.Proofs.YtdjfglebnblfkabDoor
