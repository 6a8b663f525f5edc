/-
  Walks of the laws on the parts of names: joined, counted, matched by a star.
-/
import Derived.Test.YtdjfglebnblfkabDoorLawNam1
namespace Go.Proofs.YtdjfglebnblfkabDoor
open Go.RowKit Wo Pu Nm

/-- A list of texts: what the laws read of it. -/
def RowsOf (ts : List ByteArray) (w : World) (e : Ending) (w' : World) : Prop := ∃ A c, e = .returned (.slice A ts.length c) ∧ Row w' w'.heap.size A (txts ts) ∧ ts.length ≤ c ∧ Below w.heap.size w w'
theorem TextsOf.rows {ts : List ByteArray} {w w' : World} {e : Ending} (h : TextsOf ts w e w') : RowsOf ts w e w' := by
  obtain ⟨A, c, rfl, ho, hb⟩ := h
  obtain ⟨A', c', e, hr, hc⟩ := ho.form2
  injection e with e1 e2 e3
  subst e1
  subst e3
  exact ⟨_, _, rfl, hr, hc, hb⟩
theorem partsOf_few (s : ByteArray) (v : Bool) (hs : s.size ≤ 23) : (partsOf s v).length ≤ 24 := by
  cases v
  · simp [partsOf]
  · have := cutB_few s
    rw [partsOf_true]
    omega
/-- The first k of ts, joined by slashes, are x. -/
def Joined (ts : List ByteArray) (k : Nat) (x : ByteArray) : Prop := bl x = join ((ts.map bl).take k)
theorem Joined.one {ts : List ByteArray} (h : 0 < ts.length) : Joined ts 1 ts[0] := by
  unfold Joined
  obtain ⟨t, r, e⟩ : ∃ t r, ts = t :: r := by
    cases ts with
    | nil => simp at h
    | cons t r => exact ⟨t, r, rfl⟩
  subst e
  rfl
theorem Joined.next {ts : List ByteArray} {k : Nat} {x : ByteArray} (h : Joined ts k x) (h0 : 1 ≤ k) (hk : k < ts.length) : Joined ts (k + 1) (x ++ (⟨#[47]⟩ : ByteArray) ++ ts[k]) := by
  unfold Joined at h ⊢
  have hl : k < (ts.map bl).length := by rw [List.length_map]; exact hk
  rw [List.take_succ_eq_append_getElem hl, join_append (by intro e; have := congrArg List.length e; rw [List.length_take, List.length_nil, List.length_map] at this; omega) (by simp), ← h, join_one, bl_append, app_slash, List.append_assoc, List.getElem_map]
  rfl
theorem Joined.all {s x : ByteArray} (h : Joined (cutB s) (cutB s).length x) : x = s := by
  unfold Joined at h
  rw [List.take_of_length_le (by simp), bl_cutB, join_cut] at h
  exact bl_inj h
/-- A loop that counts slashes: so many among the first k bytes. -/
def Cnt (s : ByteArray) (k n : Nat) : Prop := ((bl s).take k).count 47 + 1 = n
theorem Cnt.zero (s : ByteArray) : Cnt s 0 1 := by unfold Cnt; simp
theorem Cnt.step {s : ByteArray} {k n : Nat} (h : Cnt s k n) (hk : k < s.size) : Cnt s (k + 1) (if s[k] = 47 then n + 1 else n) := by
  unfold Cnt at h ⊢
  have hl := bl_size s
  rw [List.take_succ_eq_append_getElem (by omega), List.count_append, bl_at s hk]
  by_cases e : s[k] = 47
  · rw [if_pos e, e]; simp; omega
  · rw [if_neg e, List.count_cons_of_ne e, List.count_nil]; omega
theorem Cnt.yes {s : ByteArray} {k n : Nat} (h : Cnt s k n) (hk : k < s.size) (e : s[k] = 47) : Cnt s (k + 1) (n + 1) := by have := h.step hk; rwa [if_pos e] at this
theorem Cnt.no {s : ByteArray} {k n : Nat} (h : Cnt s k n) (hk : k < s.size) (e : ¬ s[k] = 47) : Cnt s (k + 1) n := by have := h.step hk; rwa [if_neg e] at this
theorem Cnt.all {s : ByteArray} {n : Nat} (h : Cnt s s.size n) : (cutB s).length = n := by
  unfold Cnt at h
  rw [List.take_of_length_le (by rw [bl_size]; omega)] at h
  rw [cutB_length]
  exact h
theorem byte_yes {b : UInt8} (h : b = 47) : ((b.toNat : Int) == 47) = true := by rw [h]; rfl
theorem byte_no {b : UInt8} (h : ¬ b = 47) : ((b.toNat : Int) == 47) = false := by
  rw [beq_eq_false_iff_ne]
  intro e
  exact h (UInt8.toNat_inj.1 (by rw [show (47 : UInt8).toNat = 47 from rfl]; omega))
theorem FnPartsCount_no (A : Option Addr) (c : Nat) (bs : List Int) (w : World) (h : Code_ w A c bs) (hl : ¬ bs.length ≤ 1048576) :
    Calls Tryd.prog 5 #[.slice A bs.length c] w (Ret (.bool true) w) := by
  have hc := h.2.1
  have hm := h.2.2.1
  unfold maxLen at hm
  go_enter Tryd.func5, Tryd.ntmps5
  go_wp2
  go_ret
  exact .mk_ (Below.refl _ _)
set_option maxRecDepth 100000 in
set_option maxHeartbeats 4000000 in
theorem FnPartsCount_yes (A : Option Addr) (c : Nat) (bs : List Int) (w : World) (h : Code_ w A c bs) (hl : bs.length ≤ 1048576) :
    Calls Tryd.prog 5 #[.slice A bs.length c] w (Ret (.bool true) w) := by
  go_enter Tryd.func5, Tryd.ntmps5
  go_wp2_with fail
  refine (DrawNameParts_any A c bs _ h).mono ?_
  rintro e w1 ⟨s, rfl, hs, b1⟩
  obtain ⟨v, hv⟩ := bool_of (Name (bl s))
  obtain ⟨ts, hts⟩ : ∃ ts, partsOf s v = ts := ⟨_, rfl⟩
  have hfew : ts.length ≤ 24 := by rw [← hts]; exact partsOf_few s v hs
  have IM : Hid (∀ x, Calls Tryd.prog 13 #[.string s] x (RowsOf ts x)) := fun x => by subst hts; exact (implNameParts_is v s x hv (by unfold maxLen; omega)).mono fun _ _ h => h.rows
  have SM : Hid (∀ x, Calls Tryd.prog 16 #[.string s] x (RowsOf ts x)) := fun x => by subst hts; exact (specNameParts_is v s x hv (by omega)).mono fun _ _ h => h.rows
  have HV := hid hv
  have HT := hid hts
  clear hv hts
  go_wp2_with fail
  refine (IM.out _).mono ?_
  rintro e w2 ⟨A2, c2, rfl, r2, k2, hb2⟩
  have b2 := b1.trans (hb2.mono b1.size)
  clear IM hb2 b1
  go_wp2_with fail
  refine (SM.out _).mono ?_
  rintro e w3 ⟨A3, c3, rfl, r3, k3, hb3⟩
  have b3 := b2.trans (hb3.mono b2.size)
  have q2 := (r2.below hb3 (Nat.le_refl _)).more hb3.size
  clear SM hb3 b2 r2
  go_wp2_with fail
  refine (sameTexts_ret A2 A3 c2 c3 ts w3 q2 r3 (by unfold maxLen; omega)).mono ?_
  rintro e w4 ⟨rfl, hb4⟩
  have b4 := b3.trans (hb4.mono b3.size)
  have r4 := (q2.below hb4 (Nat.le_refl _)).more hb4.size
  have q4 := (r3.below hb4 (Nat.le_refl _)).more hb4.size
  clear hb4 b3 q2 r3
  by_cases h0 : ts.length = 0
  · have e0 : ((ts.length : Int) == 0) = true := by rw [beq_iff_eq]; omega
    clear h0
    go_wp2_with fail
    refine (sameTexts_ret A2 A3 c2 c3 ts _ r4 q4 (by unfold maxLen; omega)).mono ?_
    rintro e w5 ⟨rfl, hb5⟩
    go_wp2_with fail
    go_ret
    exact .mk_ (b4.trans (hb5.mono b4.size))
  · have e0 : ((ts.length : Int) == 0) = false := by rw [beq_eq_false_iff_ne]; omega
    have hv : v = true := by
      cases v with
      | true => rfl
      | false =>
        have := HT.out
        rw [partsOf_false] at this
        exact absurd (by rw [← this]; rfl) h0
    subst hv
    have hcut : Hid (cutB s = ts) := HT.out
    clear HV HT r4 q4 h0
    go_wp2_with fail
    go_loop [6, 7] (fun n i => ∃ k m : Nat, k ≤ s.size ∧ i = .int .i64 k ∧ n = .int .i64 m ∧ m ≤ k + 1 ∧ Hid (Cnt s k m)) (fun _ i => s.size - (intOf i).toNat)
    case atStart => exact ⟨0, 1, Nat.zero_le _, rfl, rfl, Nat.le_refl _, .zero s⟩
    case round =>
      obtain ⟨k, m, hk, rfl, rfl, hm, H⟩ := hrel
      by_cases hlk : k < s.size
      · by_cases h47 : s[k] = 47
        · have HN := hid (H.out.yes hlk h47)
          have e1 := byte_yes h47
          clear H h47
          go_wp2
          go_round
          case rel => exact ⟨k + 1, m + 1, by omega, by go_num, by go_num, by omega, HN⟩
          case measure => simp [intOf]; omega
        · have HN := hid (H.out.no hlk h47)
          have e1 := byte_no h47
          clear H h47
          go_wp2
          go_round
          case rel => exact ⟨k + 1, m, by omega, by go_num, rfl, by omega, HN⟩
          case measure => simp [intOf]; omega
      · have hk' : k = s.size := by omega
        subst hk'
        have hq : ts.length = m := by rw [← hcut.out]; exact H.out.all
        have e1 : ((ts.length : Int) == (m : Int)) = true := by rw [beq_iff_eq]; omega
        clear H hq hcut
        go_wp2
        go_ret
        exact .mk_ b4
theorem FnPartsCount_any (A : Option Addr) (c : Nat) (bs : List Int) (w : World) (f1 : Row w w.heap.size A (bs.map (Value.int .u8))) (f2 : bs.length ≤ c) (f3 : c ≤ maxLen) (f4 : ∀ n ∈ bs, 0 ≤ n ∧ n < 256) :
    Calls Tryd.prog 5 #[.slice A bs.length c] w (Ret (.bool true) w) := by
  by_cases hl : bs.length ≤ 1048576
  · exact FnPartsCount_yes A c bs w ⟨f1, f2, f3, f4⟩ hl
  · exact FnPartsCount_no A c bs w ⟨f1, f2, f3, f4⟩ hl
end Go.Proofs.YtdjfglebnblfkabDoor
