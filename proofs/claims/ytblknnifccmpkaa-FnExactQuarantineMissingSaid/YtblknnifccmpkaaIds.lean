/-
  Walks: an object's validity and id, in the specification and in the program.
-/
import Derived.Test.YtblknnifccmpkaaReads
import Derived.Lib.ConvBytes
namespace Go.Proofs.Ytblknnifccmpkaa
open Go.RowKit Wo Pu

theorem valid_a {kd : Int} {zs : List Int} {m : Nat} (h : linksB zs = false) : vldB kd zs m = false := by
  rw [← Bool.not_eq_true]
  intro e
  obtain ⟨h1, h2, _⟩ := vldB_parts e
  rw [links_c h1 h2] at h
  cases h
theorem links_parts {zs : List Int} (h : linksB zs = true) : ascB (-1) zs = true ∧ zs.length ≤ 4 := by
  simpa [linksB] using h

set_option maxHeartbeats 4000000 in
theorem implValid_any (B : Nat) (A : Option Addr) (c : Nat) (kd : Int) (zs : List Int) (s : ByteArray) (w : World) (hr : Row w B A (ints zs)) (hB : B ≤ w.heap.size) (hm : zs.length ≤ maxLen) (hs : s.size ≤ maxLen) :
    Calls Try.prog 105 #[ob kd A zs.length c s] w (Ret (.bool (vldB kd zs s.size)) w) := by
  have hm' := hm
  unfold ob
  unfold maxLen at hs hm'
  cases hA : linksB zs
  · have F := hid (valid_a (kd := kd) (m := s.size) hA)
    go_enter Try.func105, Try.ntmps105
    go_wp2_with (go_at_call 80; refine (idsValid_any B A c zs _ (hr.alloc hB _) hm).mono ?_; rintro e w' ⟨rfl, rfl⟩)
    go_ret
    rw [F.out]
    exact .mk_ ((Below.refl _ _).alloc (Nat.le_refl _) _)
  obtain ⟨g1, g2⟩ := links_parts hA
  by_cases h8 : s.size ≤ 8
  · have F := hid (vld_d (kd := kd) (m := s.size) g1 g2 h8)
    have key : Hid (kd = 1 ∨ kd = 2 ∨ kd = 3 ∨ (¬ kd = 1 ∧ ¬ kd = 2 ∧ ¬ kd = 3)) := by show kd = 1 ∨ kd = 2 ∨ kd = 3 ∨ (¬ kd = 1 ∧ ¬ kd = 2 ∧ ¬ kd = 3); omega
    clear g1
    rcases key.out with k1 | k1 | k1 | ⟨k1, k2, k3⟩
    · subst k1
      clear key
      go_enter Try.func105, Try.ntmps105
      go_wp2_with (go_at_call 80; refine (idsValid_any B A c zs _ (hr.alloc hB _) hm).mono ?_; rintro e w' ⟨rfl, rfl⟩)
      go_ret
      rw [F.out, kind_1]
      exact .bool_ (by rw [Bool.eq_iff_iff]; simp) ((Below.refl _ _).alloc (Nat.le_refl _) _)
    · subst k1
      clear key
      go_enter Try.func105, Try.ntmps105
      go_wp2_with (go_at_call 80; refine (idsValid_any B A c zs _ (hr.alloc hB _) hm).mono ?_; rintro e w' ⟨rfl, rfl⟩)
      go_ret
      rw [F.out, kind_2]
      exact .bool_ (by rw [Bool.eq_iff_iff]; simp) ((Below.refl _ _).alloc (Nat.le_refl _) _)
    · subst k1
      clear key
      go_enter Try.func105, Try.ntmps105
      go_wp2_with (go_at_call 80; refine (idsValid_any B A c zs _ (hr.alloc hB _) hm).mono ?_; rintro e w' ⟨rfl, rfl⟩)
      go_ret
      rw [F.out, kind_3]
      exact .bool_ (by simp) ((Below.refl _ _).alloc (Nat.le_refl _) _)
    · clear key
      go_enter Try.func105, Try.ntmps105
      go_wp2_with (go_at_call 80; refine (idsValid_any B A c zs _ (hr.alloc hB _) hm).mono ?_; rintro e w' ⟨rfl, rfl⟩)
      go_ret
      rw [F.out, kind_0 _ _ k1 k2 k3]
      exact .mk_ ((Below.refl _ _).alloc (Nat.le_refl _) _)
  · have F := hid (vld_c (kd := kd) (zs := zs) h8)
    clear g1
    go_enter Try.func105, Try.ntmps105
    go_wp2_with (go_at_call 80; refine (idsValid_any B A c zs _ (hr.alloc hB _) hm).mono ?_; rintro e w' ⟨rfl, rfl⟩)
    go_ret
    rw [F.out]
    exact .mk_ ((Below.refl _ _).alloc (Nat.le_refl _) _)

theorem Ret.int_ {a b : Int} {w w' : World} (h : b = a) (hb : Below w.heap.size w w') : Ret (.int .i64 a) w (.returned (.int .i64 b)) w' := by subst h; exact ⟨rfl, hb⟩

/-- The number of an id, as it grows. -/
theorem mixL_end (n : Int) (zs : List Int) : mixL n (zs.drop zs.length) = n := by rw [List.drop_length]; rfl
theorem mixT_end (n : Int) (bs : List UInt8) : mixT n (bs.drop bs.length) = n := by rw [List.drop_length]; rfl
/-- What the loop over the links has made, k links on. -/
def AtL (kd : Int) (zs : List Int) (k : Nat) (n : Int) : Prop := mixL (100 * kd + zs.length) zs = mixL n (zs.drop k)
def AtT (kd : Int) (zs : List Int) (s : ByteArray) (k : Nat) (n : Int) : Prop := idOf kd zs s.data.toList = mixT n (s.data.toList.drop k)
theorem AtL.zero (kd : Int) (zs : List Int) : AtL kd zs 0 (100 * kd + zs.length) := rfl
theorem AtL.step {kd : Int} {zs : List Int} {k : Nat} {n : Int} (h : AtL kd zs k n) (hk : k < zs.length) {m : Int} (hm : m = (n * 613 + zs[k] + 1) % 991) : AtL kd zs (k + 1) m := by
  subst hm
  exact h.trans (mixL_drop hk)
theorem AtL.last {kd : Int} {zs : List Int} {n : Int} (h : AtL kd zs zs.length n) (s : ByteArray) : AtT kd zs s 0 n := by
  unfold AtL at h
  rw [mixL_end] at h
  unfold AtT idOf
  rw [h]
  rfl
theorem AtT.step {kd : Int} {zs : List Int} {s : ByteArray} {k : Nat} {n : Int} (h : AtT kd zs s k n) (hk : k < s.size) {m : Int} (hm : m = (n * 257 + (s[k].toNat : Int) + 1) % 991) : AtT kd zs s (k + 1) m := by
  subst hm
  exact h.trans (mixT_drop (k := k) (bs := s.data.toList) (by simpa using hk))
theorem AtT.last {kd : Int} {zs : List Int} {s : ByteArray} {n : Int} (h : AtT kd zs s s.size n) : idOf kd zs s.data.toList = n := by
  unfold AtT at h
  rw [h]
  exact mixT_end n s.data.toList

theorem byte_lt (b : UInt8) : (b.toNat : Int) < 256 := by have := b.toNat_lt; omega

set_option maxHeartbeats 4000000 in
theorem l1Of_any (B : Nat) (A : Option Addr) (c : Nat) (kd : Int) (zs : List Int) (s : ByteArray) (w : World) (hr : Row w B A (ints zs)) (hB : B ≤ w.heap.size) (hv : vldB kd zs s.size = true) :
    Calls Try.prog 71 #[ob kd A zs.length c s] w (Ret (.int .i64 (idOf kd zs s.data.toList)) w) := by
  obtain ⟨p1, p2, p3, p4, p5⟩ := vldB_parts hv
  have HV := hid hv
  have R := ascB_range p1
  clear p1 hv
  unfold ob
  go_enter Try.func71, Try.ntmps71
  go_wp2
  go_loop [3, 4] (fun m i => ∃ (k : Nat) (n : Int), k ≤ zs.length ∧ i = .int .i64 k ∧ m = .int .i64 n ∧ 0 ≤ n ∧ n < 991 ∧ AtL kd zs k n) (fun _ i => zs.length - (intOf i).toNat)
  case atStart => exact ⟨0, _, Nat.zero_le _, rfl, rfl, by omega, by omega, .zero kd zs⟩
  case round =>
    obtain ⟨k, n, hk, rfl, rfl, hn0, hn1, H⟩ := hrel
    by_cases hlt : k < zs.length
    · obtain ⟨ad, rfl, hb, hc⟩ := (hr.alloc hB (.cells #[.int .i64 kd, .slice A zs.length c, .string s] 38)).int_ hlt
      have hz0 : 0 ≤ zs[k] := by have := (R zs[k] (List.getElem_mem hlt)).1; omega
      have hz1 := (R zs[k] (List.getElem_mem hlt)).2
      go_wp2
      go_round
      case rel => exact ⟨k + 1, _, by omega, by go_num, rfl, by omega, by omega, H.step hlt (by omega)⟩
      case measure => simp [intOf]; omega
    · have hk' : k = zs.length := by omega
      subst hk'
      have HT := H.last s
      clear H R
      go_wp2
      go_loop [3, 5] (fun m i => ∃ (k : Nat) (n : Int), k ≤ s.size ∧ i = .int .i64 k ∧ m = .int .i64 n ∧ 0 ≤ n ∧ n < 991 ∧ AtT kd zs s k n) (fun _ i => s.size - (intOf i).toNat)
      case atStart => exact ⟨0, _, Nat.zero_le _, rfl, rfl, by omega, by omega, HT⟩
      case round =>
        clear HT hn0 hn1
        obtain ⟨k, n, hk, rfl, rfl, hn0, hn1, H⟩ := hrel
        by_cases hls : k < s.size
        · have hb0 := byte_lt s[k]
          go_wp2
          go_round
          case rel => exact ⟨k + 1, _, by omega, by go_num, rfl, by omega, by omega, H.step hls (by omega)⟩
          case measure => simp [intOf]; omega
        · have hk' : k = s.size := by omega
          subst hk'
          have HF := hid H.last
          clear H
          go_wp2
          go_ret
          rw [HF.out]
          exact .int_ (Int.emod_eq_of_lt hn0 hn1) ((Below.refl _ _).alloc (Nat.le_refl _) _)

theorem oid_yes {kd : Int} {zs : List Int} {s : ByteArray} (h : vldB kd zs s.size = true) : oid kd zs s.data.toList = idOf kd zs s.data.toList := if_pos h
theorem oid_no {kd : Int} {zs : List Int} {s : ByteArray} (h : vldB kd zs s.size = false) : oid kd zs s.data.toList = -1 := if_neg (by show ¬ vldB kd zs s.size = true; rw [h]; decide)

theorem bytes_of (w : World) (s : ByteArray) : ∃ (w' : World) (cap : Nat), (convert 9 22 (.string s)).run Try.prog w = .ok (.slice (some ⟨w.heap.size, 0, none⟩) s.size cap) w' ∧
    Below w.heap.size w w' ∧ Hid (∀ j (hj : j < s.size), w'.cell? ⟨w.heap.size, j, none⟩ = some (.int .u8 (s[j].toNat : Int))) := by
  refine ⟨_, _, Lib.run_convert_string_bytes w 9 22 5 s Try.underlying9 Try.underlying22 Try.underlying5, ⟨?_, ?_, ?_, ?_, ?_⟩, fun j hj => ?_⟩
  · simp [Lib.bytesWorld, World.freeze]
    rfl
  · simp [Lib.bytesWorld, World.freeze]
  · simp [Lib.bytesWorld, World.freeze]
    rfl
  · rw [Lib.bytesWorld_size]; omega
  · intro k hk
    exact Lib.bytesWorld_at_old w _ s k hk
  · rw [Lib.bytesWorld_cell w 5 s j hj]
    have e : s.data.toList.getD j 0 = s[j] := by
      rw [List.getD_eq_getElem?_getD, List.getElem?_eq_getElem (by simpa using hj)]
      rfl
    rw [e]

theorem mixId_any (n x : Int) (w : World) (h0 : 0 ≤ n) (h1 : n < 991) (h2 : 0 ≤ x) (h3 : x < 991) : Calls Try.prog 106 #[.int .i64 n, .int .i64 x] w (Same (.int .i64 ((n * 613 + x + 1) % 991)) w) := by
  go_enter Try.func106, Try.ntmps106
  go_wp2
  go_ret
  exact ⟨rfl, rfl⟩

set_option maxHeartbeats 4000000 in
theorem implId_yes (B : Nat) (A : Option Addr) (c : Nat) (kd : Int) (zs : List Int) (s : ByteArray) (w : World) (hr : Row w B A (ints zs)) (hB : B ≤ w.heap.size) (hv : vldB kd zs s.size = true) :
    Calls Try.prog 75 #[ob kd A zs.length c s] w (Ret (.int .i64 (oid kd zs s.data.toList)) w) := by
  obtain ⟨p1, p2, p3, p4, p5⟩ := vldB_parts hv
  have F := hid (oid_yes hv)
  have HV := hid hv
  have R := ascB_range p1
  have hm : zs.length ≤ maxLen := by unfold maxLen; omega
  have hs : s.size ≤ maxLen := by unfold maxLen; omega
  clear p1 hv
  unfold ob
  go_enter Try.func75, Try.ntmps75
  go_wp2_with fail
  refine (implValid_any B A c kd zs s _ (hr.alloc hB _) (by simp; omega) hm hs).mono ?_
  rintro e w1 ⟨rfl, hb⟩
  rw [HV.out]
  have hb1 := ((Below.refl w.heap.size w).alloc (Nat.le_refl _) (.cells #[.int .i64 kd, .slice A zs.length c, .string s] 38)).trans (hb.mono (by simp))
  obtain ⟨bc, bf⟩ := bcell hb
  have hz := hb.size
  simp only [World.size_alloc] at hz
  go_wp2_with fail
  have hr1 := hr.below hb1 hB
  clear hb
  go_loop [3, 21] (fun m i => ∃ (k : Nat) (n : Int), k ≤ zs.length ∧ i = .int .i64 k ∧ m = .int .i64 n ∧ 0 ≤ n ∧ n < 991 ∧ AtL kd zs k n) (fun _ i => zs.length - (intOf i).toNat)
  case atStart => exact ⟨0, _, Nat.zero_le _, rfl, rfl, by omega, by omega, .zero kd zs⟩
  case round =>
    obtain ⟨k, n, hk, rfl, rfl, hn0, hn1, H⟩ := hrel
    by_cases hlt : k < zs.length
    · obtain ⟨ad, rfl, hb, hc⟩ := hr1.int_ hlt
      have hz0 : 0 ≤ zs[k] := by have := (R zs[k] (List.getElem_mem hlt)).1; omega
      have hz1 := (R zs[k] (List.getElem_mem hlt)).2
      go_wp2_with (go_at_call 106; refine (mixId_any n zs[k] _ hn0 hn1 hz0 hz1).mono ?_; rintro e w' ⟨rfl, rfl⟩)
      go_round
      case rel => exact ⟨k + 1, _, by omega, by go_num, rfl, by omega, by omega, H.step hlt (by omega)⟩
      case measure => simp [intOf]; omega
    · have hk' : k = zs.length := by omega
      subst hk'
      have HT := H.last s
      clear H R
      obtain ⟨w2, cap, hrun, hb2, hcell⟩ := bytes_of w1 s
      have hz2 := hb2.size
      have hb3 := hb1.trans (hb2.mono (by omega))
      obtain ⟨bc, bf⟩ := bcell hb2
      go_wp2
      go_loop [3, 33] (fun m i => ∃ (k : Nat) (n : Int), k ≤ s.size ∧ i = .int .i64 k ∧ m = .int .i64 n ∧ 0 ≤ n ∧ n < 991 ∧ AtT kd zs s k n) (fun _ i => s.size - (intOf i).toNat)
      case atStart => exact ⟨0, _, Nat.zero_le _, rfl, rfl, by omega, by omega, HT⟩
      case round =>
        clear HT hn0 hn1
        obtain ⟨k, n, hk, rfl, rfl, hn0, hn1, H⟩ := hrel
        by_cases hls : k < s.size
        · have hb0 := byte_lt s[k]
          have hc := hcell.out k hls
          go_wp2
          go_round
          case rel => exact ⟨k + 1, _, by omega, by go_num, rfl, by omega, by omega, H.step hls (by omega)⟩
          case measure => simp [intOf]; omega
        · have hk' : k = s.size := by omega
          subst hk'
          have HF := H.last
          clear H
          go_wp2
          go_ret
          rw [F.out]
          exact .int_ HF.symm hb3

theorem implId_no (B : Nat) (A : Option Addr) (c : Nat) (kd : Int) (zs : List Int) (s : ByteArray) (w : World) (hr : Row w B A (ints zs)) (hB : B ≤ w.heap.size) (hm : zs.length ≤ maxLen) (hs : s.size ≤ maxLen) (hv : vldB kd zs s.size = false) :
    Calls Try.prog 75 #[ob kd A zs.length c s] w (Ret (.int .i64 (oid kd zs s.data.toList)) w) := by
  have F := hid (oid_no hv)
  unfold ob
  go_enter Try.func75, Try.ntmps75
  go_wp2_with (go_at_call 105; refine (implValid_any B A c kd zs s _ (hr.alloc hB _) (by simp; omega) hm hs).mono ?_; rintro e w1 ⟨rfl, hb⟩)
  go_ret
  rw [F.out]
  exact .mk_ (((Below.refl _ _).alloc (Nat.le_refl _) _).trans (hb.mono (by simp)))

theorem implId_any (B : Nat) (A : Option Addr) (c : Nat) (kd : Int) (zs : List Int) (s : ByteArray) (w : World) (hr : Row w B A (ints zs)) (hB : B ≤ w.heap.size) (hm : zs.length ≤ maxLen) (hs : s.size ≤ maxLen) :
    Calls Try.prog 75 #[ob kd A zs.length c s] w (Ret (.int .i64 (oid kd zs s.data.toList)) w) := by
  cases hv : vldB kd zs s.size
  · exact implId_no B A c kd zs s w hr hB hm hs hv
  · exact implId_yes B A c kd zs s w hr hB hv

theorem implObjectId_any (B : Nat) (A : Option Addr) (c : Nat) (kd : Int) (zs : List Int) (s : ByteArray) (w : World) (hr : Row w B A (ints zs)) (hB : B ≤ w.heap.size) (hm : zs.length ≤ maxLen) (hs : s.size ≤ maxLen) :
    Calls Try.prog 27 #[ob kd A zs.length c s] w (Ret (.int .i64 (oid kd zs s.data.toList)) w) := by
  unfold ob
  go_enter Try.func27, Try.ntmps27
  go_wp2_with (go_at_call 75; refine (implId_any B A c kd zs s _ (hr.alloc hB _) (by simp; omega) hm hs).mono ?_; rintro e w1 ⟨rfl, hb⟩)
  go_ret
  exact .mk_ (((Below.refl _ _).alloc (Nat.le_refl _) _).trans (hb.mono (by simp)))

end Go.Proofs.Ytblknnifccmpkaa
