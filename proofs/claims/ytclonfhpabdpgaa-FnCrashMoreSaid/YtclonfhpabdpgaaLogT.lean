/-
  Walk: the records that are read of bytes, by the model.
-/
import Derived.Test.YtclonfhpabdpgaaLogS
namespace Go.Proofs.Ytclonfhpabdpgaa
open Go.RowKit Wo Pu Lg

theorem texts_eq (L : List UInt8) : texts L = (scan L).map mk := by
  have hf := scan_fits L
  unfold texts recs
  rw [List.map_map]
  exact List.map_congr_left fun r hr => mkRec_val (hf r hr).2

theorem first_no_at {s : ByteArray} {a : Nat} (h : first ((bl s).drop a) = none) (ha : a < s.size) {n : Nat} (hn : s[a].toNat = n) (h1 : 1 ≤ n) (h2 : n ≤ 12) (h3 : a + n + 2 ≤ s.size) : s[a + 1 + n]'(by omega) ≠ chB (bl (s.extract (a + 1) (a + 1 + n))) := by
  have e : (bl s).drop a = s[a] :: (bl s).drop (a + 1) := List.drop_eq_getElem_cons (l := bl s) (i := a) (by rw [bl_size]; exact ha)
  rw [e] at h
  unfold first at h
  simp only [hn] at h
  intro hc
  rw [if_pos] at h
  · cases h
  refine ⟨h1, h2, by rw [List.length_drop, bl_size]; omega, ?_⟩
  rw [List.getElem?_drop, bl_get s (by omega), hc, bl_extract, show a + 1 + n - (a + 1) = n from by omega]
theorem first_yes_at {s : ByteArray} {a : Nat} {r : List UInt8} (h : first ((bl s).drop a) = some r) : ∃ (ha : a < s.size) (h3 : a + r.length + 2 ≤ s.size), Fits r ∧ s[a].toNat = r.length ∧ s.extract (a + 1) (a + 1 + r.length) = mk r ∧ s[a + 1 + r.length] = chB r := by
  have hl := first_len h
  rw [List.length_drop, bl_size] at hl
  obtain ⟨hf, t, e⟩ := first_some h
  have g0 : ((bl s).drop a)[0]? = some (s[a]'(by omega)) := by rw [List.getElem?_drop]; exact bl_get s (k := a) (by omega)
  have g1 : ((bl s).drop a)[1 + r.length]? = some (s[a + 1 + r.length]'(by omega)) := by rw [List.getElem?_drop, ← bl_get s (k := a + 1 + r.length) (by omega), Nat.add_assoc]
  have g2 : ((bl s).drop (a + 1)).take r.length = r := by
    rw [← List.drop_drop, e]
    simp [fr]
  rw [e] at g0 g1
  refine ⟨by omega, by omega, hf, ?_, ?_, ?_⟩
  · have : lenB r = s[a]'(by omega) := by simpa [fr] using g0
    rw [← this, lenB_toNat hf.2]
  · apply bl_inj
    rw [bl_extract, bl_mk, show a + 1 + r.length - (a + 1) = r.length from by omega, g2]
  · have : some (chB r) = some (s[a + 1 + r.length]'(by omega)) := by
      rw [← g1, List.getElem?_append_left (by rw [fr_length]; omega), Nat.add_comm]
      simp [fr]
    injection this with this
    exact this.symm

theorem l4Check_ret (x : Int) (s : ByteArray) (w : World) (hs : s.size ≤ 12) (hx : chk (bl s) = x) :
    Calls Try.prog 44 #[.string s] w (Ret (.int .u8 x) w) := (l4Check_val x s w hs hx).mono fun _ _ ⟨he, hw⟩ => by subst hw; exact ⟨he, Below.refl _ _⟩

/-- What the loop has read: the records pre, a bytes. -/
def At (s : ByteArray) (pre : List (List UInt8)) (a : Nat) : Prop := scan (bl s) = pre ++ scan ((bl s).drop a) ∧ (flat pre).length = a
theorem At.zero (s : ByteArray) : At s [] 0 := ⟨rfl, rfl⟩
theorem At.more {s : ByteArray} {pre : List (List UInt8)} {a : Nat} {r : List UInt8} (h : At s pre a) (hf : first ((bl s).drop a) = some r) : At s (pre ++ [r]) (a + r.length + 2) := by
  obtain ⟨h1, h2⟩ := h
  refine ⟨?_, ?_⟩
  · rw [h1, scan_some hf, List.drop_drop, List.append_assoc, List.singleton_append, Nat.add_assoc]
  · rw [flat_snoc, List.length_append, fr_length, h2]; omega
theorem At.last {s : ByteArray} {pre : List (List UInt8)} {a : Nat} (h : At s pre a) (hf : first ((bl s).drop a) = none) : texts (bl s) = pre.map mk ∧ used (bl s) = a := by
  obtain ⟨h1, h2⟩ := h
  rw [scan_none hf, List.append_nil] at h1
  refine ⟨by rw [texts_eq, h1], by unfold used; rw [h1, h2]⟩
theorem Scanned.mk_ {s : ByteArray} {w w' : World} {v : Value} {a : Nat} {ts : List ByteArray} (h1 : texts (bl s) = ts ∧ used (bl s) = a) (ho : OwnT w' w.heap.size v ts) (hb : Below w.heap.size w w') : Scanned s w (.returned (.tuple #[v, .int .i64 (a : Int)])) w' := by
  obtain ⟨rfl, rfl⟩ := h1
  exact ⟨v, rfl, ho, hb⟩

theorem OwnT.nil_new {w : World} {B : Nat} (hB : B ≤ w.heap.size) : OwnT (w.alloc (.cells #[] 9)) B (.slice (some ⟨w.heap.size, 0, none⟩) 0 0) [] := nil_own hB _ _
theorem OwnT.below {w w' : World} {B C : Nat} {v : Value} {ts : List ByteArray} (h : OwnT w B v ts) (hb : Below C w w') (hC : w.heap.size ≤ C) : OwnT w' B v ts := own_below h hb hC
theorem one_str (s : ByteArray) : ∀ u ∈ [Value.string s], u.oneCell' = true := by
  intro u hu
  rw [List.mem_singleton.1 hu]
  rfl
theorem OwnT.app {w' : World} {B : Nat} {v' : Value} {ts : List ByteArray} {x : ByteArray} (h : w'.ownsRow B 9 1 v' (ts.length + 1) (txts ts ++ [.string x])) : OwnT w' B v' (ts ++ [x]) := by
  have e2 : txts (ts ++ [x]) = txts ts ++ [.string x] := by simp [txts]
  unfold OwnT
  rw [List.length_append, List.length_singleton, e2]
  exact h

set_option maxRecDepth 100000 in
set_option maxHeartbeats 4000000 in
theorem specLogScan_any (s : ByteArray) (w : World) (hs : s.size ≤ 1048576) :
    Calls Try.prog 21 #[.string s] w (Scanned s w) := by
  obtain ⟨i0, hi, hz0, hz1, hz2⟩ := info_of info_str
  go_enter Try.func21, Try.ntmps21
  go_wp2_with fail
  go_loopw [4, 5] (fun v i wr => ∃ (pre : List (List UInt8)) (a : Nat), a ≤ s.size ∧ i = .int .i64 a ∧ Hid (At s pre a) ∧ OwnT wr w.heap.size v (pre.map mk) ∧ pre.length ≤ a ∧ Below w.heap.size w wr) (fun _ i _ => s.size - (intOf i).toNat)
  case atStart => exact ⟨[], 0, Nat.zero_le _, rfl, .zero s, OwnT.nil_new (Nat.le_refl _), Nat.le_refl _, (Below.refl _ _).alloc (Nat.le_refl _) _⟩
  case round =>
    obtain ⟨pre, a, ha, rfl, HA, ho, hpa, hb⟩ := hrel
    have hz := hb.size
    cases hf : first ((bl s).drop a) with
    | none =>
      have HL := hid (HA.out.last hf)
      have HNO := fun hlt n hn b c d => hid (first_no_at (s := s) (a := a) (n := n) hf hlt hn b c d)
      clear hf HA
      by_cases hlt : a < s.size
      · obtain ⟨n, hn⟩ : ∃ n, s[a].toNat = n := ⟨_, rfl⟩
        have hn9 : n < 256 := by rw [← hn]; exact s[a].toNat_lt
        have HN := HNO hlt n hn
        clear HNO
        by_cases hfit : 1 ≤ n ∧ n ≤ 12
        · obtain ⟨f1, f2⟩ := hfit
          by_cases h3 : a + n + 2 ≤ s.size
          · have ex : (s.extract (a + 1) (a + 1 + n)).size ≤ 12 := by rw [ByteArray.size_extract]; omega
            obtain ⟨x, hx⟩ : ∃ x, chk (bl (s.extract (a + 1) (a + 1 + n))) = x := ⟨_, rfl⟩
            have q9 : (((s[a + 1 + n]).toNat : Int) != x) = true := by
              rw [bne_iff_ne, ← hx, ← chB_toNat (by rw [bl_size]; exact ex)]
              intro e
              exact (HN f1 f2 h3).out (UInt8.toNat_inj.1 (by omega))
            have HX := hid hx
            clear HN hx
            have q1 : IntKind.i64.wrap ((a : Int) + 1) = (a : Int) + 1 := IntWalk.i64_in _ (by omega)
            have q2 : IntKind.i64.wrap ((a : Int) + 1 + (n : Nat)) = (a : Int) + 1 + (n : Nat) := IntWalk.i64_in _ (by omega)
            have q3 : (0 : Int) ≤ (a : Int) + 1 + (n : Nat) := by omega
            have q4 : (a : Int) + 1 + (n : Nat) < (s.size : Int) := by omega
            have q5 : ((a : Int) + 1 + (n : Nat)).toNat = a + 1 + n := by omega
            have q6 : decide ((s.size : Int) < (a : Int) + (n : Nat) + 2) = false := by simp; omega
            have q7 : (a : Int) + 1 + (n : Nat) ≤ (s.size : Int) := by omega
            have q8 : (0 : Int) ≤ (a : Int) + 1 := by omega
            go_wp2_with (go_at_call 38; refine (l6In_yes _ _ _ _ (by omega) (by omega)).mono ?_; rintro e w' ⟨rfl, rfl⟩)
            refine wp_region_later wr.heap.size (by kernel_rfl) (by kernel_rfl) ?_
            repeat (go_big_quiet_step ((go_at_call 44; exact Later.call (Nat.le_refl _) _ (l4Check_ret _ _ _ ex HX.out))))
            refine wpQuiet_nil ?_
            intro _ hw'
            obtain ⟨xx, hxx⟩ := hw'
            have hbx := xx.b
            subst hxx
            clear q1 q2
            go_wp2
            go_ret2
            exact .mk_ HL.out (ho.below hbx (Nat.le_refl _)) (hb.trans (hbx.mono hz))
          · clear HN
            have e1 : decide ((s.size : Int) < (a : Int) + (n : Int) + 2) = true := by simp; omega
            go_wp2_with (go_at_call 38; refine (l6In_yes _ _ _ _ (by omega) (by omega)).mono ?_; rintro e w' ⟨rfl, rfl⟩)
            go_ret2
            exact .mk_ HL.out ho hb
        · clear HN
          go_wp2_with (go_at_call 38; refine (l6In_no _ _ _ _ (by omega)).mono ?_; rintro e w' ⟨rfl, rfl⟩)
          go_ret2
          exact .mk_ HL.out ho hb
      · have e1 : decide ((a : Int) < (s.size : Int)) = false := by simp; omega
        have e2 : decide (a < s.size) = false := by simp; omega
        clear HNO
        go_wp2
        go_ret2
        exact .mk_ HL.out ho hb
    | some r =>
      obtain ⟨hlt, h3, ⟨f1, f2⟩, e0, e1, e2⟩ := first_yes_at hf
      have HM := hid (HA.out.more hf)
      have ex : (s.extract (a + 1) (a + 1 + r.length)).size ≤ 12 := by rw [ByteArray.size_extract]; omega
      have ec : chk (bl (s.extract (a + 1) (a + 1 + r.length))) = ((s[a + 1 + r.length]).toNat : Int) := by rw [e1, bl_mk, e2, chB_toNat f2]
      have E1 := hid e1
      have EC := hid ec
      clear hf HA e1 e2 ec
      have q1 : IntKind.i64.wrap ((a : Int) + 1) = (a : Int) + 1 := IntWalk.i64_in _ (by omega)
      have q2 : IntKind.i64.wrap ((a : Int) + 1 + (r.length : Nat)) = (a : Int) + 1 + (r.length : Nat) := IntWalk.i64_in _ (by omega)
      have q3 : (0 : Int) ≤ (a : Int) + 1 + (r.length : Nat) := by omega
      have q4 : (a : Int) + 1 + (r.length : Nat) < (s.size : Int) := by omega
      have q5 : ((a : Int) + 1 + (r.length : Nat)).toNat = a + 1 + r.length := by omega
      have q6 : decide ((s.size : Int) < (a : Int) + (r.length : Nat) + 2) = false := by simp; omega
      have q7 : (a : Int) + 1 + (r.length : Nat) ≤ (s.size : Int) := by omega
      have q8 : (0 : Int) ≤ (a : Int) + 1 := by omega
      go_wp2_with (go_at_call 38; refine (l6In_yes _ _ _ _ (by omega) (by omega)).mono ?_; rintro e w' ⟨rfl, rfl⟩)
      refine wp_region_later wr.heap.size (by kernel_rfl) (by kernel_rfl) ?_
      repeat (go_big_quiet_step ((go_at_call 44; exact Later.call (Nat.le_refl _) _ (l4Check_ret _ _ _ ex EC.out))))
      refine wpQuiet_nil ?_
      intro _ hw'
      obtain ⟨xx, hxx⟩ := hw'
      have hbx := xx.b
      subst hxx
      clear q1 q2
      have ho2 := ho.below hbx (Nat.le_refl _)
      have hb2 := hb.trans (hbx.mono hz)
      have hzb := hb2.size
      clear ho hb hbx
      have a2 := World.ownsRow.alloc ho2 (.cells #[.string (s.extract (a + 1) (a + 1 + r.length))] 9)
      have b3 := hb2.alloc hzb (.cells #[.string (s.extract (a + 1) (a + 1 + r.length))] 9)
      have lt1 := World.ownsRow.lt a2
      have hl1 : (pre.map mk).length ≤ 1048576 := by rw [List.length_map]; omega
      have HT : Hid (pre.map mk ++ [mk r] = (pre ++ [r]).map mk) := by show _ = _; rw [List.map_append]; rfl
      go_wp2_with (at_builtin; go_must (refine wpList_append_own _ rfl _ _ 25 rfl w.heap.size 9 i0 (.string ⟨#[]⟩) 1 16 Try.underlying25 hi hz0 hz1 hz2 rfl (by decide) _ (pre.map mk).length (txts (pre.map mk)) rfl a2 ⟨xx.w.heap.size, 0, none⟩ 1 1 [.string (s.extract (a + 1) (a + 1 + r.length))] rfl rfl (cell_one_new _ _ _) (one_str _) (by unfold maxLen; omega) (by omega) (by simp; omega) ?_); intro u4 w4 hown hg _)
      have b4 : Below w.heap.size w w4 := b3.grown hg (by simp; omega) (fun j hj => (lt1 j hj).1)
      have ho4 := OwnT.app hown
      rw [E1.out, HT.out] at ho4
      clear hown hg a2 b3 lt1 E1 HT EC ho2 hb2
      go_wp2
      go_roundw
      case rel => exact ⟨pre ++ [r], a + r.length + 2, by omega, by go_num, HM, ho4, by rw [List.length_append, List.length_singleton]; omega, b4⟩
      case measure => simp [intOf]; omega
end Go.Proofs.Ytclonfhpabdpgaa
