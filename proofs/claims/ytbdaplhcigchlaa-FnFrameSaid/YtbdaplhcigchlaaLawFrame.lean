/-
  Walks of the laws on frames.
-/
import Derived.Test.YtbdaplhcigchlaaLogK
import Derived.Deep.RegionHeld3
import Derived.BigRegion
namespace Go.Proofs.Ytbdaplhcigchlaa
open Go.RowKit Wo Pu Lg

theorem FnFrame_no (A : Option Addr) (c : Nat) (bs : List Int) (w : World) (h : Code_ w A c bs) (hl : ¬ bs.length ≤ 1048576) :
    Calls Try.prog 3 #[.slice A bs.length c] w (Ret (.bool true) w) := by
  have hc := h.2.1
  have hm := h.2.2.1
  unfold maxLen at hm
  go_enter Try.func3, Try.ntmps3
  go_wp2
  go_ret
  exact .mk_ (Below.refl _ _)
set_option maxHeartbeats 4000000 in
theorem FnFrame_yes (A : Option Addr) (c : Nat) (bs : List Int) (w : World) (h : Code_ w A c bs) (hl : bs.length ≤ 1048576) :
    Calls Try.prog 3 #[.slice A bs.length c] w (Ret (.bool true) w) := by
  go_enter Try.func3, Try.ntmps3
  go_wp2_with fail
  refine (DrawLogFrame_any A c bs _ h).mono ?_
  rintro e w1 ⟨s, rfl, hs, b1⟩
  have hsm : s.size ≤ maxLen := by unfold maxLen; omega
  go_wp2_with fail
  refine (implLogFrame_any s _ hsm).mono ?_
  rintro e w2 ⟨rfl, hb2⟩
  have b2 := b1.trans (hb2.mono b1.size)
  go_wp2_with fail
  refine (specLogFrame_any s _ hsm).mono ?_
  rintro e w3 ⟨rfl, hb3⟩
  have b3 := b2.trans (hb3.mono b2.size)
  clear hb2 hb3 b1 b2
  by_cases hf : 1 ≤ s.size ∧ s.size ≤ 12
  · obtain ⟨ht, hu⟩ := frameB_scan hf
    have HT := hid ht
    have HU := hid hu
    have HS := hid (frameB_size hf)
    clear ht hu
    obtain ⟨L, hL⟩ : ∃ L, frameB s = L := ⟨_, rfl⟩
    rw [hL] at HT HU HS ⊢
    clear hL
    have e0 : L.toList.isEmpty = false := (emp_ L).trans (decide_eq_false (by have := HS.out; omega))
    have hz := b3.size
    go_wp2_with fail
    refine (implLogScan_any L _ (by have := HS.out; omega)).mono ?_
    rintro e w4 ⟨v, rfl, ho, hb4⟩
    rw [HT.out] at ho
    rw [HU.out]
    obtain ⟨A4, c4, rfl, hr4⟩ := ho.form
    have b4 := b3.trans (hb4.mono hz)
    have hz4 := b4.size
    have hr5 := (hr4.alloc (Nat.le_refl _) (.cells #[.string s] 9)).more (B' := (w4.alloc (.cells #[.string s] 9)).heap.size) (by simp)
    have hn5 := row_one w4 s 9
    have b5 := b4.alloc hz4 (.cells #[.string s] 9)
    have k5 := HS.out
    clear ho hb4 b3 HT HU HS
    go_wp2_with fail
    refine (sameTexts_ret A4 _ c4 1 [s] _ hr5 hn5 (by unfold maxLen; simp)).mono ?_
    rintro e w6 ⟨rfl, hb6⟩
    go_wp2
    go_ret
    exact .mk_ (b5.trans (hb6.mono (by simp; omega)))
  · have e0 : (frameB s).toList.isEmpty = true := (emp_ _).trans (decide_eq_true (by rw [frameB_no hf]; rfl))
    go_wp2
    go_ret
    exact .mk_ b3
theorem FnFrame_any (A : Option Addr) (c : Nat) (bs : List Int) (w : World) (f1 : Row w w.heap.size A (bs.map (Value.int .u8))) (f2 : bs.length ≤ c) (f3 : c ≤ maxLen) (f4 : ∀ n ∈ bs, 0 ≤ n ∧ n < 256) :
    Calls Try.prog 3 #[.slice A bs.length c] w (Ret (.bool true) w) := by
  by_cases hl : bs.length ≤ 1048576
  · exact FnFrame_yes A c bs w ⟨f1, f2, f3, f4⟩ hl
  · exact FnFrame_no A c bs w ⟨f1, f2, f3, f4⟩ hl

theorem torn_scan {s : ByteArray} (h : 1 ≤ s.size ∧ s.size ≤ 12) {K : Nat} (hK : K < s.size + 2) : texts (bl ((frameB s).extract 0 K)) = [] ∧ used (bl ((frameB s).extract 0 K)) = 0 := by
  have e : scan (bl ((frameB s).extract 0 K)) = [] := by
    rw [bl_extract, bl_frameB h, List.drop_zero, Nat.sub_zero]
    exact scan_torn (fits_of h) (by rw [bl_size]; exact hK)
  rw [texts_eq]
  unfold used
  rw [e]
  exact ⟨rfl, rfl⟩
theorem FnFrameTorn_no (A : Option Addr) (c : Nat) (bs : List Int) (A' : Option Addr) (c' : Nat) (bs' : List Int) (w : World) (h : Code_ w A c bs) (h' : Code_ w A' c' bs') (hl : ¬ (bs.length ≤ 1048576 ∧ bs'.length ≤ 1048576)) :
    Calls Try.prog 5 #[.slice A bs.length c, .slice A' bs'.length c'] w (Ret (.bool true) w) := by
  have hc := h.2.1
  have hm := h.2.2.1
  have hc' := h'.2.1
  have hm' := h'.2.2.1
  unfold maxLen at hm hm'
  by_cases h1 : bs.length ≤ 1048576
  · have h2 : ¬ bs'.length ≤ 1048576 := fun e => hl ⟨h1, e⟩
    clear hl
    go_enter Try.func5, Try.ntmps5
    go_wp2
    go_ret
    exact .mk_ (Below.refl _ _)
  · clear hl
    go_enter Try.func5, Try.ntmps5
    go_wp2
    go_ret
    exact .mk_ (Below.refl _ _)
set_option maxHeartbeats 4000000 in
theorem FnFrameTorn_yes (A : Option Addr) (c : Nat) (bs : List Int) (A' : Option Addr) (c' : Nat) (bs' : List Int) (w : World) (h : Code_ w A c bs) (_h' : Code_ w A' c' bs') (hl : bs.length ≤ 1048576) (hl' : bs'.length ≤ 1048576) :
    Calls Try.prog 5 #[.slice A bs.length c, .slice A' bs'.length c'] w (Ret (.bool true) w) := by
  go_enter Try.func5, Try.ntmps5
  go_wp2_with fail
  refine (DrawLogFrame_any A c bs _ h).mono ?_
  rintro e w1 ⟨s, rfl, hs, b1⟩
  have hsm : s.size ≤ maxLen := by unfold maxLen; omega
  go_wp2_with fail
  refine (implLogFrame_any s _ hsm).mono ?_
  rintro e w2 ⟨rfl, hb2⟩
  have b2 := b1.trans (hb2.mono b1.size)
  go_wp2_with fail
  refine (specLogFrame_any s _ hsm).mono ?_
  rintro e w3 ⟨rfl, hb3⟩
  have b3 := b2.trans (hb3.mono b2.size)
  clear hb2 hb3 b1 b2
  by_cases hf : 1 ≤ s.size ∧ s.size ≤ 12
  · have hsz := frameB_size hf
    have HS := hid hsz
    have HN := fun K hK => torn_scan (s := s) hf (K := K) hK
    clear hsz
    obtain ⟨L, hL⟩ : ∃ L, frameB s = L := ⟨_, rfl⟩
    rw [hL] at HS HN ⊢
    clear hL
    have hLs : 0 < (L.size : Int) := by have := HS.out; omega
    have hLm : (L.size : Int) ≤ 14 := by have := HS.out; omega
    obtain ⟨K, hK⟩ : ∃ K, K = bs'.length % L.size := ⟨_, rfl⟩
    have hkn : K < L.size := by rw [hK]; exact Nat.mod_lt _ (by omega)
    have hKi : (bs'.length : Int) % (L.size : Int) = (K : Int) := by rw [hK, Int.natCast_emod]
    obtain ⟨ht, hu⟩ := HN K (by have := HS.out; omega)
    have HT := hid ht
    have HU := hid hu
    have e0 : L.toList.isEmpty = false := (emp_ L).trans (decide_eq_false (by omega))
    have hk0 : 0 ≤ (bs'.length : Int) % (L.size : Int) := Int.emod_nonneg _ (by omega)
    have hk1 : (bs'.length : Int) % (L.size : Int) < (L.size : Int) := Int.emod_lt_of_pos _ hLs
    have hk2 : ((bs'.length : Int) % (L.size : Int)).toNat = K := by omega
    have hz := b3.size
    clear hK ht hu HN hKi
    have hx : (L.extract 0 K).size ≤ 1048576 := by rw [ByteArray.size_extract]; omega
    go_wp2_with fail
    refine (implLogScan_any (L.extract 0 K) _ hx).mono ?_
    rintro e w4 ⟨v, rfl, ho, hb4⟩
    rw [HT.out] at ho
    rw [HU.out]
    obtain ⟨A4, c4, rfl, hr4⟩ := ho.form
    clear hk0 hk1 hk2
    go_wp2
    go_ret
    exact .mk_ (b3.trans (hb4.mono hz))
  · have e0 : (frameB s).toList.isEmpty = true := (emp_ _).trans (decide_eq_true (by rw [frameB_no hf]; rfl))
    go_wp2
    go_ret
    exact .mk_ b3
theorem FnFrameTorn_any (A : Option Addr) (c : Nat) (bs : List Int) (A' : Option Addr) (c' : Nat) (bs' : List Int) (w : World) (f1 : Row w w.heap.size A (bs.map (Value.int .u8))) (f2 : bs.length ≤ c) (f3 : c ≤ maxLen) (f4 : ∀ n ∈ bs, 0 ≤ n ∧ n < 256) (g1 : Row w w.heap.size A' (bs'.map (Value.int .u8))) (g2 : bs'.length ≤ c') (g3 : c' ≤ maxLen) (g4 : ∀ n ∈ bs', 0 ≤ n ∧ n < 256) :
    Calls Try.prog 5 #[.slice A bs.length c, .slice A' bs'.length c'] w (Ret (.bool true) w) := by
  by_cases hl : bs.length ≤ 1048576 ∧ bs'.length ≤ 1048576
  · exact FnFrameTorn_yes A c bs A' c' bs' w ⟨f1, f2, f3, f4⟩ ⟨g1, g2, g3, g4⟩ hl.1 hl.2
  · exact FnFrameTorn_no A c bs A' c' bs' w ⟨f1, f2, f3, f4⟩ ⟨g1, g2, g3, g4⟩ hl

theorem xor_near_tab : ∀ n : Fin 256, ∀ d : Fin 4, d ≠ 0 → n.1 ^^^ d.1 ≠ n.1 ∧ n.1 ^^^ d.1 < n.1 + 251 ∧ n.1 < (n.1 ^^^ d.1) + 251 := by decide +kernel
theorem xor_near (a : UInt8) (d : Int) (h1 : 1 ≤ d) (h3 : d ≤ 3) : ∃ b : UInt8, bits .xor .u8 (a.toNat : Int) d = (b.toNat : Int) ∧ b.toNat ≠ a.toNat ∧ b.toNat < a.toNat + 251 ∧ a.toNat < b.toNat + 251 := by
  obtain ⟨m, rfl⟩ := Int.eq_ofNat_of_zero_le (show 0 ≤ d by omega)
  have ha := a.toNat_lt
  have e : ∀ k : Nat, k < 256 → (BitVec.ofInt 8 (k : Int)).toNat = k := fun k hk => by
    rw [BitVec.ofInt_natCast, BitVec.toNat_ofNat]
    exact Nat.mod_eq_of_lt (by omega)
  have hx : a.toNat ^^^ m < 2 ^ 8 := Nat.xor_lt_two_pow (by omega) (by omega)
  have hb : (UInt8.ofNat (a.toNat ^^^ m)).toNat = a.toNat ^^^ m := by
    rw [UInt8.toNat_ofNat']
    omega
  refine ⟨UInt8.ofNat (a.toNat ^^^ m), ?_, ?_⟩
  · show IntKind.u8.wrap ((BitVec.ofInt 8 (a.toNat : Int) ^^^ BitVec.ofInt 8 (m : Int)).toNat : Int) = _
    rw [BitVec.toNat_xor, e _ (by omega), e _ (by omega), IntKind.wrap_u8, hb]
    omega
  · rw [hb]
    exact xor_near_tab ⟨a.toNat, by omega⟩ ⟨m, by omega⟩ (fun e4 => by have := congrArg Fin.val e4; simp at this; omega)
theorem change_scan {s : ByteArray} (h : 1 ≤ s.size ∧ s.size ≤ 12) {K : Nat} (hK : K < s.size) {b : UInt8} (hb : b.toNat ≠ s[K].toNat ∧ b.toNat < s[K].toNat + 251 ∧ s[K].toNat < b.toNat + 251) :
    texts (bl ((frameB s).extract 0 (1 + K) ++ mk [b] ++ (frameB s).extract (1 + K + 1) (frameB s).size)) = [] ∧ used (bl ((frameB s).extract 0 (1 + K) ++ mk [b] ++ (frameB s).extract (1 + K + 1) (frameB s).size)) = 0 := by
  have hl := bl_size s
  have hs := frameB_size h
  have e : bl ((frameB s).extract 0 (1 + K) ++ mk [b] ++ (frameB s).extract (1 + K + 1) (frameB s).size) = lenB (bl s) :: ((bl s).take K ++ b :: (bl s).drop (K + 1) ++ [chB (bl s)]) := by
    have e1 : (fr (bl s)).take (K + 1) = lenB (bl s) :: (bl s).take K := by unfold fr; rw [List.take_succ_cons, List.take_append_of_le_length (by omega)]
    have e2 : (fr (bl s)).drop (K + 1 + 1) = (bl s).drop (K + 1) ++ [chB (bl s)] := by unfold fr; rw [List.drop_succ_cons, List.drop_append_of_le_length (by omega)]
    have e3 : ((bl s).drop (K + 1) ++ [chB (bl s)]).length ≤ s.size + 2 - (K + 1 + 1) := by rw [List.length_append, List.length_drop, hl, List.length_singleton]; omega
    rw [bl_append, bl_append, bl_mk, bl_extract, bl_extract, bl_frameB h, hs, List.drop_zero, Nat.sub_zero, Nat.add_comm 1 K, e1, e2, List.take_of_length_le e3]
    simp
  have e2 : scan (bl ((frameB s).extract 0 (1 + K) ++ mk [b] ++ (frameB s).extract (1 + K + 1) (frameB s).size)) = [] := by
    rw [e]
    exact scan_none (first_change (fits_of h) (by omega) hb)
  rw [texts_eq]
  unfold used
  rw [e2]
  exact ⟨rfl, rfl⟩
theorem frameB_at {s : ByteArray} (h : 1 ≤ s.size ∧ s.size ≤ 12) {K : Nat} (hK : K < s.size) : (bl (frameB s))[1 + K]? = some s[K] := by
  rw [bl_frameB h, Nat.add_comm]
  unfold fr
  rw [List.getElem?_cons_succ, List.getElem?_append_left (by rw [bl_size]; exact hK), bl_get s hK]
theorem FnFrameChange_no (A : Option Addr) (c : Nat) (bs : List Int) (A' : Option Addr) (c' : Nat) (bs' : List Int) (w : World) (h : Code_ w A c bs) (h' : Code_ w A' c' bs') (hl : ¬ (bs.length ≤ 1048576 ∧ bs'.length ≤ 1048576)) :
    Calls Try.prog 4 #[.slice A bs.length c, .slice A' bs'.length c'] w (Ret (.bool true) w) := by
  have hc := h.2.1
  have hm := h.2.2.1
  have hc' := h'.2.1
  have hm' := h'.2.2.1
  unfold maxLen at hm hm'
  by_cases h1 : bs.length ≤ 1048576
  · have h2 : ¬ bs'.length ≤ 1048576 := fun e => hl ⟨h1, e⟩
    clear hl
    go_enter Try.func4, Try.ntmps4
    go_wp2
    go_ret
    exact .mk_ (Below.refl _ _)
  · clear hl
    go_enter Try.func4, Try.ntmps4
    go_wp2
    go_ret
    exact .mk_ (Below.refl _ _)
set_option maxHeartbeats 4000000 in
theorem FnFrameChange_yes (A : Option Addr) (c : Nat) (bs : List Int) (A' : Option Addr) (c' : Nat) (bs' : List Int) (w : World) (h : Code_ w A c bs) (_h' : Code_ w A' c' bs') (hl : bs.length ≤ 1048576) (hl' : bs'.length ≤ 1048576) :
    Calls Try.prog 4 #[.slice A bs.length c, .slice A' bs'.length c'] w (Ret (.bool true) w) := by
  go_enter Try.func4, Try.ntmps4
  go_wp2_with fail
  refine (DrawLogFrame_any A c bs _ h).mono ?_
  rintro e w1 ⟨s, rfl, hs, b1⟩
  have hsm : s.size ≤ maxLen := by unfold maxLen; omega
  go_wp2_with fail
  refine (implLogFrame_any s _ hsm).mono ?_
  rintro e w2 ⟨rfl, hb2⟩
  have b2 := b1.trans (hb2.mono b1.size)
  go_wp2_with fail
  refine (specLogFrame_any s _ hsm).mono ?_
  rintro e w3 ⟨rfl, hb3⟩
  have b3 := b2.trans (hb3.mono b2.size)
  clear hb2 hb3 b1 b2
  by_cases hf : 1 ≤ s.size ∧ s.size ≤ 12
  · have HS := hid (frameB_size hf)
    obtain ⟨K, hK⟩ : ∃ K, K = bs'.length % s.size := ⟨_, rfl⟩
    have hkn : K < s.size := by rw [hK]; exact Nat.mod_lt _ (by omega)
    have hKi : (bs'.length : Int) % (s.size : Int) = (K : Int) := by rw [hK, Int.natCast_emod]
    obtain ⟨D, hD⟩ : ∃ D, D = bs'.length % 2 := ⟨_, rfl⟩
    have hD2 : D < 2 := by omega
    have hDi : (bs'.length : Int) % 2 = (D : Int) := by omega
    have hx := frameB_at hf hkn
    obtain ⟨b, hb, hbne⟩ := xor_near s[K] (1 + (D : Int)) (by omega) (by omega)
    obtain ⟨ht, hu⟩ := change_scan hf hkn hbne
    have HT := hid ht
    have HU := hid hu
    have HX := hid hx
    clear hK hD ht hu hx hbne
    obtain ⟨L, hL⟩ : ∃ L, frameB s = L := ⟨_, rfl⟩
    rw [hL] at HS HT HU HX ⊢
    clear hL
    have hLs := HS.out
    have e0 : L.toList.isEmpty = false := (emp_ L).trans (decide_eq_false (by omega))
    have hk1 : 1 + K < L.size := by omega
    have HG : Hid (L[1 + K] = s[K]) := by have h1 := HX.out; rw [bl_get L hk1] at h1; injection h1
    clear HX
    have hLm : L.size ≤ 14 := by omega
    clear hLs
    have hz := b3.size
    have hk0 : 0 ≤ (bs'.length : Int) % (s.size : Int) := Int.emod_nonneg _ (by omega)
    have hk9 : (bs'.length : Int) % (s.size : Int) < (s.size : Int) := Int.emod_lt_of_pos _ (by omega)
    go_wp2_with fail
    have hG := HG.out
    have q0 : (0 : Int) ≤ 1 + (K : Int) := by omega
    have q1 : 1 + (K : Int) ≤ (L.size : Int) := by omega
    have q2 : 1 + (K : Int) < (L.size : Int) := by omega
    have q3 : IntKind.i64.wrap (1 + (K : Int) + 1) = 1 + (K : Int) + 1 := IntWalk.i64_in _ (by omega)
    have q4 : (0 : Int) ≤ 1 + (K : Int) + 1 := by omega
    have q5 : 1 + (K : Int) + 1 ≤ (L.size : Int) := by omega
    have q6 : (1 + (K : Int)).toNat = 1 + K := by omega
    have q7 : (1 + (K : Int) + 1).toNat = 1 + K + 1 := by omega
    have q8 : IntKind.u8.wrap (1 + (D : Int)) = 1 + (D : Int) := by rw [IntKind.wrap_u8]; omega
    have q9 : IntKind.i64.wrap (1 + (D : Int)) = 1 + (D : Int) := IntWalk.i64_in _ (by omega)
    have cv := conv_at _ b rfl
    have z1 : (mk [b]).size = 1 := rfl
    have hm0 : 0 ≤ (bs'.length : Int) % 2 := by omega
    go_region
    have b4 := (b3.alloc hz (.cells #[.int .u8 (b.toNat : Int)] 5)).drew
    have hz4 := b4.size
    have hx : (L.extract 0 (1 + K) ++ mk [b] ++ L.extract (1 + K + 1) L.size).size ≤ 1048576 := by rw [ByteArray.size_append, ByteArray.size_append, ByteArray.size_extract, ByteArray.size_extract, z1]; omega
    clear hG q0 q1 q2 q3 q4 q5 q6 q7 q8 q9 cv z1 hm0 hDi hKi hk0 hk9 hb
    generalize L.extract 0 (1 + K) ++ mk [b] ++ L.extract (1 + K + 1) L.size = t at *
    go_wp2_with fail
    refine (implLogScan_any t _ hx).mono ?_
    rintro e w5 ⟨v, rfl, ho, hb5⟩
    rw [HT.out] at ho
    rw [HU.out]
    obtain ⟨A5, c5, rfl, hr5⟩ := ho.form
    go_wp2
    go_ret
    exact .mk_ (b4.trans (hb5.mono hz4))
  · have e0 : (frameB s).toList.isEmpty = true := (emp_ _).trans (decide_eq_true (by rw [frameB_no hf]; rfl))
    go_wp2
    go_ret
    exact .mk_ b3
theorem FnFrameChange_any (A : Option Addr) (c : Nat) (bs : List Int) (A' : Option Addr) (c' : Nat) (bs' : List Int) (w : World) (f1 : Row w w.heap.size A (bs.map (Value.int .u8))) (f2 : bs.length ≤ c) (f3 : c ≤ maxLen) (f4 : ∀ n ∈ bs, 0 ≤ n ∧ n < 256) (g1 : Row w w.heap.size A' (bs'.map (Value.int .u8))) (g2 : bs'.length ≤ c') (g3 : c' ≤ maxLen) (g4 : ∀ n ∈ bs', 0 ≤ n ∧ n < 256) :
    Calls Try.prog 4 #[.slice A bs.length c, .slice A' bs'.length c'] w (Ret (.bool true) w) := by
  by_cases hl : bs.length ≤ 1048576 ∧ bs'.length ≤ 1048576
  · exact FnFrameChange_yes A c bs A' c' bs' w ⟨f1, f2, f3, f4⟩ ⟨g1, g2, g3, g4⟩ hl.1 hl.2
  · exact FnFrameChange_no A c bs A' c' bs' w ⟨f1, f2, f3, f4⟩ ⟨g1, g2, g3, g4⟩ hl

end Go.Proofs.Ytbdaplhcigchlaa
