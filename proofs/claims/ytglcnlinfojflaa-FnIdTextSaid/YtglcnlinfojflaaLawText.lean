/-
  Walk of the law on a changed byte.
-/
import Derived.Test.YtglcnlinfojflaaLawsOb
import Derived.Test.YtglcnlinfojflaaInj
import Derived.Deep.RegionHeld3
namespace Go.Proofs.Ytglcnlinfojflaa
open Go.RowKit Wo Pu

theorem xor_tab : ∀ n : Fin 256, ∀ d : Fin 4, d ≠ 0 → n.1 ^^^ d.1 ≠ n.1 := by decide +kernel
theorem xor_u8 (a : UInt8) (d : Int) (h1 : 1 ≤ d) (h3 : d ≤ 3) : ∃ b : UInt8, bits .xor .u8 (a.toNat : Int) d = (b.toNat : Int) ∧ b ≠ a := by
  obtain ⟨m, rfl⟩ := Int.eq_ofNat_of_zero_le (show 0 ≤ d by omega)
  have ha := a.toNat_lt
  have e : ∀ k : Nat, k < 256 → (BitVec.ofInt 8 (k : Int)).toNat = k := fun k hk => by
    rw [BitVec.ofInt_natCast, BitVec.toNat_ofNat]
    exact Nat.mod_eq_of_lt (by omega)
  have hx : a.toNat ^^^ m < 2 ^ 8 := Nat.xor_lt_two_pow (by omega) (by omega)
  have hb : (UInt8.ofNat (a.toNat ^^^ m)).toNat = a.toNat ^^^ m := by
    rw [UInt8.toNat_ofNat']
    omega
  refine ⟨UInt8.ofNat (a.toNat ^^^ m), ?_, fun e2 => ?_⟩
  · show IntKind.u8.wrap ((BitVec.ofInt 8 (a.toNat : Int) ^^^ BitVec.ofInt 8 (m : Int)).toNat : Int) = _
    rw [BitVec.toNat_xor, e _ (by omega), e _ (by omega), IntKind.wrap_u8, hb]
    omega
  · have e3 : (UInt8.ofNat (a.toNat ^^^ m)).toNat = a.toNat := by rw [e2]
    rw [hb] at e3
    exact xor_tab ⟨a.toNat, by omega⟩ ⟨m, by omega⟩ (fun e4 => by have := congrArg Fin.val e4; simp at this; omega) e3
theorem conv_byte (w : World) (b : UInt8) : (convert 32 9 (.slice (some ⟨w.heap.size, 0, none⟩) 1 1)).run Try.prog (w.alloc (.cells #[.int .u8 (b.toNat : Int)] 5)).drew = .ok (.string ⟨#[b]⟩) (w.alloc (.cells #[.int .u8 (b.toNat : Int)] 5)).drew := by
  refine run_convert_bytes_back (P := Try.prog) (w.alloc (.cells #[.int .u8 (b.toNat : Int)] 5)).drew 32 9 5 ⟨w.heap.size, 0, none⟩ 1 [b] Try.underlying32 Try.underlying5 Try.underlying9 ?_
  intro j hj
  simp only [List.length_cons, List.length_nil] at hj
  obtain rfl : j = 0 := by omega
  simp only [List.getElem_cons_zero, add_zero]
  simp [go_sem]

theorem oid_text_ne {kd : Int} {zs : List Int} {p t : List UInt8} {b b' : UInt8} (h : vldB kd zs (p ++ b :: t).length = true) (hb : b' ≠ b) : oid kd zs (p ++ b' :: t) ≠ oid kd zs (p ++ b :: t) := by
  have e1 : oid kd zs (p ++ b :: t) = idOf kd zs (p ++ b :: t) := if_pos h
  have e2 : oid kd zs (p ++ b' :: t) = idOf kd zs (p ++ b' :: t) := if_pos (by rw [text_vld (b := b)]; exact h)
  rw [e1, e2]
  exact text_ne (fun e => hb e.symm)
theorem text_put (s : ByteArray) (K : Nat) (b : UInt8) : (s.extract 0 K ++ (⟨#[b]⟩ : ByteArray) ++ s.extract (K + 1) s.size).data.toList = s.data.toList.take K ++ b :: s.data.toList.drop (K + 1) := by
  simp [ByteArray.data_append, ByteArray.data_extract]
  apply List.take_of_length_le
  rw [List.length_drop]
  exact Nat.le_refl _
theorem text_was (s : ByteArray) (K : Nat) (h : K < s.size) : s.data.toList = s.data.toList.take K ++ s[K] :: s.data.toList.drop (K + 1) := by
  have e := (List.take_append_drop K s.data.toList).symm
  rw [List.drop_eq_getElem_cons (by simpa using h)] at e
  exact e
theorem text_oid_ne {kd : Int} {zs : List Int} (s : ByteArray) (K : Nat) (b : UInt8) (h : K < s.size) (hv : vldB kd zs s.size = true) (hb : b ≠ s[K]) :
    oid kd zs (s.extract 0 K ++ (⟨#[b]⟩ : ByteArray) ++ s.extract (K + 1) s.size).data.toList ≠ oid kd zs s.data.toList := by
  have hv' : vldB kd zs s.data.toList.length = true := hv
  rw [text_put]
  generalize hL : s.data.toList = L at *
  have e := text_was s K h
  rw [hL] at e
  rw [e] at hv'
  have := oid_text_ne hv' hb
  rwa [← e] at this
theorem text_size (s : ByteArray) (K : Nat) (b : UInt8) (h : K < s.size) : (s.extract 0 K ++ (⟨#[b]⟩ : ByteArray) ++ s.extract (K + 1) s.size).size = s.size := by
  have e := congrArg List.length (text_put s K b)
  have e2 := congrArg List.length (text_was s K h)
  have h1 : ∀ t : ByteArray, t.data.toList.length = t.size := fun _ => rfl
  rw [h1] at e
  rw [e, ← h1 s]
  simp at e2 ⊢
  omega

theorem FnIdText_no (A : Option Addr) (c : Nat) (bs : List Int) (A' : Option Addr) (c' : Nat) (bs' : List Int) (w : World) (h : Code_ w A c bs) (h' : Code_ w A' c' bs') (hl : ¬ (bs.length ≤ 1048576 ∧ bs'.length ≤ 1048576)) :
    Calls Try.prog 5 #[.slice A bs.length c, .slice A' bs'.length c'] w (Ret (.bool true) w) := by
  have hc := h.2.1
  have hm := h.2.2.1
  have hc' := h'.2.1
  have hm' := h'.2.2.1
  unfold maxLen at hm hm'
  by_cases h1 : bs.length ≤ 1048576
  · have h2 : ¬ bs'.length ≤ 1048576 := fun e => hl ⟨h1, e⟩
    clear hl
    go_enter Try.func5, Try.ntmps5
    go_wp2
    go_ret
    exact .mk_ (Below.refl _ _)
  · clear hl
    go_enter Try.func5, Try.ntmps5
    go_wp2
    go_ret
    exact .mk_ (Below.refl _ _)
set_option maxHeartbeats 4000000 in
theorem FnIdText_yes (A : Option Addr) (c : Nat) (bs : List Int) (A' : Option Addr) (c' : Nat) (bs' : List Int) (w : World) (h : Code_ w A c bs) (_h' : Code_ w A' c' bs') (hl : bs.length ≤ 1048576) (hl' : bs'.length ≤ 1048576) :
    Calls Try.prog 5 #[.slice A bs.length c, .slice A' bs'.length c'] w (Ret (.bool true) w) := by
  go_enter Try.func5, Try.ntmps5
  go_wp2_with fail
  refine (DrawObjectId_any A c bs _ h).mono ?_
  rintro e w1 ⟨kd, A1, c1, zs, s, rfl, ho1, hz, hs, hb1⟩
  have hm : zs.length ≤ maxLen := by unfold maxLen; omega
  have hs' : s.size ≤ maxLen := by unfold maxLen; omega
  unfold ob
  have al := (Below.refl w1.heap.size w1).alloc (Nat.le_refl _) (.cells #[.int .i64 kd, .slice A1 zs.length c1, .string s] 27)
  have u1 := Blk.new_ w1 27 (.int .i64 kd) (.slice A1 zs.length c1) (.string s)
  have b1 := hb1.trans (al.mono hb1.size)
  have o1 := ho1.below al (Nat.le_refl _)
  have z1 := hb1.size
  clear hb1 al ho1
  go_wp2_with fail
  refine (implObjectId_any _ A1 c1 kd zs s _ o1.row (Nat.le_refl _) hm hs').mono ?_
  rintro e w2 ⟨rfl, hb2⟩
  have u2 := u1.below hb2 u1.lt
  have b2 := b1.trans (hb2.mono b1.size)
  have o2 := o1.below hb2 (Nat.le_refl _)
  have z2 := hb2.size
  simp only [World.size_alloc] at z2
  clear hb2 u1 b1 o1
  obtain ⟨k0, k1, k2, kf⟩ := id u2.reads
  clear kf
  go_wp2_with fail
  refine (specId_any _ A1 c1 kd zs s _ o2.row (Nat.le_refl _) hm hs').mono ?_
  rintro e w3 ⟨rfl, hb3⟩
  have u3 := u2.below hb3 u2.lt
  have b3 := b2.trans (hb3.mono b2.size)
  have o3 := o2.below hb3 (Nat.le_refl _)
  have z3 := hb3.size
  clear hb3 u2 b2 o2 k0 k1 k2
  obtain ⟨k0, k1, k2, kf⟩ := id u3.reads
  clear kf
  cases hv : vldB kd zs s.size
  · have e0 := oid_lt hv
    clear hv
    generalize oid kd zs s.data.toList = I at *
    go_wp2
    go_ret
    exact .mk_ b3
  have e0 := oid_ge hv
  have eI := (oid_range kd zs s.data.toList).2
  have HV := hid hv
  clear hv
  by_cases en : s.size = 0
  · have e1 : s.toList.isEmpty = true := (emp_ s).trans (decide_eq_true en)
    clear en
    generalize oid kd zs s.data.toList = I at *
    go_wp2
    go_ret
    exact .mk_ b3
  have e1 : s.toList.isEmpty = false := (emp_ s).trans (decide_eq_false en)
  have l3 := u3.lt
  have hsz : 0 < (s.size : Int) := by omega
  have hk0 : 0 ≤ (bs'.length : Int) % (s.size : Int) := Int.emod_nonneg _ (by omega)
  have hk1 : (bs'.length : Int) % (s.size : Int) < (s.size : Int) := Int.emod_lt_of_pos _ hsz
  go_wp2_with fail
  have hk2 : ((bs'.length : Int) % (s.size : Int)).toNat = bs'.length % s.size := by rw [← Int.natCast_emod, Int.toNat_natCast]
  have hkn : bs'.length % s.size < s.size := Nat.mod_lt _ (by omega)
  have hm0 : 0 ≤ (bs'.length : Int) % 3 := Int.emod_nonneg _ (by omega)
  have hm1 : (bs'.length : Int) % 3 < 3 := Int.emod_lt_of_pos _ (by omega)
  have al := (Below.refl w3.heap.size w3).alloc (Nat.le_refl _) (.cells #[.int .i64 kd, .slice A1 zs.length c1, .string s] 27)
  have u4 := u3.below al l3
  have v4 := Blk.new_ w3 27 (.int .i64 kd) (.slice A1 zs.length c1) (.string s)
  have b4 := b3.trans (al.mono b3.size)
  have o4 := o3.below al (Nat.le_refl _)
  have z4 : w3.heap.size < (w3.alloc (.cells #[.int .i64 kd, .slice A1 zs.length c1, .string s] 27)).heap.size := by simp
  clear u3 b3 o3 al k0 k1 k2
  generalize w3.alloc (.cells #[.int .i64 kd, .slice A1 zs.length c1, .string s] 27) = w4 at *
  obtain ⟨-, -, k42, -⟩ := id u4.reads
  obtain ⟨m0, m1, m2, mf⟩ := id v4.reads
  have mf2 := mf 2
  clear mf
  have l4 := u4.lt
  obtain ⟨K, hK⟩ : ∃ K, K = bs'.length % s.size := ⟨_, rfl⟩
  have hKi : (bs'.length : Int) % (s.size : Int) = (K : Int) := by rw [hK, Int.natCast_emod]
  rw [← hK] at hkn
  rw [hKi]
  clear hk0 hk1 hk2 hKi hK
  have q0 : (0 : Int) ≤ (K : Int) := by omega
  have q1 : (K : Int) ≤ (s.size : Int) := by omega
  have q2 : (K : Int) < (s.size : Int) := by omega
  have q3 : IntKind.i64.wrap ((K : Int) + 1) = (K : Int) + 1 := IntWalk.i64_in _ (by omega)
  have q4 : (0 : Int) ≤ (K : Int) + 1 := by omega
  have q5 : (K : Int) + 1 ≤ (s.size : Int) := by omega
  have q6 : ((K : Int) + 1).toNat = K + 1 := by omega
  obtain ⟨b, hb, hbne⟩ := xor_u8 s[K] (1 + (bs'.length : Int) % 3) (by omega) (by omega)
  have hcv := conv_byte w4 b
  go_region
  have hne := text_oid_ne s K b hkn HV.out hbne
  have hTs := text_size s K b hkn
  generalize s.extract 0 K ++ (⟨#[b]⟩ : ByteArray) ++ s.extract (K + 1) s.size = t at *
  have hneq : (oid kd zs t.data.toList != oid kd zs s.data.toList) = true := by rw [bne_iff_ne]; exact hne
  have st := Below.refl w4.heap.size w4
  have v5 := v4.set2 (.string t)
  have o5 := o4.far v4 2 (.string t)
  have b5 := b4.setCell (p := ⟨w3.heap.size, 2, none⟩) (by have := z3; show w.heap.size ≤ w3.heap.size; omega) (.string t)
  clear hcv hb hbne m0 m1 m2 mf2 k42 u4 v4 o4 b4 st hne z4 l4
  generalize w4.setCell ⟨w3.heap.size, 2, none⟩ (.string t) = w5 at *
  have al := (Below.refl w5.heap.size w5).alloc (Nat.le_refl _) (.cells #[.int .u8 (b.toNat : Int)] 5)
  have v6 : Blk (w5.alloc (.cells #[.int .u8 (b.toNat : Int)] 5)).drew w3.heap.size 27 (.int .i64 kd) (.slice A1 zs.length c1) (.string t) := v5.below al.drew v5.lt
  have o6 := (o5.below al (Nat.le_refl _)).below (Below.refl _ _).drew (Nat.le_refl _)
  have b6 := (b5.trans (al.mono b5.size)).drew
  clear al v5 o5 b5
  generalize (w5.alloc (.cells #[.int .u8 (b.toNat : Int)] 5)).drew = w6 at *
  obtain ⟨m0, m1, m2, -⟩ := id v6.reads
  go_wp2_with fail
  refine (implObjectId_any _ A1 c1 kd zs t w6 o6.row (Nat.le_refl _) hm (by rw [hTs]; exact hs')).mono ?_
  rintro e w7 ⟨rfl, hb7⟩
  go_wp2
  go_ret
  exact .mk_ (b6.trans (hb7.mono b6.size))
theorem FnIdText_any (A : Option Addr) (c : Nat) (bs : List Int) (A' : Option Addr) (c' : Nat) (bs' : List Int) (w : World) (f1 : Row w w.heap.size A (bs.map (Value.int .u8))) (f2 : bs.length ≤ c) (f3 : c ≤ maxLen) (f4 : ∀ n ∈ bs, 0 ≤ n ∧ n < 256) (g1 : Row w w.heap.size A' (bs'.map (Value.int .u8))) (g2 : bs'.length ≤ c') (g3 : c' ≤ maxLen) (g4 : ∀ n ∈ bs', 0 ≤ n ∧ n < 256) :
    Calls Try.prog 5 #[.slice A bs.length c, .slice A' bs'.length c'] w (Ret (.bool true) w) := by
  by_cases hl : bs.length ≤ 1048576 ∧ bs'.length ≤ 1048576
  · exact FnIdText_yes A c bs A' c' bs' w ⟨f1, f2, f3, f4⟩ ⟨g1, g2, g3, g4⟩ hl.1 hl.2
  · exact FnIdText_no A c bs A' c' bs' w ⟨f1, f2, f3, f4⟩ ⟨g1, g2, g3, g4⟩ hl
end Go.Proofs.Ytglcnlinfojflaa
