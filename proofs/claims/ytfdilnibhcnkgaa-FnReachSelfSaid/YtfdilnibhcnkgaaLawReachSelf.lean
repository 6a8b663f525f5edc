/-
  Walk of the law that each object of a store reaches itself.
-/
import Derived.Test.YtfdilnibhcnkgaaRchC
import Derived.Test.YtfdilnibhcnkgaaDrawSg
import Derived.Test.YtfdilnibhcnkgaaLawGet
namespace Go.Proofs.Ytfdilnibhcnkgaa
open Go.RowKit Wo Pu

theorem implObjectId_of (v : Int) (B : Nat) (A : Option Addr) (c : Nat) (o : Ob) (w : World) (hr : Row w B A (ints o.zs)) (hB : B ≤ w.heap.size) (hm : o.zs.length ≤ maxLen) (hs : o.s.size ≤ maxLen) (e : iOb o = v) :
    Calls Try.prog 25 #[ob o.kd A o.zs.length c o.s] w (Ret (.int .i64 v) w) := by
  subst e
  exact implObjectId_any B A c o.kd o.zs o.s w hr hB hm hs

theorem FnReachSelf_no (A : Option Addr) (c : Nat) (bs : List Int) (A' : Option Addr) (c' : Nat) (bs' : List Int) (w : World) (h : Code_ w A c bs) (h' : Code_ w A' c' bs') (hl : ¬ (bs.length ≤ 1048576 ∧ bs'.length ≤ 1048576)) :
    Calls Try.prog 7 #[.slice A bs.length c, .slice A' bs'.length c'] w (Ret (.bool true) w) := by
  have hc := h.2.1
  have hm := h.2.2.1
  have hc' := h'.2.1
  have hm' := h'.2.2.1
  unfold maxLen at hm hm'
  by_cases h1 : bs.length ≤ 1048576
  · have h2 : ¬ bs'.length ≤ 1048576 := fun e => hl ⟨h1, e⟩
    clear hl
    go_enter Try.func7, Try.ntmps7
    go_wp2
    go_ret
    exact .mk_ (Below.refl _ _)
  · clear hl
    go_enter Try.func7, Try.ntmps7
    go_wp2
    go_ret
    exact .mk_ (Below.refl _ _)
set_option maxHeartbeats 4000000 in
theorem FnReachSelf_yes (A : Option Addr) (c : Nat) (bs : List Int) (A' : Option Addr) (c' : Nat) (bs' : List Int) (w : World) (h : Code_ w A c bs) (_ : Code_ w A' c' bs') (hl : bs.length ≤ 1048576) (hl' : bs'.length ≤ 1048576) :
    Calls Try.prog 7 #[.slice A bs.length c, .slice A' bs'.length c'] w (Ret (.bool true) w) := by
  go_enter Try.func7, Try.ntmps7
  go_wp2_with fail
  refine (DrawStoreValid_any A c bs _ h).mono ?_
  rintro e w1 ⟨v, os, rfl, h1, hn, hv, b1⟩
  obtain ⟨A3, c3, rfl, ho, hc3⟩ := h1.form2
  have hf := fit_of hv
  have hm : os.length ≤ maxLen := by unfold maxLen; omega
  have HV := hid hv
  clear hv h1
  go_wp2_with fail
  refine (implStoreValid_any A3 c3 os w1 ho hf hm).mono ?_
  rintro e w2 ⟨rfl, hb2⟩
  have b2 := b1.trans (hb2.mono b1.size)
  have ho2 := (ho.below hb2 (Nat.le_refl _)).more hb2.size
  clear ho b1 hb2
  go_wp2_with fail
  refine (specStoreValid_any A3 c3 os w2 ho2 hf hm).mono ?_
  rintro e w3 ⟨rfl, hb3⟩
  have b3 := b2.trans (hb3.mono b2.size)
  have ho3 := (ho2.below hb3 (Nat.le_refl _)).more hb3.size
  clear ho2 hb3 b2
  rcases hst : storeB os with _ | _
  · go_wp2
    go_ret
    exact .mk_ b3
  · have HST := hid hst
    clear hst
    by_cases h0 : os.length = 0
    · obtain rfl := List.length_eq_zero_iff.1 h0
      go_wp2
      go_ret
      exact .mk_ b3
    · have e0 : (((os.length : Nat) : Int) == 0) = false := by rw [beq_eq_false_iff_ne]; omega
      obtain ⟨k, hk⟩ : ∃ k : Nat, (bs'.length : Int) % (os.length : Int) = (k : Int) := ⟨bs'.length % os.length, by simp⟩
      have hkl : k < os.length := by have := Int.emod_lt_of_pos (bs'.length : Int) (show (0 : Int) < os.length by omega); omega
      obtain ⟨o, ad, Ao, co, hoo, rfl, had, g0, g1, g2, g3⟩ := ho3.obj hkl
      have hom : o ∈ os := by rw [← hoo]; exact List.getElem_mem hkl
      have hfo := hf o hom
      have HO := hid hom
      have HI := hid (store_in HST.out hom)
      have k0 : (0 : Int) ≤ (k : Int) := by omega
      have k1 : (k : Int) < (os.length : Int) := by omega
      have kp : 0 < os.length := by omega
      obtain ⟨id, hid0⟩ : ∃ id, iOb o = id := ⟨_, rfl⟩
      have HID := hid hid0
      clear hoo h0 hom hid0
      go_wp2_with fail
      refine (implObjectId_of id _ Ao co o w3 g3 (Nat.le_refl _) hfo.1 hfo.2 HID.out).mono ?_
      rintro e w4 ⟨rfl, hb4⟩
      have b4 := b3.trans (hb4.mono b3.size)
      have ho4 := (ho3.below hb4 (Nat.le_refl _)).more hb4.size
      clear ho3 hb4 b3 g0 g1 g2 g3 hk
      have hID : 0 ≤ id ∧ id < 991 := by rw [← HID.out]; exact HI.out
      have al := (Below.refl w4.heap.size w4).alloc (Nat.le_refl _) (.cells #[.int .i64 id] 3)
      have ho5 := (ho4.below al (Nat.le_refl _)).more al.size
      have hrow : Row (w4.alloc (.cells #[.int .i64 id] 3)) (w4.alloc (.cells #[.int .i64 id] 3)).heap.size (some ⟨w4.heap.size, 0, none⟩) (ints [id]) := by
        refine .inr ⟨_, rfl, by simp, fun j u hu => ?_⟩
        exact cell_one_new _ _ _ j u hu
      have b5 := b4.trans (al.mono b4.size)
      go_wp2_with fail
      refine (implStoreReach_any (some ad) (some ⟨w4.heap.size, 0, none⟩) c3 1 os [id] _ ho5 hf hm hrow (by unfold maxLen; simp)).mono ?_
      rintro e w6 ⟨L, ha, v6, rfl, o6, hb6⟩
      have hmem : id ∈ reachL os L := by
        have hl1 := one_links hID.1 hID.2
        rcases ha with ⟨h1, h2⟩ | ⟨h1, _⟩
        · exact (mem_reach HST.out hl1 h2).2 ⟨.base (by simp), isIn_iff.2 ⟨o, HO.out, HID.out⟩⟩
        · rw [HST.out, hl1] at h1; cases h1
      have HT : Hid (decide (id ∈ reachL os L) = true) := decide_eq_true hmem
      have hrl := (Ans.few (os := os) (L := L)).1
      clear hmem ha
      obtain ⟨R, hR⟩ : ∃ R, reachL os L = R := ⟨_, rfl⟩
      rw [hR] at o6 HT hrl
      clear hR
      obtain ⟨A6, c6, rfl, r6⟩ := o6.form
      go_wp2_with (go_at_call 17; refine (hasInt_any _ A6 c6 R id _ r6 (by unfold maxLen; omega)).mono ?_; rintro e w' ⟨rfl, rfl⟩; rw [HT.out])
      go_ret
      exact .mk_ (b5.trans (hb6.mono b5.size))
theorem FnReachSelf_any (A : Option Addr) (c : Nat) (bs : List Int) (A' : Option Addr) (c' : Nat) (bs' : List Int) (w : World) (f1 : Row w w.heap.size A (bs.map (Value.int .u8))) (f2 : bs.length ≤ c) (f3 : c ≤ maxLen) (f4 : ∀ n ∈ bs, 0 ≤ n ∧ n < 256) (g1 : Row w w.heap.size A' (bs'.map (Value.int .u8))) (g2 : bs'.length ≤ c') (g3 : c' ≤ maxLen) (g4 : ∀ n ∈ bs', 0 ≤ n ∧ n < 256) :
    Calls Try.prog 7 #[.slice A bs.length c, .slice A' bs'.length c'] w (Ret (.bool true) w) := by
  by_cases hl : bs.length ≤ 1048576 ∧ bs'.length ≤ 1048576
  · exact FnReachSelf_yes A c bs A' c' bs' w ⟨f1, f2, f3, f4⟩ ⟨g1, g2, g3, g4⟩ hl.1 hl.2
  · exact FnReachSelf_no A c bs A' c' bs' w ⟨f1, f2, f3, f4⟩ ⟨g1, g2, g3, g4⟩ hl
end Go.Proofs.Ytfdilnibhcnkgaa
