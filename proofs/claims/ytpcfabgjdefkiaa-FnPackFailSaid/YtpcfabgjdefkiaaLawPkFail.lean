/-
  Walk of the law that only invalid objects cannot be packed.
-/
import Derived.Test.YtpcfabgjdefkiaaPkC
namespace Go.Proofs.Ytpcfabgjdefkiaa
open Go.RowKit Wo Pu

def gB (list : List Ob) (k : Nat) : Bool := decide (list.length ≤ 16) && (list.take k).all vOb
theorem gB_zero (list : List Ob) : gB list 0 = decide ((list.length : Int) ≤ 16) := by
  unfold gB
  rw [List.take_zero, List.all_nil, Bool.and_true]
  exact decide_eq_decide.2 (by omega)
theorem gB_succ {list : List Ob} {k : Nat} (h : k < list.length) : gB list (k + 1) = (gB list k && vOb list[k]) := by
  unfold gB
  rw [List.take_succ_eq_append_getElem h, List.all_append, List.all_cons, List.all_nil, Bool.and_true, Bool.and_assoc]
theorem gB_end (list : List Ob) : gB list list.length = makeB list := by
  unfold gB makeB
  rw [List.take_length]

theorem FnPackFail_no (A : Option Addr) (c : Nat) (bs : List Int) (w : World) (h : Code_ w A c bs) (hl : ¬ bs.length ≤ 1048576) :
    Calls Try.prog 7 #[.slice A bs.length c] w (Ret (.bool true) w) := by
  have hc := h.2.1
  have hm := h.2.2.1
  unfold maxLen at hm
  go_enter Try.func7, Try.ntmps7
  go_wp2
  go_ret
  exact .mk_ (Below.refl _ _)
set_option maxHeartbeats 4000000 in
theorem FnPackFail_yes (A : Option Addr) (c : Nat) (bs : List Int) (w : World) (h : Code_ w A c bs) (hl : bs.length ≤ 1048576) :
    Calls Try.prog 7 #[.slice A bs.length c] w (Ret (.bool true) w) := by
  go_enter Try.func7, Try.ntmps7
  go_wp2_with fail
  refine (DrawPackMake_any A c bs _ h).mono ?_
  rintro e w1 ⟨A1, c1, list, rfl, h1, hc1, hn17, hmild, b1⟩
  have hf := hmild.fit
  have hn : list.length ≤ 1048576 := by omega
  have HMILD := hid hmild
  clear hmild
  go_wp2_with fail
  refine (implPackMake_any A1 c1 list w1 h1 hn hf).mono ?_
  rintro e w2 ⟨v2, rfl, o2, bb2⟩
  obtain ⟨A2, c2, rfl, e2, hc2⟩ := o2.form
  have h2 := (h1.below bb2 (Nat.le_refl _)).more bb2.size
  have b2 := b1.trans (bb2.mono b1.size)
  clear h1 b1 bb2 o2
  go_wp2_with fail
  refine (specPackMake_any A1 c1 list w2 h2 hn hf).mono ?_
  rintro e w3 ⟨v3, rfl, o3, bb3⟩
  obtain ⟨A3, c3, rfl, e3, hc3⟩ := o3.form
  have h3 := (h2.below bb3 (Nat.le_refl _)).more bb3.size
  have e23 := (e2.below bb3 (Nat.le_refl _)).more bb3.size
  have b3 := b2.trans (bb3.mono b2.size)
  clear h2 b2 bb3 o3 e2
  have pl : (packM list).length ≤ 1048576 := by have := packM_length (list := list); omega
  have same := fun (x : World) (hx : Below w3.heap.size w3 x) => samePack_same A2 A3 c2 c3 (packM list) x ((e23.below hx (Nat.le_refl _)).more hx.size) ((e3.below hx (Nat.le_refl _)).more hx.size) pl (packM_few list)
  have HSM := hid same
  clear same hc3
  go_wp2_with fail
  refine (HSM.out w3 (Below.refl _ _)).mono ?_
  rintro e w4 ⟨rfl, bb4⟩
  have b4 := b3.trans (bb4.mono b3.size)
  have h4 := (h3.below bb4 (Nat.le_refl _)).more bb4.size
  have e4 := (e23.below bb4 (Nat.le_refl _)).more bb4.size
  clear h3 e23 e3 b3
  obtain ⟨mk, hmk⟩ : ∃ mk, makeB list = mk := ⟨_, rfl⟩
  have HMK := hid hmk
  rw [hmk]
  clear hmk HSM bb4 e4 pl hc2
  obtain ⟨g0, hg0⟩ : ∃ b, decide ((list.length : Int) ≤ 16) = b := ⟨_, rfl⟩
  have HG0 : Hid (gB list 0 = g0) := by show _ = _; rw [gB_zero, hg0]
  go_wp2_with fail
  clear hg0
  go_loopw [8, 9] (fun v i wr => ∃ (k : Nat) (b : Bool), k ≤ list.length ∧ i = .int .i64 k ∧ v = .bool b ∧ Hid (gB list k = b) ∧ Below w4.heap.size w4 wr) (fun _ i _ => list.length - (intOf i).toNat)
  case atStart => exact ⟨0, g0, Nat.zero_le _, rfl, rfl, HG0, Below.refl _ _⟩
  case round =>
    obtain ⟨k, b, hk, rfl, rfl, HB, hb⟩ := hrel
    by_cases hlt : k < list.length
    · obtain ⟨o, ad, A', c', ho, rfl, ha, k0, k1, k2, k3⟩ := (h4.below hb (Nat.le_refl _)).obj hlt
      have hfo := hf o (by rw [← ho]; exact List.getElem_mem hlt)
      have HS : Hid (gB list (k + 1) = (b && vOb o)) := by show _ = _; rw [gB_succ hlt, HB.out, ho]
      have i0 : 0 ≤ (k : Int) := by omega
      have i1 : (k : Int) < (list.length : Int) := by omega
      have hz := hb.size
      clear ho HB
      cases b
      · go_wp2_with fail
        go_roundw
        case rel => exact ⟨k + 1, false, by omega, by go_num, rfl, by show _ = _; rw [HS.out]; rfl, hb⟩
        case measure => simp [intOf]; omega
      · obtain ⟨v, hv⟩ : ∃ v, vOb o = v := ⟨_, rfl⟩
        have HV : Hid (gB list (k + 1) = v) := by show _ = _; rw [HS.out, Bool.true_and, hv]
        clear HS
        go_wp2_with fail
        refine (implObjectValid_val v w4.heap.size A' c' o wr hv k3 hz hfo.1 hfo.2).mono ?_
        rintro e w5 ⟨rfl, hb5⟩
        go_wp2
        go_roundw
        case rel => exact ⟨k + 1, v, by omega, by go_num, rfl, HV, hb.trans (hb5.mono hz)⟩
        case measure => simp [intOf]; omega
    · have hk' : k = list.length := by omega
      subst hk'
      have hbm : mk = b := by rw [← HMK.out, ← gB_end, HB.out]
      subst hbm
      go_wp2
      go_ret
      exact .mk_ (b4.trans (hb.mono b4.size))
theorem FnPackFail_any (A : Option Addr) (c : Nat) (bs : List Int) (w : World) (f1 : Row w w.heap.size A (bs.map (Value.int .u8))) (f2 : bs.length ≤ c) (f3 : c ≤ maxLen) (f4 : ∀ n ∈ bs, 0 ≤ n ∧ n < 256) :
    Calls Try.prog 7 #[.slice A bs.length c] w (Ret (.bool true) w) := by
  by_cases hl : bs.length ≤ 1048576
  · exact FnPackFail_yes A c bs w ⟨f1, f2, f3, f4⟩ hl
  · exact FnPackFail_no A c bs w ⟨f1, f2, f3, f4⟩ hl
end Go.Proofs.Ytpcfabgjdefkiaa
