/-
  Walk of the law on sums of sizes.
-/
import Derived.Test.YtkflpgdbookdhabDrawD
import Derived.IntWalk
namespace Go.Proofs.Ytkflpgdbookdhab
open Go.RowKit Wo Pu

theorem cut_len {os : List Op2} {k : Nat} (hk : k ≤ os.length) : (os.take k).length = k := by rw [List.length_take]; omega
theorem cut_len2 (os : List Op2) (k : Nat) : (os.drop k).length = os.length - k := List.length_drop
theorem Tiny.take {os : List Op2} (h : Tiny os) (k : Nat) : Tiny (os.take k) := fun o ho => h o (List.mem_of_mem_take ho)
theorem Tiny.drop {os : List Op2} (h : Tiny os) (k : Nat) : Tiny (os.drop k) := fun o ho => h o (List.mem_of_mem_drop ho)

theorem FnSizeSum_no (A : Option Addr) (c : Nat) (bs : List Int) (A' : Option Addr) (c' : Nat) (bs' : List Int) (w : World) (h : Code_ w A c bs) (h' : Code_ w A' c' bs') (hl : ¬ (bs.length ≤ 1048576 ∧ bs'.length ≤ 1048576)) :
    Calls Try.prog 12 #[.slice A bs.length c, .slice A' bs'.length c'] w (Ret (.bool true) w) := by
  have hc := h.2.1
  have hm := h.2.2.1
  have hc' := h'.2.1
  have hm' := h'.2.2.1
  unfold maxLen at hm hm'
  by_cases h1 : bs.length ≤ 1048576
  · have h2 : ¬ bs'.length ≤ 1048576 := fun e => hl ⟨h1, e⟩
    clear hl
    go_enter Try.func12, Try.ntmps12
    go_wp2
    go_ret
    exact .mk_ (Below.refl _ _)
  · clear hl
    go_enter Try.func12, Try.ntmps12
    go_wp2
    go_ret
    exact .mk_ (Below.refl _ _)
set_option maxHeartbeats 400000 in
theorem FnSizeSum_yes (A : Option Addr) (c : Nat) (bs : List Int) (A' : Option Addr) (c' : Nat) (bs' : List Int) (w : World) (h : Code_ w A c bs) (_h' : Code_ w A' c' bs') (hl : bs.length ≤ 1048576) (hl' : bs'.length ≤ 1048576) :
    Calls Try.prog 12 #[.slice A bs.length c, .slice A' bs'.length c'] w (Ret (.bool true) w) := by
  go_enter Try.func12, Try.ntmps12
  go_wp2_with fail
  refine (DrawDeltaSize_any A c bs _ h).mono ?_
  rintro e w1 ⟨A1, c1, os, rfl, hr, hc, hl3, hT, b1⟩
  have hsum := hT.sum
  have ht : tsz os os.length ≤ 1048576 := by omega
  have hn : os.length ≤ 1048576 := by omega
  go_wp2_with fail
  refine (implDeltaSize_any A1 c1 os _ hr hn ht).mono ?_
  rintro e w2 ⟨rfl, b2⟩
  have r2 := (hr.below b2 (Nat.le_refl _)).more b2.size
  have b2' := b1.trans (b2.mono b1.size)
  clear b1 b2 hr
  go_wp2_with fail
  refine (specDeltaSize_any A1 c1 os _ r2 hn ht).mono ?_
  rintro e w3 ⟨rfl, rfl⟩
  obtain ⟨k, hk⟩ : ∃ k : Nat, Hid (k = bs'.length % (os.length + 1)) := ⟨_, rfl⟩
  have hk3 : k ≤ os.length := by rw [hk.out]; have := Nat.mod_lt bs'.length (show 0 < os.length + 1 by omega); omega
  have ek : ((bs'.length : Nat) : Int) % ((os.length : Int) + 1) = (k : Int) := by rw [hk.out, Int.natCast_emod, Int.natCast_add]; rfl
  obtain ⟨p, hp⟩ : ∃ p, Hid (p = dsz (os.take k)) := ⟨_, rfl⟩
  obtain ⟨q, hq⟩ : ∃ q, Hid (q = dsz (os.drop k)) := ⟨_, rfl⟩
  have hpq : Hid (dsz os = p + q) := by show dsz os = p + q; rw [hp.out, hq.out, dsz_cut]
  have hd0 : dsz os ≤ 40 := by unfold dsz; omega
  rw [hpq.out] at hd0
  rw [hpq.out]
  have C1 : ∀ (x : World), Row x x.heap.size A1 (opsV (os.take k)) → Calls Try.prog 21 #[.slice A1 k c1] x (Ret (.int .i64 p) x) := fun x hx => by
    have := implDeltaSize_any A1 c1 (os.take k) x hx (by rw [cut_len hk3]; omega) (by have h1 := (hT.take k).sum; have h2 := cut_len hk3; omega)
    rwa [cut_len hk3, ← hp.out] at this
  have C2 : ∀ (x : World) (B : Option Addr) (cc : Nat), Row x x.heap.size B (opsV (os.drop k)) → Calls Try.prog 21 #[.slice B (os.length - k) cc] x (Ret (.int .i64 q) x) := fun x B cc hx => by
    have := implDeltaSize_any B cc (os.drop k) x hx (by rw [cut_len2]; omega) (by have h1 := (hT.drop k).sum; have h2 := cut_len2 os k; omega)
    rwa [cut_len2, ← hq.out] at this
  have HW : Hid (IntKind.i64.wrap ((p : Int) + (q : Int)) = (p : Int) + (q : Int)) := IntWalk.i64_in _ (by omega)
  have EK := hid ek
  have D1 := hid C1
  have D2 := hid C2
  clear ek C1 C2 hT hsum ht
  have k0 : 0 ≤ (k : Int) := by omega
  have k1 : (k : Int) ≤ (os.length : Int) := by omega
  have k2 : (os.length : Int) ≤ (c1 : Int) := by omega
  have k3 : (k : Int) ≤ (c1 : Int) := by omega
  have rk : Row w2 w2.heap.size A1 (opsV (os.take k)) := by rw [opsV_take]; exact r2.take_ _
  by_cases hck : c1 = k
  · have rd : ∀ B, Row w2 w2.heap.size B (opsV (os.drop k)) := fun B => by
      rw [List.drop_of_length_le (by omega)]; exact .inl rfl
    obtain rfl : k = os.length := by omega
    obtain rfl := hck
    go_wp2_with fail
    rw [EK.out]
    have C1 := D1.out
    have C2 := D2.out
    have hw := HW.out
    clear D1 D2 HW
    have C3 : ∀ x, Row x x.heap.size A1 (opsV (os.drop os.length)) → Calls Try.prog 21 #[.slice A1 0 0] x (Ret (.int .i64 q) x) := fun x hx => by have := C2 x A1 0 hx; rwa [Nat.sub_self] at this
    clear C2
    have rd1 := rd A1
    refine wp_region_later w2.heap.size (by kernel_rfl) (by kernel_rfl) ?_
    repeat (go_big_quiet_step ((first | (go_at_call_of 21 (Value.slice A1 os.length os.length); exact Later.call (Nat.le_refl _) _ (C1 _ ((rk.later _).more (Later.size (Nat.le_refl _) _)))) | (go_at_call_of 21 (Value.slice A1 0 0); exact Later.call (Nat.le_refl _) _ (C3 _ ((rd1.later _).more (Later.size (Nat.le_refl _) _)))))))
    refine wpQuiet_nil ?_
    intro _ hw'
    obtain ⟨xx, hxx⟩ := hw'
    have hbx := xx.b
    subst hxx
    clear hw C1 C3
    go_wp2
    go_ret
    exact .bool_ (by simp) (b2'.trans (hbx.mono b2'.size))
  · have rd : Row w2 w2.heap.size (A1.map (·.add (k * 3))) (opsV (os.drop k)) := by rw [opsV_drop]; exact r2.cutA _
    go_wp2_with fail
    rw [EK.out]
    have C1 := D1.out
    have C2 := D2.out
    have hw := HW.out
    clear D1 D2 HW
    refine wp_region_later w2.heap.size (by kernel_rfl) (by kernel_rfl) ?_
    repeat (go_big_quiet_step ((first | (go_at_call_of 21 (Value.slice A1 k c1); exact Later.call (Nat.le_refl _) _ (C1 _ ((rk.later _).more (Later.size (Nat.le_refl _) _)))) | (go_at_call_of 21 (Value.slice (Option.map (fun x => x.add (k * 3)) A1) (os.length - k) (c1 - k)); exact Later.call (Nat.le_refl _) _ (C2 _ _ _ ((rd.later _).more (Later.size (Nat.le_refl _) _)))))))
    refine wpQuiet_nil ?_
    intro _ hw'
    obtain ⟨xx, hxx⟩ := hw'
    have hbx := xx.b
    subst hxx
    clear hw C1 C2
    go_wp2
    go_ret
    exact .bool_ (by simp) (b2'.trans (hbx.mono b2'.size))
theorem FnSizeSum_any (A : Option Addr) (c : Nat) (bs : List Int) (A' : Option Addr) (c' : Nat) (bs' : List Int) (w : World) (f1 : Row w w.heap.size A (bs.map (Value.int .u8))) (f2 : bs.length ≤ c) (f3 : c ≤ maxLen) (f4 : ∀ n ∈ bs, 0 ≤ n ∧ n < 256) (g1 : Row w w.heap.size A' (bs'.map (Value.int .u8))) (g2 : bs'.length ≤ c') (g3 : c' ≤ maxLen) (g4 : ∀ n ∈ bs', 0 ≤ n ∧ n < 256) :
    Calls Try.prog 12 #[.slice A bs.length c, .slice A' bs'.length c'] w (Ret (.bool true) w) := by
  by_cases hl : bs.length ≤ 1048576 ∧ bs'.length ≤ 1048576
  · exact FnSizeSum_yes A c bs A' c' bs' w ⟨f1, f2, f3, f4⟩ ⟨g1, g2, g3, g4⟩ hl.1 hl.2
  · exact FnSizeSum_no A c bs A' c' bs' w ⟨f1, f2, f3, f4⟩ ⟨g1, g2, g3, g4⟩ hl
end Go.Proofs.Ytkflpgdbookdhab
