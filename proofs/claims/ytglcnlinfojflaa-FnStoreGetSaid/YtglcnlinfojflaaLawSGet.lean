/-
  Walk of the law on what StoreGet finds in drawn stores.
-/
import Derived.Test.YtglcnlinfojflaaDrawSg
import Derived.Test.YtglcnlinfojflaaLawGet
import Derived.Test.YtglcnlinfojflaaLawsOb
namespace Go.Proofs.Ytglcnlinfojflaa
open Go.RowKit Wo Pu

set_option maxHeartbeats 1000000 in
theorem sameInts_same (B C : Nat) (A A' : Option Addr) (c c' : Nat) (zs : List Int) (w : World) (hr : Row w B A (ints zs)) (hr' : Row w C A' (ints zs)) (hm : zs.length ≤ maxLen) :
    Calls Try.prog 63 #[.slice A zs.length c, .slice A' zs.length c'] w (Quiet (.bool true) w) := by
  unfold maxLen at hm
  go_enter Try.func63, Try.ntmps63
  go_wp2
  go_loopw [5] (fun i wr => ∃ k : Nat, k ≤ zs.length ∧ i = .int .i64 k ∧ Dr w wr) (fun i _ => zs.length - (intOf i).toNat)
  case atStart => exact ⟨0, Nat.zero_le _, rfl, .refl _⟩
  case round =>
    obtain ⟨k, hk, rfl, HW⟩ := hrel
    by_cases hlt : k < zs.length
    · obtain ⟨ad, rfl, hb, hc⟩ := (HW.row hr).int_ hlt
      obtain ⟨ad', rfl, hb', hc'⟩ := (HW.row hr').int_ hlt
      go_wp2
      go_quiet (fail)
      go_wp2
      go_roundw
      case rel => exact ⟨k + 1, by omega, by go_num, HW.drewN _⟩
      case measure => simp [intOf]; omega
    · have hk' : k = zs.length := by omega
      subst hk'
      go_wp2
      go_ret
      exact HW.quiet _

theorem sameObject_same (B C : Nat) (A A' : Option Addr) (c c' : Nat) (kd : Int) (zs : List Int) (s : ByteArray) (w : World) (hr : Row w B A (ints zs)) (hr' : Row w C A' (ints zs)) (hB : B ≤ w.heap.size) (hC : C ≤ w.heap.size) (hm : zs.length ≤ maxLen) :
    Calls Try.prog 38 #[ob kd A zs.length c s, ob kd A' zs.length c' s] w (Ret (.bool true) w) := by
  unfold ob
  go_enter Try.func38, Try.ntmps38
  go_wp2_with fail
  refine (sameInts_same B C A A' c c' zs _ ((hr.alloc hB _).alloc (by simp; omega) _) ((hr'.alloc hC _).alloc (by simp; omega) _) hm).mono ?_
  rintro e w1 ⟨rfl, d, rfl⟩
  go_wp2
  go_ret
  exact .mk_ (Wo.Below.drewN (((Below.refl _ _).alloc (Nat.le_refl _) _).alloc (by simp) _) _)

theorem fnd_is {os : List Ob} {x : Int} {r : Nat} (h : (fndO os x r).isSome = true) : iOb ((fndO os x r).getD ob0) = x ∧ (fndO os x r).getD ob0 ∈ os := by
  unfold fndO at h ⊢
  split at h
  · rename_i hs
    rw [if_pos hs]
    by_cases hr : r < os.length
    · by_cases hi : iOb os[r] = x
      · simp [hr, Option.filter, hi]
      · simp [hr, Option.filter, hi] at h
    · simp [hr] at h
  · cases h

theorem FnStoreGet_no (A : Option Addr) (c : Nat) (bs : List Int) (w : World) (h : Code_ w A c bs) (hl : ¬ bs.length ≤ 1048576) :
    Calls Try.prog 13 #[.slice A bs.length c] w (Ret (.bool true) w) := by
  have hc := h.2.1
  have hm := h.2.2.1
  unfold maxLen at hm
  go_enter Try.func13, Try.ntmps13
  go_wp2
  go_ret
  exact .mk_ (Below.refl _ _)
set_option maxHeartbeats 4000000 in
theorem FnStoreGet_yes (A : Option Addr) (c : Nat) (bs : List Int) (w : World) (h : Code_ w A c bs) (hl : bs.length ≤ 1048576) :
    Calls Try.prog 13 #[.slice A bs.length c] w (Ret (.bool true) w) := by
  go_enter Try.func13, Try.ntmps13
  go_wp2_with fail
  refine (DrawStoreGet_any A c bs _ h).mono ?_
  rintro e w1 ⟨v, os, x, rfl, h1, hl1, hv, x0, x1, b1⟩
  obtain ⟨A3, c3, rfl, ho, _⟩ := h1.form2
  obtain ⟨r, hrr⟩ := at_ex os x
  have HR : Hid (At_ os x r) := hrr
  have hf := fit_of hv
  have hn : os.length ≤ maxLen := by unfold maxLen; omega
  have hlen : ((fndO os x r).getD ob0).zs.length ≤ 1048576 := fnd_len (fun p hp => links_few (hv p hp))
  have his : (fndO os x r).isSome = true → iOb ((fndO os x r).getD ob0) = x ∧ vOb ((fndO os x r).getD ob0) = true := fun e => ⟨(fnd_is e).1, hv _ (fnd_is e).2⟩
  have specG := fun A c w h => specStoreGet_Any A c os x r w h hf hn HR
  have implG := fun A c w h => implStoreGet_Any A c os x r w h hf hn HR
  generalize ho' : (fndO os x r).getD ob0 = o at *
  generalize hb : (fndO os x r).isSome = b at *
  have HO := hid ho'
  have HB := hid hb
  clear ho' hb hrr
  go_wp2_with fail
  refine (implG A3 c3 w1 ho).mono ?_
  rintro e w2 hG
  obtain ⟨A5, c5, rfl, o2, hb2⟩ := Got.of_ hG HO.out HB.out
  unfold ob
  have b2 := b1.trans (hb2.mono b1.size)
  have h2 := h1.below hb2
  clear hG hb2 h1 ho
  go_wp2_with fail
  obtain ⟨p2, d2, z2⟩ := putOb_facts w2 o A5 c5
  have h3 := h2.below d2
  have o3 := o2.below d2 (Nat.le_refl _)
  have b3 := b2.trans (d2.mono b2.size)
  refine (specG A3 c3 (putOb w2 o A5 c5) h3.objs).mono ?_
  rintro e w4 hG
  obtain ⟨A6, c6, rfl, o4, hb4⟩ := Got.of_ hG HO.out HB.out
  unfold ob
  have b4 := b3.trans (hb4.mono b3.size)
  have p4 := p2.below hb4 p2.lt
  have o4' := o3.below hb4 (Nat.le_refl _)
  clear hG hb4 p2 d2 h3 o3 o2 h2 b2 b3
  obtain ⟨p5, d5, z5⟩ := putOb_facts w4 o A6 c6
  have p5' := p4.below d5 p4.lt
  have o5 := o4.below d5 (Nat.le_refl _)
  have o5' := o4'.below d5 (Nat.le_refl _)
  have b5 := b4.trans (d5.mono b4.size)
  obtain ⟨y0, y1, y2, -⟩ := id p5'.reads
  obtain ⟨k0, k1, k2, -⟩ := id p5.reads
  unfold putOb at y0 y1 y2 k0 k1 k2
  clear d5 o4 o4' p4 b4
  have hmx : o.zs.length ≤ maxLen := by unfold maxLen; omega
  go_wp2_with fail
  refine (sameObject_same _ _ A5 A6 c5 c6 o.kd o.zs o.s (putOb w4 o A6 c6) o5'.row o5.row (Nat.le_refl _) (Nat.le_refl _) hmx).mono ?_
  rintro e w6 ⟨rfl, hb6⟩
  have b6 := b5.trans (hb6.mono b5.size)
  have p6 := p5.below hb6 p5.lt
  have p6' := p5'.below hb6 p5'.lt
  have o6 := o5.below hb6 (Nat.le_refl _)
  have o6' := o5'.below hb6 (Nat.le_refl _)
  clear hb6 p5 p5' o5 o5' b5 y0 y1 y2 k0 k1 k2
  obtain ⟨y0, y1, y2, -⟩ := id p6'.reads
  obtain ⟨k0, k1, k2, -⟩ := id p6.reads
  cases b
  · go_wp2_with fail
    refine (sameObject_same _ _ A5 A6 c5 c6 o.kd o.zs o.s w6 o6'.row o6.row (Nat.le_refl _) (Nat.le_refl _) hmx).mono ?_
    rintro e w7 ⟨rfl, hb7⟩
    go_wp2
    go_ret
    exact .mk_ (b6.trans (hb7.mono b6.size))
  · obtain ⟨hi, hvo⟩ := his rfl
    have hs := (vOb_small hvo).2
    have hs' : o.s.size ≤ maxLen := by unfold maxLen; omega
    go_wp2_with fail
    refine (implObjectId_any _ A5 c5 o.kd o.zs o.s w6 o6'.row (Nat.le_refl _) hmx hs').mono ?_
    rintro e w7 ⟨rfl, hb7⟩
    have p7 := p6'.below hb7 p6'.lt
    have o7 := o6'.below hb7 (Nat.le_refl _)
    have b7 := b6.trans (hb7.mono b6.size)
    have hid0 : oid o.kd o.zs o.s.data.toList = x := hi
    rw [hid0]
    clear hid0 hi y0 y1 y2 k0 k1 k2
    obtain ⟨y0, y1, y2, -⟩ := id p7.reads
    go_wp2_with fail
    refine (implObjectValid_any _ A5 c5 o.kd o.zs o.s w7 o7.row (Nat.le_refl _) hmx hs').mono ?_
    rintro e w8 ⟨rfl, hb8⟩
    have hv0 : vldB o.kd o.zs o.s.size = true := hvo
    rw [hv0]
    clear hv0 hvo
    go_wp2
    go_ret
    exact .mk_ (b7.trans (hb8.mono b7.size))
theorem FnStoreGet_any (A : Option Addr) (c : Nat) (bs : List Int) (w : World) (f1 : Row w w.heap.size A (bs.map (Value.int .u8))) (f2 : bs.length ≤ c) (f3 : c ≤ maxLen) (f4 : ∀ n ∈ bs, 0 ≤ n ∧ n < 256) :
    Calls Try.prog 13 #[.slice A bs.length c] w (Ret (.bool true) w) := by
  by_cases hl : bs.length ≤ 1048576
  · exact FnStoreGet_yes A c bs w ⟨f1, f2, f3, f4⟩ hl
  · exact FnStoreGet_no A c bs w ⟨f1, f2, f3, f4⟩ hl
end Go.Proofs.Ytglcnlinfojflaa
