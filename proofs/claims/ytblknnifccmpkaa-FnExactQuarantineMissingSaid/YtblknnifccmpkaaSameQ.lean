/-
  Walks: the laws' own comparisons of numbers, objects and quarantines.
-/
import Derived.Test.YtblknnifccmpkaaG7C
namespace Go.Proofs.Ytblknnifccmpkaa
open Go.RowKit Wo Pu Qu

set_option maxHeartbeats 1000000 in
theorem sameIntsQ (B C : Nat) (A A' : Option Addr) (c c' : Nat) (zs : List Int) (w : World) (hr : Row w B A (ints zs)) (hr' : Row w C A' (ints zs)) (hm : zs.length ≤ maxLen) :
    Calls Try.prog 39 #[.slice A zs.length c, .slice A' zs.length c'] w (Quiet (.bool true) w) := by
  unfold maxLen at hm
  go_enter Try.func39, Try.ntmps39
  go_wp2
  go_loopw [5] (fun i wr => ∃ k : Nat, k ≤ zs.length ∧ i = .int .i64 k ∧ Dr w wr) (fun i _ => zs.length - (intOf i).toNat)
  case atStart => exact ⟨0, Nat.zero_le _, rfl, .refl _⟩
  case round =>
    obtain ⟨k, hk, rfl, HW⟩ := hrel
    by_cases hlt : k < zs.length
    · obtain ⟨ad, rfl, hb, hc⟩ := (HW.row hr).int_ hlt
      obtain ⟨ad', rfl, hb', hc'⟩ := (HW.row hr').int_ hlt
      go_wp2
      go_quiet (fail)
      go_wp2
      go_roundw
      case rel => exact ⟨k + 1, by omega, by go_num, HW.drewN _⟩
      case measure => simp [intOf]; omega
    · have hk' : k = zs.length := by omega
      subst hk'
      go_wp2
      go_ret
      exact HW.quiet _
theorem sameIntsQ_ret (B C : Nat) (A A' : Option Addr) (c c' : Nat) (zs : List Int) (w : World) (hr : Row w B A (ints zs)) (hr' : Row w C A' (ints zs)) (hm : zs.length ≤ maxLen) :
    Calls Try.prog 39 #[.slice A zs.length c, .slice A' zs.length c'] w (Ret (.bool true) w) :=
  (sameIntsQ B C A A' c c' zs w hr hr' hm).mono fun _ _ ⟨he, d, hd⟩ => ⟨he, by subst hd; exact Wo.Below.drewN (Below.refl _ _) d⟩
theorem sameObQ (A A' : Option Addr) (c c' : Nat) (o : Ob) (w : World) (B : Nat) (hr : Row w B A (ints o.zs)) (hr' : Row w B A' (ints o.zs)) (hB : B ≤ w.heap.size) (hm : o.zs.length ≤ maxLen) :
    Calls Try.prog 28 #[ob o.kd A o.zs.length c o.s, ob o.kd A' o.zs.length c' o.s] w (Ret (.bool true) w) := by
  unfold ob
  go_enter Try.func28, Try.ntmps28
  go_wp2_with fail
  refine (sameIntsQ B B A A' c c' o.zs _ ((hr.alloc hB _).alloc (by simp; omega) _) ((hr'.alloc hB _).alloc (by simp; omega) _) hm).mono ?_
  rintro e w1 ⟨rfl, d, rfl⟩
  go_wp2
  go_ret
  exact .mk_ (Wo.Below.drewN (((Below.refl _ _).alloc (Nat.le_refl _) _).alloc (by simp) _) _)
set_option maxHeartbeats 2000000 in
theorem sameObjectsQ (A A2 : Option Addr) (c c2 : Nat) (os : List Ob) (w : World) (h : Objs w w.heap.size A os) (h2 : Objs w w.heap.size A2 os) (hn : os.length ≤ 1048576) (hf : ∀ o ∈ os, o.zs.length ≤ 1048576) :
    Calls Try.prog 24 #[.slice A os.length c, .slice A2 os.length c2] w (Ret (.bool true) w) := by
  go_enter Try.func24, Try.ntmps24
  go_wp2
  go_loopw [5] (fun i wr => ∃ k : Nat, k ≤ os.length ∧ i = .int .i64 k ∧ Below w.heap.size w wr) (fun i _ => os.length - (intOf i).toNat)
  case atStart => exact ⟨0, Nat.zero_le _, rfl, Below.refl _ _⟩
  case round =>
    obtain ⟨k, hk, rfl, hb⟩ := hrel
    by_cases hlt : k < os.length
    · obtain ⟨o, ad, A', c', ho, rfl, ha1, g0, g1, g2, g3⟩ := (h.below hb (Nat.le_refl _)).obj hlt
      obtain ⟨o2, ad2, A2', c2', ho2, rfl, ha2, g20, g21, g22, g23⟩ := (h2.below hb (Nat.le_refl _)).obj hlt
      obtain rfl : o = o2 := by rw [← ho, ← ho2]
      have hmk : o.zs.length ≤ maxLen := by rw [← ho]; have := hf _ (List.getElem_mem hlt); unfold maxLen; omega
      have k0 : 0 ≤ (k : Int) := by omega
      have k1 : (k : Int) < (os.length : Int) := by omega
      have hz := hb.size
      have G0 := Later.cell g0 ha1
      have G1 := Later.cell (p := ⟨(ad.add (k * 3)).block, (ad.add (k * 3)).off + 1, none⟩) g1 ha1
      have G2 := Later.cell (p := ⟨(ad.add (k * 3)).block, (ad.add (k * 3)).off + 2, none⟩) g2 ha1
      have G3 := Later.cell g20 ha2
      have G4 := Later.cell (p := ⟨(ad2.add (k * 3)).block, (ad2.add (k * 3)).off + 1, none⟩) g21 ha2
      have G5 := Later.cell (p := ⟨(ad2.add (k * 3)).block, (ad2.add (k * 3)).off + 2, none⟩) g22 ha2
      clear ho ho2 g0 g1 g2 g20 g21 g22
      go_wp2_with fail
      refine wp_region_later w.heap.size (by kernel_rfl) (by kernel_rfl) ?_
      repeat (go_big_quiet_step ((go_at_call 28; exact Later.call hz _ (sameObQ A' A2' c' c2' o _ w.heap.size (g3.later _) (g23.later _) (Later.size hz _) hmk))))
      refine wpQuiet_nil ?_
      intro _ hw'
      obtain ⟨xx, hxx⟩ := hw'
      have hbx := xx.b
      subst hxx
      go_wp2
      go_roundw
      case rel => exact ⟨k + 1, by omega, by go_num, hb.trans hbx⟩
      case measure => simp [intOf]; omega
    · have hk' : k = os.length := by omega
      subst hk'
      go_wp2
      go_ret
      exact .mk_ hb
theorem ObjsQ.later {B : Nat} {W : World} {A : Option Addr} {os : List Ob} (h : Objs W B A os) (x : Later B W) : Objs x.w B A os := h.below x.h (Nat.le_refl _)
set_option maxRecDepth 100000 in
set_option maxHeartbeats 4000000 in
theorem sameQuarantine_is (v v' : Value) (q : Qr) (w : World) (h : Quar w w.heap.size v q) (h' : Quar w w.heap.size v' q) (hf : SmQ q) :
    Calls Try.prog 21 #[v, v'] w (Ret (.bool true) w) := by
  obtain ⟨A, c, A2, c2, rfl, hm0, -, ha0, -⟩ := h
  obtain ⟨A', c', A2', c2', rfl, hm0', -, ha0', -⟩ := h'
  obtain ⟨f1, f2, f3, f4⟩ := hf
  unfold qv
  go_enter Try.func21, Try.ntmps21
  obtain ⟨w1, hw1⟩ : ∃ w1, (w.alloc (.cells #[.slice A q.m.length c, .slice A2 q.rs.length c2] 26)).alloc (.cells #[.slice A' q.m.length c', .slice A2' q.rs.length c2'] 26) = w1 := ⟨_, rfl⟩
  have x0 := (BlkQ.new_ w 26 (.slice A q.m.length c) (.slice A2 q.rs.length c2)).alloc (.cells #[.slice A' q.m.length c', .slice A2' q.rs.length c2'] 26)
  have x1 := BlkQ.new_ (w.alloc (.cells #[.slice A q.m.length c, .slice A2 q.rs.length c2] 26)) 26 (.slice A' q.m.length c') (.slice A2' q.rs.length c2')
  have b1 := ((Below.refl w.heap.size w).alloc (Nat.le_refl _) (.cells #[.slice A q.m.length c, .slice A2 q.rs.length c2] 26)).alloc (by simp) (.cells #[.slice A' q.m.length c', .slice A2' q.rs.length c2'] 26)
  rw [World.size_alloc] at x1
  rw [hw1] at x0 x1 b1
  obtain ⟨y0, y1, -⟩ := id x0.reads
  obtain ⟨y2, y3, -⟩ := id x1.reads
  have z1 := b1.size
  go_wp2_with fail
  refine (sameObjectsQ A A' c c' q.m w1 ((hm0.below b1 (Nat.le_refl _)).more z1) ((hm0'.below b1 (Nat.le_refl _)).more z1) f2 f1).mono ?_
  rintro e w2 ⟨rfl, hb2⟩
  have b2 := b1.trans (hb2.mono z1)
  have u0 := x0.later hb2
  have u1 := x1.later hb2
  obtain ⟨r0, r1, -⟩ := id u0.reads
  obtain ⟨r2, r3, -⟩ := id u1.reads
  clear hw1 x0 x1 y0 y1 y2 y3 hb2 b1 z1
  go_wp2_with fail
  go_loopw [5] (fun i wr => ∃ k : Nat, k ≤ q.rs.length ∧ i = .int .i64 k ∧ Below w2.heap.size w2 wr) (fun i _ => q.rs.length - (intOf i).toNat)
  case atStart => exact ⟨0, Nat.zero_le _, rfl, Below.refl _ _⟩
  case round =>
    obtain ⟨k, hk, rfl, hb⟩ := hrel
    have hz := hb.size
    have b3 := b2.trans (hb.mono b2.size)
    have v0 := u0.below hb u0.lt
    have v1 := u1.below hb u1.lt
    obtain ⟨-, s1, -⟩ := id v0.reads
    obtain ⟨-, s3, -⟩ := id v1.reads
    clear r0 r1 r2 r3
    by_cases hlt : k < q.rs.length
    · obtain ⟨a, ad, A5, c5, ho, rfl, ha1, g0, g1, -, g3⟩ := ((ha0.below b3 (Nat.le_refl _)).more b3.size).ar hlt
      obtain ⟨a', ad', A6, c6, ho', rfl, ha2, g20, g21, -, g23⟩ := ((ha0'.below b3 (Nat.le_refl _)).more b3.size).ar hlt
      obtain rfl : a = a' := by rw [← ho, ← ho']
      have hfa : (∀ o ∈ a.os, o.zs.length ≤ 1048576) ∧ a.os.length ≤ 1048576 := by rw [← ho]; exact f4 _ (List.getElem_mem hlt)
      have k0 : 0 ≤ (k : Int) := by omega
      have k1 : (k : Int) < (q.rs.length : Int) := by omega
      have G0 := Later.cell g0 ha1
      have G1 := Later.cell (p := ⟨(ad.add (k * 2)).block, (ad.add (k * 2)).off + 1, none⟩) g1 ha1
      have G3 := Later.cell g20 ha2
      have G4 := Later.cell (p := ⟨(ad'.add (k * 2)).block, (ad'.add (k * 2)).off + 1, none⟩) g21 ha2
      have G5 := Later.cell s1 v0.lt
      have G6 := Later.cell s3 v1.lt
      have CS : Hid (∀ x, Objs x x.heap.size A5 a.os → Objs x x.heap.size A6 a.os → Calls Try.prog 24 #[.slice A5 a.os.length c5, .slice A6 a.os.length c6] x (Ret (.bool true) x)) := fun x h1 h2 => sameObjectsQ A5 A6 c5 c6 a.os x h1 h2 hfa.2 hfa.1
      clear ho ho' g0 g1 g20 g21 v0 v1
      go_wp2_with fail
      clear s1 s3
      refine wp_region_later wr.heap.size (by kernel_rfl) (by kernel_rfl) ?_
      repeat (go_big_quiet_step ((go_at_call 24; exact Later.call (Nat.le_refl _) _ (CS.out _ ((ObjsQ.later g3 _).more (Later.size (Nat.le_refl _) _)) ((ObjsQ.later g23 _).more (Later.size (Nat.le_refl _) _))))))
      refine wpQuiet_nil ?_
      intro _ hw'
      obtain ⟨xx, hxx⟩ := hw'
      have hbx := xx.b
      subst hxx
      go_wp2
      go_roundw
      case rel => exact ⟨k + 1, by omega, by go_num, hb.trans (hbx.mono hz)⟩
      case measure => simp [intOf]; omega
    · have hk' : k = q.rs.length := by omega
      subst hk'
      go_wp2
      go_ret
      exact .mk_ b3
end Go.Proofs.Ytblknnifccmpkaa
