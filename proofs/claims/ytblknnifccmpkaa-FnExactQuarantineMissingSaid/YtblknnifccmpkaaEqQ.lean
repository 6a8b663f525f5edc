/-
  Walks: areas and quarantines compared by the laws' own helpers.
-/
import Derived.Test.YtblknnifccmpkaaG7E
import Derived.Test.YtblknnifccmpkaaSameQ
namespace Go.Proofs.Ytblknnifccmpkaa
open Go.RowKit Wo Pu Qu

set_option maxHeartbeats 2000000 in
theorem eqArea_same (A A' : Option Addr) (c c' : Nat) (a : Ar) (w : World) (h : Objs w w.heap.size A a.os) (h' : Objs w w.heap.size A' a.os) (hn : a.os.length ≤ 1048576) (hs : ∀ o ∈ a.os, o.zs.length ≤ 1048576) :
    Calls Try.prog 117 #[.agg #[.int .i64 a.t, .slice A a.os.length c], .agg #[.int .i64 a.t, .slice A' a.os.length c']] w (Ret (.bool true) w) := by
  go_enter Try.func117, Try.ntmps117
  obtain ⟨w1, hw1⟩ : ∃ w1, (w.alloc (.cells #[.int .i64 a.t, .slice A a.os.length c] 84)).alloc (.cells #[.int .i64 a.t, .slice A' a.os.length c'] 84) = w1 := ⟨_, rfl⟩
  have x0 := (BlkQ.new_ w 84 (.int .i64 a.t) (.slice A a.os.length c)).alloc (.cells #[.int .i64 a.t, .slice A' a.os.length c'] 84)
  have x1 := BlkQ.new_ (w.alloc (.cells #[.int .i64 a.t, .slice A a.os.length c] 84)) 84 (.int .i64 a.t) (.slice A' a.os.length c')
  have b1 := ((Below.refl w.heap.size w).alloc (Nat.le_refl _) (.cells #[.int .i64 a.t, .slice A a.os.length c] 84)).alloc (by simp) (.cells #[.int .i64 a.t, .slice A' a.os.length c'] 84)
  rw [World.size_alloc] at x1
  rw [hw1] at x0 x1 b1
  obtain ⟨y0, y1, -⟩ := id x0.reads
  obtain ⟨y2, y3, -⟩ := id x1.reads
  have z1 := b1.size
  go_wp2_with fail
  refine (eqObjectS_same A A' c c' a.os w1 ((h.below b1 (Nat.le_refl _)).more z1) ((h'.below b1 (Nat.le_refl _)).more z1) hn hs).mono ?_
  rintro e w2 ⟨rfl, d⟩
  go_wp2
  go_ret
  exact .mk_ (b1.trans (d.mono z1))
set_option maxHeartbeats 4000000 in
theorem eqAreaS_same (A A' : Option Addr) (c c' : Nat) (rs : List Ar) (w : World) (h : Ars w w.heap.size A rs) (h' : Ars w w.heap.size A' rs) (hs : SmA rs) :
    Calls Try.prog 87 #[.slice A rs.length c, .slice A' rs.length c'] w (Ret (.bool true) w) := by
  obtain ⟨hn, hs⟩ := hs
  go_enter Try.func87, Try.ntmps87
  go_wp2
  go_loopw [5] (fun i wr => ∃ k : Nat, k ≤ rs.length ∧ i = .int .i64 k ∧ Below w.heap.size w wr) (fun i _ => rs.length - (intOf i).toNat)
  case atStart => exact ⟨0, Nat.zero_le _, rfl, Below.refl _ _⟩
  case round =>
    obtain ⟨k, hk, rfl, hb⟩ := hrel
    have hz := hb.size
    by_cases hlt : k < rs.length
    · obtain ⟨a, ad, A5, c5, ho, rfl, ha1, g0, g1, -, g3⟩ := ((h.below hb (Nat.le_refl _)).more hb.size).ar hlt
      obtain ⟨a', ad', A6, c6, ho', rfl, ha2, g20, g21, -, g23⟩ := ((h'.below hb (Nat.le_refl _)).more hb.size).ar hlt
      obtain rfl : a = a' := by rw [← ho, ← ho']
      have hfa : (∀ o ∈ a.os, o.zs.length ≤ 1048576) ∧ a.os.length ≤ 1048576 := by rw [← ho]; exact hs _ (List.getElem_mem hlt)
      have k0 : 0 ≤ (k : Int) := by omega
      have k1 : (k : Int) < (rs.length : Int) := by omega
      have G0 := Later.cell g0 ha1
      have G1 := Later.cell (p := ⟨(ad.add (k * 2)).block, (ad.add (k * 2)).off + 1, none⟩) g1 ha1
      have G3 := Later.cell g20 ha2
      have G4 := Later.cell (p := ⟨(ad'.add (k * 2)).block, (ad'.add (k * 2)).off + 1, none⟩) g21 ha2
      have CS : Hid (∀ x, Objs x x.heap.size A5 a.os → Objs x x.heap.size A6 a.os → Calls Try.prog 117 #[.agg #[.int .i64 a.t, .slice A5 a.os.length c5], .agg #[.int .i64 a.t, .slice A6 a.os.length c6]] x (Ret (.bool true) x)) := fun x h1 h2 => eqArea_same A5 A6 c5 c6 a x h1 h2 hfa.2 hfa.1
      clear ho ho' g0 g1 g20 g21
      go_wp2_with fail
      refine wp_region_later wr.heap.size (by kernel_rfl) (by kernel_rfl) ?_
      repeat (go_big_quiet_step ((go_at_call 117; exact Later.call (Nat.le_refl _) _ (CS.out _ ((ObjsQ.later g3 _).more (Later.size (Nat.le_refl _) _)) ((ObjsQ.later g23 _).more (Later.size (Nat.le_refl _) _))))))
      refine wpQuiet_nil ?_
      intro _ hw'
      obtain ⟨xx, hxx⟩ := hw'
      have hbx := xx.b
      subst hxx
      go_wp2
      go_roundw
      case rel => exact ⟨k + 1, by omega, by go_num, hb.trans (hbx.mono hz)⟩
      case measure => simp [intOf]; omega
    · have hk' : k = rs.length := by omega
      subst hk'
      go_wp2
      go_ret
      exact .mk_ hb
set_option maxHeartbeats 4000000 in
theorem eqQuarantine_same (v v' : Value) (q : Qr) (w : World) (h : Quar w w.heap.size v q) (h' : Quar w w.heap.size v' q) (hf : SmQ q) :
    Calls Try.prog 45 #[v, v'] w (Ret (.bool true) w) := by
  obtain ⟨A, c, A2, c2, rfl, hm0, -, ha0, -⟩ := h
  obtain ⟨A', c', A2', c2', rfl, hm0', -, ha0', -⟩ := h'
  obtain ⟨f1, f2, f3, f4⟩ := hf
  unfold qv
  go_enter Try.func45, Try.ntmps45
  obtain ⟨w1, hw1⟩ : ∃ w1, (w.alloc (.cells #[.slice A q.m.length c, .slice A2 q.rs.length c2] 26)).alloc (.cells #[.slice A' q.m.length c', .slice A2' q.rs.length c2'] 26) = w1 := ⟨_, rfl⟩
  have x0 := (BlkQ.new_ w 26 (.slice A q.m.length c) (.slice A2 q.rs.length c2)).alloc (.cells #[.slice A' q.m.length c', .slice A2' q.rs.length c2'] 26)
  have x1 := BlkQ.new_ (w.alloc (.cells #[.slice A q.m.length c, .slice A2 q.rs.length c2] 26)) 26 (.slice A' q.m.length c') (.slice A2' q.rs.length c2')
  have b1 := ((Below.refl w.heap.size w).alloc (Nat.le_refl _) (.cells #[.slice A q.m.length c, .slice A2 q.rs.length c2] 26)).alloc (by simp) (.cells #[.slice A' q.m.length c', .slice A2' q.rs.length c2'] 26)
  rw [World.size_alloc] at x1
  rw [hw1] at x0 x1 b1
  obtain ⟨y0, y1, -⟩ := id x0.reads
  obtain ⟨y2, y3, -⟩ := id x1.reads
  have z1 := b1.size
  go_wp2_with fail
  refine (eqObjectS_same A A' c c' q.m w1 ((hm0.below b1 (Nat.le_refl _)).more z1) ((hm0'.below b1 (Nat.le_refl _)).more z1) f2 f1).mono ?_
  rintro e w2 ⟨rfl, hb2⟩
  have b2 := b1.trans (hb2.mono z1)
  have u0 := x0.later hb2
  have u1 := x1.later hb2
  obtain ⟨r0, r1, -⟩ := id u0.reads
  obtain ⟨r2, r3, -⟩ := id u1.reads
  clear hw1 x0 x1 y0 y1 y2 y3 hb2 b1 z1
  go_wp2_with fail
  refine (eqAreaS_same A2 A2' c2 c2' q.rs w2 ((ha0.below b2 (Nat.le_refl _)).more b2.size) ((ha0'.below b2 (Nat.le_refl _)).more b2.size) ⟨f3, f4⟩).mono ?_
  rintro e w3 ⟨rfl, hb3⟩
  go_wp2
  go_ret
  exact .mk_ (b2.trans (hb3.mono b2.size))
end Go.Proofs.Ytblknnifccmpkaa
