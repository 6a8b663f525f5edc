/-
  Walks of the laws on drawn objects.
-/
import Derived.Test.YtglcnlinfojflaaDrawOb
namespace Go.Proofs.Ytglcnlinfojflaa
open Go.RowKit Wo Pu


theorem ge_valid (kd : Int) (zs : List Int) (s : ByteArray) : (decide (0 ≤ oid kd zs s.data.toList) == vldB kd zs s.size) = true := by
  have h := oid_valid (k := kd) (zs := zs) (bs := s.data.toList)
  rw [beq_iff_eq, Bool.eq_iff_iff, decide_eq_true_eq]
  exact h

theorem FnObjectValid_no (A : Option Addr) (c : Nat) (bs : List Int) (w : World) (h : Code_ w A c bs) (hl : ¬ bs.length ≤ 1048576) :
    Calls Try.prog 7 #[.slice A bs.length c] w (Ret (.bool true) w) := by
  have hc := h.2.1
  have hm := h.2.2.1
  unfold maxLen at hm
  go_enter Try.func7, Try.ntmps7
  go_wp2
  go_ret
  exact .mk_ (Below.refl _ _)
set_option maxHeartbeats 4000000 in
theorem FnObjectValid_yes (A : Option Addr) (c : Nat) (bs : List Int) (w : World) (h : Code_ w A c bs) (hl : bs.length ≤ 1048576) :
    Calls Try.prog 7 #[.slice A bs.length c] w (Ret (.bool true) w) := by
  go_enter Try.func7, Try.ntmps7
  go_wp2_with fail
  refine (DrawObjectValid_any A c bs _ h).mono ?_
  rintro e w1 ⟨kd, A1, c1, zs, s, rfl, ho1, hz, hs, hb1⟩
  have hm : zs.length ≤ maxLen := by unfold maxLen; omega
  have hs' : s.size ≤ maxLen := by unfold maxLen; omega
  unfold ob
  have al := (Below.refl w1.heap.size w1).alloc (Nat.le_refl _) (.cells #[.int .i64 kd, .slice A1 zs.length c1, .string s] 27)
  have u1 := Blk.new_ w1 27 (.int .i64 kd) (.slice A1 zs.length c1) (.string s)
  have b1 := hb1.trans (al.mono hb1.size)
  have o1 := ho1.below al (Nat.le_refl _)
  have z1 := hb1.size
  clear hb1 al ho1
  go_wp2_with fail
  refine (implObjectValid_any _ A1 c1 kd zs s _ o1.row (Nat.le_refl _) hm hs').mono ?_
  rintro e w2 ⟨rfl, hb2⟩
  have u2 := u1.below hb2 u1.lt
  have b2 := b1.trans (hb2.mono b1.size)
  have o2 := o1.below hb2 (Nat.le_refl _)
  have z2 := hb2.size
  simp only [World.size_alloc] at z2
  clear hb2 u1 b1 o1
  obtain ⟨k0, k1, k2, kf⟩ := id u2.reads
  clear kf
  go_wp2_with fail
  refine (specValid_any _ A1 c1 kd zs s _ o2.row (Nat.le_refl _) hm hs').mono ?_
  rintro e w3 ⟨rfl, hb3⟩
  have u3 := u2.below hb3 u2.lt
  have b3 := b2.trans (hb3.mono b2.size)
  have o3 := o2.below hb3 (Nat.le_refl _)
  have z3 := hb3.size
  clear hb3 u2 b2 o2 k0 k1 k2
  obtain ⟨k0, k1, k2, kf⟩ := id u3.reads
  clear kf
  go_wp2_with fail
  refine (implObjectId_any _ A1 c1 kd zs s _ o3.row (Nat.le_refl _) hm hs').mono ?_
  rintro e w4 ⟨rfl, hb4⟩
  have b4 := b3.trans (hb4.mono b3.size)
  go_wp2
  go_ret
  exact .bool_ (ge_valid kd zs s) b4
theorem FnObjectValid_any (A : Option Addr) (c : Nat) (bs : List Int) (w : World) (f1 : Row w w.heap.size A (bs.map (Value.int .u8))) (f2 : bs.length ≤ c) (f3 : c ≤ maxLen) (f4 : ∀ n ∈ bs, 0 ≤ n ∧ n < 256) :
    Calls Try.prog 7 #[.slice A bs.length c] w (Ret (.bool true) w) := by
  by_cases hl : bs.length ≤ 1048576
  · exact FnObjectValid_yes A c bs w ⟨f1, f2, f3, f4⟩ hl
  · exact FnObjectValid_no A c bs w ⟨f1, f2, f3, f4⟩ hl

theorem oid_lt {kd : Int} {zs : List Int} {s : ByteArray} (h : vldB kd zs s.size = false) : oid kd zs s.data.toList < 0 := by rw [oid_no h]; decide
theorem oid_ge {kd : Int} {zs : List Int} {s : ByteArray} (h : vldB kd zs s.size = true) : 0 ≤ oid kd zs s.data.toList := oid_valid.2 h
end Go.Proofs.Ytglcnlinfojflaa
