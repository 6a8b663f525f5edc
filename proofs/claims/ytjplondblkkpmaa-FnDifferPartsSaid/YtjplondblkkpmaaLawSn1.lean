/- The coordinator with the slices $SA and $SB is stored as the answer, with the word $BB. -/
/- Laws on coordinators: a coordinator is boxed. -/
/- On to the world behind D. -/
/- An exact law begins: the argument's box, its size, a copy for the model. -/
/- The program's own copy of the argument is boxed. -/
/- The program's copy is as the argument; the region draws. -/
/- Laws on functions that answer numbers. -/
/- What the boxes hold is read again. -/
/- The coordinator with the slices P4 and P5 is boxed as P6, in block P7, behind it the world P3; ahead of region P1. -/
/- The draw, the program's answer, the model's, and that they are the same: behind it w5, all facts on it by way of dx. -/
/-
  Walks of the laws on the first snapshot of a transaction, and on shards that differ.
-/
import Derived.Test.YtjplondblkkpmaaSnaE
import Derived.Test.YtjplondblkkpmaaDrawE
import Derived.Test.YtjplondblkkpmaaSamI
import Derived.Test.YtjplondblkkpmaaHasK
namespace Go.Proofs.Ytjplondblkkpmaa
open Go.RowKit Wo Pu Rf Co
set_option linter.unusedVariables false
set_option linter.unusedSimpArgs false

/- The coordinator's box behind w4. -/
theorem FnSnapshotFirst_no (A : Option Addr) (c : Nat) (bs : List Int) (w : World) (h : Code_ w A c bs) (hl : ¬ bs.length ≤ 1048576) :
    Calls Try.prog 5 #[.slice A bs.length c] w (Ret (.bool true) w) := by
  have hc := h.2.1
  have hm := h.2.2.1
  unfold maxLen at hm
  go_enter Try.func5, Try.ntmps5
  go_wp2
  go_ret
  exact .mk_ (Below.refl _ _)
set_option maxRecDepth 100000 in
set_option maxHeartbeats 8000000 in
theorem FnSnapshotFirst_yes (A : Option Addr) (c : Nat) (bs : List Int) (w : World) (h : Code_ w A c bs) (hl : bs.length ≤ 1048576) :
    Calls Try.prog 5 #[.slice A bs.length c] w (Ret (.bool true) w) := by
  go_enter Try.func5, Try.ntmps5
  go_wp2_with fail
  refine (DrawSnapshotFirst_any A c bs _ h).mono ?_
  rintro e w1 ⟨v1, q, t, rfl, s1, hs, bw⟩
  obtain ⟨z, hz⟩ := firstO_ex q t
  obtain ⟨bv, hbv⟩ := bool_ofP' (CV q)
  have HZ := hid hz
  have HBV := hid hbv
  have hqo := hs.os
  have CI := hid fun (w9 : World) (hw9 : Below w1.heap.size w1 w9) => implSnapshotFirst_is z v1 q t w9 (s1.on hw9 hw9.size) hs.fit hz
  have CS := hid fun (w9 : World) (hw9 : Below w1.heap.size w1 w9) => specSnapshotFirst_is z v1 q t w9 (s1.on hw9 hw9.size) hs.fit hz
  have CVS := hid fun (w9 : World) (hw9 : Below w1.heap.size w1 w9) => specCoordinatorValid_is bv v1 q w9 (s1.on hw9 hw9.size) hs.fit hbv
  clear hz hs hbv
  obtain ⟨A1, c1, B1, k1, rfl, T1, hc1, R1, hd1⟩ := s1
  unfold crV at *
  go_upto_region 4 with fail
  have al := (Below.refl (w1).heap.size w1).alloc (Nat.le_refl _) (.cells #[.slice A1 q.ts.length c1, .slice B1 q.os.length k1] 26)
  have xn := Blk2s.new_ w1 26 (.slice A1 q.ts.length c1) (.slice B1 q.os.length k1)
  obtain ⟨w2, hw'⟩ : ∃ x, (w1).alloc (.cells #[.slice A1 q.ts.length c1, .slice B1 q.os.length k1] 26) = x := ⟨_, rfl⟩
  rw [hw'] at al xn ⊢
  clear hw'
  have dx := al
  have HF : Hid (∀ x, Below w1.heap.size w1 x → Blk2s x w1.heap.size 26 (.slice A1 q.ts.length c1) (.slice B1 q.os.length k1) → x.cell? ⟨w1.heap.size, 0, none⟩ = some (.slice A1 q.ts.length c1) ∧ x.cell? ⟨w1.heap.size, 1, none⟩ = some (.slice B1 q.os.length k1)) := fun x _ hx => ⟨hx.reads.1, hx.reads.2.1⟩
  obtain ⟨y1, z1⟩ := HF.out _ dx xn
  clear al
  go_wp2_with fail
  refine (CI.out _ dx).mono ?_
  rintro e w3 ⟨rfl, d⟩
  replace dx := dx.trans (d.mono dx.size)
  replace xn := xn.later d
  clear y1 z1 d CI
  obtain ⟨y1, z1⟩ := HF.out _ dx xn
  go_wp2_with fail
  refine (CS.out _ dx).mono ?_
  rintro e w4 ⟨rfl, d⟩
  replace dx := dx.trans (d.mono dx.size)
  replace xn := xn.later d
  clear y1 z1 d CS
  obtain ⟨y1, z1⟩ := HF.out _ dx xn
  go_wp2_with fail
  refine (CVS.out _ dx).mono ?_
  rintro e w5 ⟨rfl, d⟩
  replace dx := dx.trans (d.mono dx.size)
  replace xn := xn.later d
  clear y1 z1 d CVS
  obtain ⟨y1, z1⟩ := HF.out _ dx xn
  cases bv with
  | false =>
    clear HZ HBV
    go_wp2
    go_ret
    exact .mk_ (bw.trans (dx.mono bw.size))
  | true =>
    have hv := HBV.out.1 rfl
    by_cases hm : t ∈ q.os
    · obtain ⟨k, hk, ek⟩ := List.mem_iff_getElem.1 hm
      have ez := HZ.out.here hv hk ek
      obtain ⟨ad, rfl, hbl, hc9⟩ := (R1.below dx (Nat.le_refl _)).int_ hk
      rw [ek] at hc9
      subst ez
      have e0 : (((k : Int) + 1) == -1) = false := by rw [beq_eq_false_iff_ne]; omega
      have e1 : decide ((1 : Int) ≤ (k : Int) + 1) = true := decide_eq_true (by omega)
      have e2 : decide ((k : Int) + 1 ≤ (q.os.length : Int)) = true := decide_eq_true (by omega)
      have i0 : (0 : Int) ≤ (k : Int) := by omega
      have i1 : (k : Int) < (q.os.length : Int) := by omega
      have e3 : IntKind.i64.wrap ((k : Int) + 1 - 1) = (k : Int) := by rw [IntWalk.i64_in _ (by omega)]; omega
      have e4 : (k : Int) + 1 - 1 = (k : Int) := by omega
      clear HZ HBV hm ek
      go_wp2
      go_ret
      exact .mk_ (bw.trans (dx.mono bw.size))
    · have ez := HZ.out.no fun e => hm e.2
      subst ez
      have CH := hid (hasInt_is false B1 k1 q.os t w5 _ (R1.below dx (Nat.le_refl _)) (by omega) (by simp [hm]))
      clear HZ HBV hm
      go_wp2_with fail
      refine CH.out.mono ?_
      rintro e w6 ⟨rfl, rfl⟩
      go_wp2
      go_ret
      exact .mk_ (bw.trans (dx.mono bw.size))
theorem FnSnapshotFirst_any (A : Option Addr) (c : Nat) (bs : List Int) (w : World) (f1 : Row w w.heap.size A (bs.map (Value.int .u8))) (f2 : bs.length ≤ c) (f3 : c ≤ maxLen) (f4 : ∀ n ∈ bs, 0 ≤ n ∧ n < 256) :
    Calls Try.prog 5 #[.slice A bs.length c] w (Ret (.bool true) w) := by
  by_cases hl : bs.length ≤ 1048576
  · exact FnSnapshotFirst_yes A c bs w ⟨f1, f2, f3, f4⟩ hl
  · exact FnSnapshotFirst_no A c bs w ⟨f1, f2, f3, f4⟩ hl
end Go.Proofs.Ytjplondblkkpmaa
