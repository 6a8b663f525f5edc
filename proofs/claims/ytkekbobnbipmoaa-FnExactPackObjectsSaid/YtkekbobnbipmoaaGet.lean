/-
  Walks: StoreGet.
-/
import Derived.Test.YtkekbobnbipmoaaOwnObs
namespace Go.Proofs.Ytkekbobnbipmoaa
open Go.RowKit Wo Pu

/-- Behind it: numbers of the call's own. -/
def NewNums (zs : List Int) (w : World) (e : Ending) (w' : World) : Prop := ∃ (A : Option Addr) (c : Nat), e = .returned (.slice A zs.length c) ∧ Own w' w.heap.size (.slice A zs.length c) zs ∧ Below w.heap.size w w'

set_option maxHeartbeats 1000000 in
theorem copyNumbers_any (B : Nat) (A : Option Addr) (c : Nat) (zs : List Int) (w : World) (hr : Row w B A (ints zs)) (hB : B ≤ w.heap.size) (hm : zs.length ≤ 1048576) :
    Calls Try.prog 69 #[.slice A zs.length c] w (NewNums zs w) := by
  obtain ⟨i0, hi, hz0, hz1, hz2⟩ := info_of info_int
  go_enter Try.func69, Try.ntmps69
  have n2 := nil_own (w := w) (B := w.heap.size) (Nat.le_refl _) 3 1
  have r2 := hr.alloc hB (.cells #[] 3)
  go_wp2_with (at_builtin; go_must (refine wpList_append_row _ rfl _ _ 30 rfl w.heap.size 3 i0 (.int .i64 0) 1 8 Try.underlying30 hi hz0 hz1 hz2 rfl (by decide) _ 0 [] rfl n2 B A zs.length c (ints zs) rfl r2 (by rw [ints_length]; omega) (ints_cells _) (by unfold maxLen; omega) (by omega) (by simp) ?_); intro v' w5 hown hg)
  have hb : Below w.heap.size w w5 := ((Below.refl _ _).alloc (Nat.le_refl _) (.cells #[] 3)).grown hg (by simp) (fun k hk => by have hk' : some w.heap.size = some k := hk; injection hk' with hk'; omega)
  have ho : Own w5 w.heap.size v' zs := by
    rw [Nat.zero_add] at hown
    exact hown
  obtain ⟨A2, c2, rfl, _⟩ := ho.form
  clear hown hg
  go_wp2
  go_ret
  exact ⟨A2, c2, rfl, ho, hb⟩

theorem copied_facts {w w5 : World} {o : Ob} {A : Option Addr} {c : Nat} {v : Value}
    (ho : Own w5 ((w.alloc (.cells #[.int .i64 o.kd, .slice A o.zs.length c, .string o.s] 42)).alloc (.cells #[.int .i64 0, .slice none 0 0, .string ⟨#[]⟩] 42)).drew.heap.size v o.zs)
    (hb : Below ((w.alloc (.cells #[.int .i64 o.kd, .slice A o.zs.length c, .string o.s] 42)).alloc (.cells #[.int .i64 0, .slice none 0 0, .string ⟨#[]⟩] 42)).drew.heap.size ((w.alloc (.cells #[.int .i64 o.kd, .slice A o.zs.length c, .string o.s] 42)).alloc (.cells #[.int .i64 0, .slice none 0 0, .string ⟨#[]⟩] 42)).drew w5) :
    Own w5 (w.heap.size + 1 + 1) v o.zs ∧ Blk w5 w.heap.size 42 (.int .i64 o.kd) (.slice A o.zs.length c) (.string o.s) ∧
    Blk w5 (w.heap.size + 1) 42 (.int .i64 0) (.slice none 0 0) (.string ⟨#[]⟩) ∧ Below w.heap.size w w5 := by
  have u0 := Blk.new_ w 42 (.int .i64 o.kd) (.slice A o.zs.length c) (.string o.s)
  have z1 : (w.alloc (.cells #[.int .i64 o.kd, .slice A o.zs.length c, .string o.s] 42)).heap.size = w.heap.size + 1 := by simp
  have a0 := (Below.refl w.heap.size w).alloc (Nat.le_refl _) (.cells #[.int .i64 o.kd, .slice A o.zs.length c, .string o.s] 42)
  generalize w.alloc (.cells #[.int .i64 o.kd, .slice A o.zs.length c, .string o.s] 42) = x1 at *
  have t0 := Blk.new_ x1 42 (.int .i64 0) (.slice none 0 0) (.string ⟨#[]⟩)
  have z2 : (x1.alloc (.cells #[.int .i64 0, .slice none 0 0, .string ⟨#[]⟩] 42)).heap.size = w.heap.size + 1 + 1 := by simp; omega
  have a1 := (Below.refl x1.heap.size x1).alloc (Nat.le_refl _) (.cells #[.int .i64 0, .slice none 0 0, .string ⟨#[]⟩] 42)
  generalize x1.alloc (.cells #[.int .i64 0, .slice none 0 0, .string ⟨#[]⟩] 42) = x2 at *
  have a2 := (Below.refl x2.heap.size x2).drew
  have z3 : x2.drew.heap.size = w.heap.size + 1 + 1 := z2
  generalize x2.drew = x3 at *
  rw [z1] at t0
  rw [z3] at ho hb
  exact ⟨ho, ((u0.below a1 (by omega)).below a2 (by omega)).below hb (by omega), (t0.below a2 (by omega)).below hb (by omega), ((a0.trans (a1.mono (by omega))).trans (a2.mono (by omega))).trans (hb.mono (by omega))⟩

set_option maxHeartbeats 1000000 in
theorem copied_any (B : Nat) (A : Option Addr) (c : Nat) (o : Ob) (w : World) (hr : Row w B A (ints o.zs)) (hB : B ≤ w.heap.size) (hm : o.zs.length ≤ 1048576) :
    Calls Try.prog 79 #[ob o.kd A o.zs.length c o.s] w (NewObj o w) := by
  unfold ob
  have r2 := ((hr.alloc hB (.cells #[.int .i64 o.kd, .slice A o.zs.length c, .string o.s] 42)).alloc (by simp; omega) (.cells #[.int .i64 0, .slice none 0 0, .string ⟨#[]⟩] 42)).drewN 1
  go_enter Try.func79, Try.ntmps79
  go_wp2_with fail
  go_region_held3 (fun w' => w'.cell? ⟨w.heap.size, 0, none⟩ = some (.int .i64 o.kd) ∧ w'.cell? ⟨w.heap.size, 1, none⟩ = some (.slice A o.zs.length c) ∧ w'.cell? ⟨w.heap.size, 2, none⟩ = some (.string o.s)) (simp [*, go_sem, World.cell?_alloc_past])
    (first | (go_at_call 69; go_must (refine (copyNumbers_any B A c o.zs _ r2 (by simp; omega) hm).mono ?_); rintro e w5 ⟨A2, c2, rfl, ho, hb⟩; obtain ⟨ho5, u5, t5, b5⟩ := copied_facts ho hb; clear ho hb; obtain ⟨p0, p1, p2, pf⟩ := id u5.reads; clear pf; obtain ⟨s0, s1, s2, sf⟩ := id t5.reads; have sf0 := sf 0; have sf1 := sf 1; have sf2 := sf 2))
  go_wp2_with fail
  refine bodyPost_ret (v := ob o.kd A2 o.zs.length c2 o.s) (by simp [results, Try.results79, go_sem, ob, s0, s1, s2]) rfl ⟨A2, c2, rfl, ?_, ?_⟩
  · exact ((ho5.far t5 0 _).far (t5.set0 _) 1 _).far ((t5.set0 _).set1 _) 2 _ |>.base (by omega)
  · exact ((b5.setCell (p := ⟨w.heap.size + 1, 0, none⟩) (Nat.le_succ _) _).setCell (p := ⟨w.heap.size + 1, 1, none⟩) (Nat.le_succ _) _).setCell (p := ⟨w.heap.size + 1, 2, none⟩) (Nat.le_succ _) _
end Go.Proofs.Ytkekbobnbipmoaa
