/-
  Walk: the state that a shard begins with, by the model, where the seat has no records.
-/
import Derived.Test.YtelmeknpmlbplaaG0C
import Derived.Test.YtelmeknpmlbplaaG2C
import Derived.Deep.Cut
namespace Go.Proofs.Ytelmeknpmlbplaa
open Go.RowKit Wo Pu Rf Lk Sh
set_option linter.unusedVariables false in
/-- A state as a value. -/
def stV (A : Option Addr) (n c : Nat) (A2 : Option Addr) (n2 c2 : Nat) : Value := .agg #[.slice A n c, .slice A2 n2 c2]
set_option linter.unusedVariables false in
/-- The state s, read. -/
def Stt (w : World) (B : Nat) (v : Value) (s : St) : Prop := ∃ A c A2 c2, v = stV A s.refs.length c A2 s.locks.length c2 ∧ Row w B A (ints s.refs) ∧ s.refs.length ≤ c ∧ Row w B A2 (ints s.locks) ∧ s.locks.length ≤ c2
set_option linter.unusedVariables false in
set_option linter.unusedSimpArgs false in
theorem Stt.below {w w' : World} {B C : Nat} {v : Value} {s : St} (h : Stt w B v s) (hb : Below C w w') (hC : B ≤ C) : Stt w' B v s := by
  obtain ⟨A, c, A2, c2, e, h1, h2, h3, h4⟩ := h
  exact ⟨A, c, A2, c2, e, h1.below hb hC, h2, h3.below hb hC, h4⟩
set_option linter.unusedVariables false in
set_option linter.unusedSimpArgs false in
theorem Stt.more {w : World} {B B' : Nat} {v : Value} {s : St} (h : Stt w B v s) (hB : B ≤ B') : Stt w B' v s := by
  obtain ⟨A, c, A2, c2, e, h1, h2, h3, h4⟩ := h
  exact ⟨A, c, A2, c2, e, h1.more hB, h2, h3.more hB, h4⟩
set_option linter.unusedVariables false in
set_option linter.unusedSimpArgs false in
theorem Stt.on {w w' : World} {B : Nat} {v : Value} {s : St} (h : Stt w B v s) (hb : Below B w w') (hB : B ≤ w'.heap.size) : Stt w' w'.heap.size v s := (h.below hb (Nat.le_refl _)).more hB
set_option linter.unusedVariables false in
/-- Behind it: a state that can be read. -/
def NewSt (s : St) (w : World) (e : Ending) (w' : World) : Prop := ∃ v, e = .returned v ∧ Stt w' w'.heap.size v s ∧ Below w.heap.size w w'
set_option linter.unusedVariables false in
/-- Two lists do not lie in one block. -/
def AptI (v u : Value) : Prop := ∀ g, v.ownBlock = some g → u.ownBlock ≠ some g
set_option linter.unusedVariables false in
set_option linter.unusedSimpArgs false in
theorem AptI.symm {v u : Value} (h : AptI v u) : AptI u v := fun g h1 h2 => h g h2 h1
set_option linter.unusedVariables false in
set_option linter.unusedSimpArgs false in
theorem OwnI.keep_ {w w' : World} {B : Nat} {v u : Value} {zs : List Int} (h : OwnI w B v zs) (hg : w.grownBy w' u.ownBlock) (ha : AptI v u) : OwnI w' B v zs :=
  World.ownsRow.kept h hg (by
    rcases hv : v.ownBlock with _ | k
    · exact .inl rfl
    · exact .inr (fun e => ha k hv e.symm))
set_option linter.unusedVariables false in
set_option linter.unusedSimpArgs false in
theorem OwnI.keptT {w w' : World} {B : Nat} {v : Value} {zs : List Int} {T : TypeId} {row : Option Nat} (h : OwnI w B v zs) (t2 : 3 ≠ T) (hg : w.grownBy w' row) (hr : ∀ g, row = some g → ∃ cur fr, w.heap[g]? = some (.cells cur T fr)) : OwnI w' B v zs := row_far_type h t2 hg hr
set_option linter.unusedVariables false in
set_option linter.unusedSimpArgs false in
theorem AptI.new_ {w : World} {B g n c : Nat} {v u : Value} {zs : List Int} (h : AptI u v) (hu : OwnI w B u zs) (hat : v.ownBlock = some g ∨ w.heap.size ≤ g) : AptI u (.slice (some ⟨g, 0, none⟩) n c) := fun q h1 h2 => by
  have h2' : some g = some q := h2
  injection h2' with h2'
  subst h2'
  rcases hat with e | e
  · exact h g h1 e
  · have := (World.ownsRow.lt hu g h1).2; omega
set_option linter.unusedVariables false in
/-- k times none. -/
def nones (k : Nat) : List Int := List.replicate k (-1)
set_option linter.unusedVariables false in
set_option linter.unusedSimpArgs false in
theorem nones_succ (k : Nat) : nones (k + 1) = nones k ++ [-1] := by unfold nones; rw [List.replicate_succ']
set_option linter.unusedVariables false in
set_option linter.unusedSimpArgs false in
theorem nones_length (k : Nat) : (nones k).length = k := List.length_replicate
set_option linter.unusedVariables false in
/-- The state so far: the result at r, the state at g. -/
def BegE (w : World) (r g k j : Nat) (v u : Value) (wr : World) : Prop :=
  Blk2s wr r 112 (.slice none 0 0) (.slice none 0 0) ∧ Blk2s wr g 112 v u ∧ (w.heap.size ≤ r ∧ r ≠ g ∧ w.heap.size ≤ g) ∧ OwnI wr w.heap.size v (nones k) ∧ OwnI wr w.heap.size u (nones j) ∧ AptI v u ∧ Below w.heap.size w wr
section
variable {w wr w7 : World} {r g k j gg cap : Nat} {v u : Value}
set_option linter.unusedVariables false in
set_option linter.unusedSimpArgs false in
theorem BegE.grow (h : BegE w r g k j v u wr) (hg : (wr.alloc (.cells #[.int .i64 (-1)] 3)).grownBy w7 v.ownBlock) :
    Blk2s w7 r 112 (.slice none 0 0) (.slice none 0 0) ∧ Blk2s w7 g 112 v u ∧ OwnI w7 w.heap.size u (nones j) ∧ Below w.heap.size w w7 := by
  obtain ⟨h1, h2, ⟨i1, i2, i3⟩, h4, h5, h6, h7⟩ := h
  have al := (Below.refl wr.heap.size wr).alloc (Nat.le_refl _) (.cells #[.int .i64 (-1)] 3)
  have z := h7.size
  have a1 := h1.alloc (.cells #[.int .i64 (-1)] 3)
  have a2 := h2.alloc (.cells #[.int .i64 (-1)] 3)
  have r4 : (wr.alloc (.cells #[.int .i64 (-1)] 3)).ownsRow w.heap.size 3 1 v (nones k).length (ints (nones k)) := World.ownsRow.alloc h4 _
  exact ⟨a1.grown hg (blk_ne_row a1 r4 (by decide)), a2.grown hg (blk_ne_row a2 r4 (by decide)), OwnI.keep_ (World.ownsRow.alloc h5 _) hg h6.symm, (h7.alloc z _).grown hg (by simp; omega) (fun q hq => (World.ownsRow.lt r4 q hq).1)⟩
set_option linter.unusedVariables false in
set_option linter.unusedSimpArgs false in
theorem BegE.add0 (h : BegE w r g k j v u wr) (hown : w7.ownsRow w.heap.size 3 1 (.slice (some ⟨gg, 0, none⟩) (k + 1) cap) (k + 1) (ints (nones k) ++ [.int .i64 (-1)]))
    (hg : (wr.alloc (.cells #[.int .i64 (-1)] 3)).grownBy w7 v.ownBlock) (hat : v.ownBlock = some gg ∨ gg = wr.heap.size + 1) :
    (w7.cell? ⟨g, 0, none⟩ = some v ∧ w7.frozen? ⟨g, 0, none⟩ = false) ∧ BegE w r g (k + 1) j (.slice (some ⟨gg, 0, none⟩) (k + 1) cap) u (w7.setCell ⟨g, 0, none⟩ (.slice (some ⟨gg, 0, none⟩) (k + 1) cap)) := by
  obtain ⟨k1, k2, k3, k4⟩ := h.grow hg
  obtain ⟨h1, h2, ⟨i1, i2, i3⟩, h4, h5, h6, h7⟩ := h
  have o1 : OwnI w7 w.heap.size (.slice (some ⟨gg, 0, none⟩) (k + 1) cap) (nones (k + 1)) := by
    rw [nones_succ]
    refine OwnI.app ?_
    rw [nones_length]
    exact hown
  refine ⟨⟨k2.reads.1, k2.reads.2.2 0⟩, k1.far i2 _, k2.set0 _, ⟨i1, i2, i3⟩, o1.keptT (by decide) (but_set w7 g 0 _) (blk_type k2), k3.keptT (by decide) (but_set w7 g 0 _) (blk_type k2), ?_, k4.setCell (p := ⟨g, 0, none⟩) i3 _⟩
  exact (AptI.new_ h6.symm h5 (hat.imp id fun e => by omega)).symm
set_option linter.unusedVariables false in
set_option linter.unusedSimpArgs false in
theorem BegE.swap (h : BegE w r g k j v u wr) : OwnI wr w.heap.size u (nones j) ∧ AptI u v := ⟨h.2.2.2.2.1, h.2.2.2.2.2.1.symm⟩
set_option linter.unusedVariables false in
set_option linter.unusedSimpArgs false in
theorem BegE.add1 (h : BegE w r g k j v u wr) (hown : w7.ownsRow w.heap.size 3 1 (.slice (some ⟨gg, 0, none⟩) (j + 1) cap) (j + 1) (ints (nones j) ++ [.int .i64 (-1)]))
    (hg : (wr.alloc (.cells #[.int .i64 (-1)] 3)).grownBy w7 u.ownBlock) (hat : u.ownBlock = some gg ∨ gg = wr.heap.size + 1) :
    (w7.cell? ⟨g, 1, none⟩ = some u ∧ w7.frozen? ⟨g, 1, none⟩ = false) ∧ BegE w r g k (j + 1) v (.slice (some ⟨gg, 0, none⟩) (j + 1) cap) (w7.setCell ⟨g, 1, none⟩ (.slice (some ⟨gg, 0, none⟩) (j + 1) cap)) := by
  obtain ⟨h1, h2, ⟨i1, i2, i3⟩, h4, h5, h6, h7⟩ := h
  have z := h7.size
  have a1 := h1.alloc (.cells #[.int .i64 (-1)] 3)
  have a2 := h2.alloc (.cells #[.int .i64 (-1)] 3)
  have r4 : (wr.alloc (.cells #[.int .i64 (-1)] 3)).ownsRow w.heap.size 3 1 u (nones j).length (ints (nones j)) := World.ownsRow.alloc h5 _
  have k1 := a1.grown hg (blk_ne_row a1 r4 (by decide))
  have k2 := a2.grown hg (blk_ne_row a2 r4 (by decide))
  have k3 : OwnI w7 w.heap.size v (nones k) := OwnI.keep_ (World.ownsRow.alloc h4 _) hg h6
  have k4 : Below w.heap.size w w7 := (h7.alloc z _).grown hg (by simp; omega) (fun q hq => (World.ownsRow.lt r4 q hq).1)
  have o1 : OwnI w7 w.heap.size (.slice (some ⟨gg, 0, none⟩) (j + 1) cap) (nones (j + 1)) := by
    rw [nones_succ]
    refine OwnI.app ?_
    rw [nones_length]
    exact hown
  exact ⟨⟨k2.reads.2.1, k2.reads.2.2 1⟩, k1.far i2 _, k2.set1 _, ⟨i1, i2, i3⟩, k3.keptT (by decide) (but_set w7 g 1 _) (blk_type k2), o1.keptT (by decide) (but_set w7 g 1 _) (blk_type k2), AptI.new_ h6 h4 (hat.imp id fun e => by omega), k4.setCell (p := ⟨g, 1, none⟩) i3 _⟩
set_option linter.unusedVariables false in
set_option linter.unusedSimpArgs false in
theorem BegE.size (h : BegE w r g k j v u wr) : w.heap.size ≤ wr.heap.size := h.2.2.2.2.2.2.size
set_option linter.unusedVariables false in
set_option linter.unusedSimpArgs false in
theorem BegE.row0 (h : BegE w r g k j v u wr) : wr.ownsRow w.heap.size 3 1 v k (ints (nones k)) := by
  have := h.2.2.2.1
  unfold OwnI at this
  rwa [nones_length] at this
set_option linter.unusedVariables false in
set_option linter.unusedSimpArgs false in
theorem BegE.row1 (h : BegE w r g k j v u wr) : wr.ownsRow w.heap.size 3 1 u j (ints (nones j)) := by
  have := h.2.2.2.2.1
  unfold OwnI at this
  rwa [nones_length] at this
end
set_option linter.unusedVariables false in
set_option linter.unusedSimpArgs false in
theorem one_after (w : World) (p : Addr) (u x : Value) (t : TypeId) : ∀ j y, [x][j]? = some y → ((w.setCell p u).alloc (.cells #[x] t)).cell? ((⟨w.heap.size, 0, none⟩ : Addr).add j) = some y := by
  have h := cell_one_new (w.setCell p u) x t
  have e : (w.setCell p u).heap.size = w.heap.size := by simp [World.setCell]
  rwa [e] at h
set_option linter.unusedVariables false in
set_option linter.unusedSimpArgs false in
set_option maxRecDepth 100000 in
set_option maxHeartbeats 4000000 in
theorem l21Begin_any (w : World) : Calls Try.prog 88 #[] w (NewSt ⟨[-1, -1, -1, -1], [-1, -1, -1, -1]⟩ w) := by
  obtain ⟨i0, hi, hz0, hz1, hz2⟩ := info_of info_int
  have x0 := (Blk2s.new_ w 112 (.slice none 0 0) (.slice none 0 0)).alloc (.cells #[.slice none 0 0, .slice none 0 0] 112)
  have x1 := Blk2s.new_ (w.alloc (.cells #[.slice none 0 0, .slice none 0 0] 112)) 112 (.slice none 0 0) (.slice none 0 0)
  have b1 := ((Below.refl w.heap.size w).alloc (Nat.le_refl _) (.cells #[.slice none 0 0, .slice none 0 0] 112)).alloc (by simp) (.cells #[.slice none 0 0, .slice none 0 0] 112)
  rw [World.size_alloc] at x1
  have E0 : BegE w w.heap.size (w.heap.size + 1) 0 0 (.slice none 0 0) (.slice none 0 0) _ := ⟨x0, x1, ⟨Nat.le_refl _, by omega, Nat.le_succ _⟩, ⟨rfl, .inl ⟨rfl, rfl⟩⟩, ⟨rfl, .inl ⟨rfl, rfl⟩⟩, fun g h => (by cases h), b1⟩
  clear x0 x1 b1
  go_enter Try.func88, Try.ntmps88
  go_wp2_with fail
  go_loopw [2] (fun i wr => ∃ (k : Nat) (v u : Value), k ≤ 4 ∧ i = .int .i64 k ∧ BegE w w.heap.size (w.heap.size + 1) k k v u wr) (fun i _ => 4 - (intOf i).toNat)
  case atStart => exact ⟨0, _, _, Nat.zero_le _, rfl, E0⟩
  case round =>
    clear E0
    obtain ⟨k, v, u, hk, rfl, E⟩ := hrel
    obtain ⟨y0, y1, -⟩ := id E.2.1.reads
    have hz := E.size
    by_cases hlt : k < 4
    · have q1 : (k : Int) < 4 := by omega
      go_wp2_with (first
        | (at_builtin; refine wpList_append_lies _ rfl _ _ 24 rfl w.heap.size 3 i0 (.int .i64 0) 1 8 Try.underlying24 hi hz0 hz1 hz2 rfl (by decide) _ k _ rfl (World.ownsRow.alloc E.row0 _) ⟨wr.heap.size, 0, none⟩ 1 1 [.int .i64 (-1)] rfl rfl (cell_one_new _ _ _) (one_int _) (by omega) (by unfold maxLen; omega) (by omega) (by simp; omega) (wr.heap.size + 1) (by simp) ?_; intro gg cap w7 hown hg hat hlt7; have EE := E.add0 hown hg hat; obtain ⟨⟨t0, tf⟩, E7⟩ := EE; obtain ⟨s0, s1, -⟩ := id E7.2.1.reads; have z7 := E7.size)
        | (at_builtin; go_loud (refine wpList_append_lies _ rfl _ _ 24 rfl w.heap.size 3 i0 (.int .i64 0) 1 8 Try.underlying24 hi hz0 hz1 hz2 rfl (by decide) _ k _ rfl (World.ownsRow.alloc E7.row1 _) ⟨w7.heap.size, 0, none⟩ 1 1 [.int .i64 (-1)] rfl rfl (one_after _ _ _ _ _) (one_int _) (by omega) (by unfold maxLen; omega) (by omega) (by simp at z7 ⊢; omega) (w7.heap.size + 1) (by simp) ?_; intro gg2 cap2 w8 hown2 hg2 hat2 hlt8; have EE2 := E7.add1 hown2 hg2 (hat2.imp id (fun e => by simpa using e)); obtain ⟨⟨t2, tf2⟩, E8⟩ := EE2)))
      go_roundw
      case rel => exact ⟨k + 1, _, _, by omega, by go_num, E8⟩
      case measure => simp [intOf]; omega
    · have hk' : k = 4 := by omega
      subst hk'
      obtain ⟨E1, E2, E3, E4, E5, E6, E7⟩ := E
      obtain ⟨A, c, e4, r4, hc⟩ := E4.form
      obtain ⟨A2, c2, e5, r5, hc2⟩ := E5.form
      rw [nones_length] at e4 hc e5 hc2
      subst e4 e5
      obtain ⟨t0, t1, tf⟩ := id E1.reads
      have tf0 := tf 0
      have tf1 := tf 1
      have o1 := (E4.keptT (by decide) (but_set wr w.heap.size 0 (.slice A 4 c)) (blk_type E1)).keptT (by decide) (but_set _ w.heap.size 1 (.slice A2 4 c2)) (blk_type (E1.set0 _))
      have o2 := (E5.keptT (by decide) (but_set wr w.heap.size 0 (.slice A 4 c)) (blk_type E1)).keptT (by decide) (but_set _ w.heap.size 1 (.slice A2 4 c2)) (blk_type (E1.set0 _))
      have b7 := (E7.setCell (p := ⟨w.heap.size, 0, none⟩) (Nat.le_refl _) (.slice A 4 c)).setCell (p := ⟨w.heap.size, 1, none⟩) (Nat.le_refl _) (.slice A2 4 c2)
      obtain ⟨p0, p1, -⟩ := ((E1.set0 (.slice A 4 c)).set1 (.slice A2 4 c2)).reads
      obtain ⟨A', c', e, r6, -⟩ := o1.form
      obtain ⟨A2', c2', e2, r7, -⟩ := o2.form
      injection e with e q1 q2
      injection e2 with e2 q3 q4
      clear q1 q2 q3 q4
      subst e e2
      have H6 := hid r6
      have H7 := hid r7
      clear o1 o2 r4 r5 r6 r7 E2 E3 E4 E5 E6 E7
      go_wp2
      refine bodyPost_ret (v := .agg #[.slice A 4 c, .slice A2 4 c2]) (by simp [results, Try.results88, go_sem, p0, p1]) rfl ⟨_, rfl, ⟨A, c, A2, c2, rfl, H6.out, hc, H7.out, hc2⟩, b7⟩
end Go.Proofs.Ytelmeknpmlbplaa
