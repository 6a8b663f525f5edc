/-
  Walks: updates performed, by the model.
  Walk: the state that a shard begins with, by the model, where the seat has no records.
  Walks: RefsApply, RefsDiffer and UpdatesCross of the model.
  Walks: RefsDiffer and UpdatesCross of the model.
  Walks: drawn refs and updates.
  Walk: UpdatesCross of the model.
-/
import Derived.Test.YtjplondblkkpmaaRefU
import Derived.Test.YtjplondblkkpmaaG0C
import Derived.Deep.Cut
namespace Go.Proofs.Ytjplondblkkpmaa
open Go.RowKit Wo Pu Rf

/-- The refs of the updates are refs. -/
def Refs4 (us : List Up) : Prop := ∀ u ∈ us, 0 ≤ u.r ∧ u.r ≤ 3
theorem refs4_of {us : List Up} (h : UV us) : Refs4 us := fun u hu => (h.2.mem u hu).2.1
def FitTo (zs : List Int) (us : List Up) (k : Nat) : Prop := ∀ j (h : j < us.length), j < k → fit1 zs us[j]
theorem FitTo.zero (zs : List Int) (us : List Up) : FitTo zs us 0 := fun _ _ h => absurd h (Nat.not_lt_zero _)
theorem FitTo.next {zs : List Int} {us : List Up} {k : Nat} (h : FitTo zs us k) (hk : k < us.length) (ho : fit1 zs us[k]) : FitTo zs us (k + 1) := fun j hj hl => by
  by_cases e : j = k
  · subst e; exact ho
  · exact h j hj (by omega)
theorem FitTo.all {zs : List Int} {us : List Up} (h : FitTo zs us us.length) : Fits zs us := fun u hu => by
  obtain ⟨j, hj, rfl⟩ := List.getElem_of_mem hu
  exact h j hj hj
theorem setR_take {zs : List Int} {us : List Up} {k : Nat} (hk : k < us.length) : setR zs (us.take (k + 1)) = (setR zs (us.take k)).set us[k].r.toNat us[k].n := by
  rw [List.take_succ_eq_append_getElem hk, setR_snoc]
theorem ints_set (zs : List Int) (m : Nat) (x : Int) : (ints zs).set m (.int .i64 x) = ints (zs.set m x) := by unfold ints; rw [List.map_set]
/-- Integers stored into. -/
theorem OwnI.set {w : World} {B g c : Nat} {zs : List Int} (h : OwnI w B (.slice (some ⟨g, 0, none⟩) zs.length c) zs) (m : Nat) (x : Int) : OwnI (w.setCell ⟨g, m, none⟩ (.int .i64 x)) B (.slice (some ⟨g, 0, none⟩) (zs.set m x).length c) (zs.set m x) := by
  have := (World.ownsRow.stored h m (.int .i64 x)).1
  rw [ints_set] at this
  unfold OwnI
  rw [List.length_set]
  exact this
theorem OwnI.cell {w : World} {B g c : Nat} {zs : List Int} (h : OwnI w B (.slice (some ⟨g, 0, none⟩) zs.length c) zs) {m : Nat} (hm : m < zs.length) : w.cell? ⟨g, m, none⟩ = some (.int .i64 zs[m]) := by
  have := World.ownsRow.cellAt h m (by omega)
  rw [this]
  simp [ints, hm]
theorem OwnI.at {w : World} {B : Nat} {v : Value} {zs : List Int} (h : OwnI w B v zs) (hp : 0 < zs.length) : ∃ g c, v = .slice (some ⟨g, 0, none⟩) zs.length c ∧ B ≤ g ∧ g < w.heap.size := by
  obtain ⟨g, cap, e, h1, h2⟩ := World.ownsRow.form h hp
  exact ⟨g, cap, e, h1, h2⟩
set_option maxRecDepth 100000 in
set_option maxHeartbeats 4000000 in
theorem l11Set_any (A A2 : Option Addr) (c c2 : Nat) (zs : List Int) (us : List Up) (w : World) (hz : Row w w.heap.size A (ints zs)) (h4 : zs.length = 4) (hu : Row w w.heap.size A2 (upsV us)) (hr : Refs4 us) (hm : us.length ≤ 1048600) :
    Calls Try.prog 67 #[.slice A zs.length c, .slice A2 us.length c2] w (IntsOf (setR zs us) w) := by
  obtain ⟨i0, hi, hz0, hz1, hz2⟩ := info_of info_int
  have H4 := hid h4
  have HE := hid (setR_length us zs)
  have al := (Below.refl w.heap.size w).alloc (Nat.le_refl _) (.cells #[] 3)
  have hzl : Hid (zs.length ≤ 10) := by show _ ≤ _; omega
  clear h4
  go_enter Try.func67, Try.ntmps67
  go_wp2_with (at_builtin; go_must (refine wpList_append_row _ rfl _ _ 24 rfl w.heap.size 3 i0 (.int .i64 0) 1 8 Try.underlying24 hi hz0 hz1 hz2 rfl (by decide) _ 0 [] rfl (nil_own (Nat.le_refl _) _ _) w.heap.size A zs.length c (ints zs) rfl (hz.below al (Nat.le_refl _)) (by rw [ints_length]; omega) (by intro u hu; obtain ⟨x, _, rfl⟩ := List.mem_map.1 hu; rfl) (by have := hzl.out; unfold maxLen; omega) (by have := hzl.out; omega) (by simp) ?_); intro v4 w4 hown hg)
  have b4 : Below w.heap.size w w4 := al.grown hg (by simp) (fun j hj => by injection hj with hj; exact Nat.le_of_eq hj)
  have ho0 : OwnI w4 w.heap.size v4 zs := by
    unfold OwnI
    rw [Nat.zero_add, List.nil_append] at hown
    exact hown
  obtain ⟨g, c4, rfl, hg1, hg2⟩ := ho0.at (by rw [H4.out]; omega)
  clear hown hg al
  go_wp2_with fail
  go_loopw [6] (fun i wr => ∃ k : Nat, k ≤ us.length ∧ i = .int .i64 k ∧ OwnI wr w.heap.size (.slice (some ⟨g, 0, none⟩) zs.length c4) (setR zs (us.take k)) ∧ Below w.heap.size w wr) (fun i _ => us.length - (intOf i).toNat)
  case atStart => exact ⟨0, Nat.zero_le _, rfl, by rw [List.take_zero, setR_nil]; exact ho0, b4⟩
  case round =>
    obtain ⟨k, hk, rfl, ho, hb⟩ := hrel
    clear ho0 b4
    by_cases hlt : k < us.length
    · obtain ⟨o, ad, ho1, rfl, ha1, g0, -, g2⟩ := (hu.below hb (Nat.le_refl _)).up_ hlt
      obtain ⟨q0, q1⟩ := hr _ (List.getElem_mem hlt)
      rw [ho1] at q0 q1
      obtain ⟨m, hm0⟩ := Int.eq_ofNat_of_zero_le q0
      rw [hm0] at g0
      have hsl := setR_length (us.take k) zs
      have ho' : OwnI wr w.heap.size (.slice (some ⟨g, 0, none⟩) (setR zs (us.take k)).length c4) (setR zs (us.take k)) := by rw [hsl]; exact ho
      have hmz : m < (setR zs (us.take k)).length := by rw [hsl, H4.out]; omega
      have y0 := ho'.cell hmz
      have f0 := World.ownsRow.frozenAt ho' m
      have ho2 := ho'.set m o.n
      have hb2 := hb.setCell (p := ⟨g, m, none⟩) hg1 (.int .i64 o.n)
      have hst := setR_take (zs := zs) hlt
      rw [ho1, hm0, Int.toNat_natCast] at hst
      have hl2 : ((setR zs (us.take k)).set m o.n).length = zs.length := by rw [List.length_set, hsl]
      rw [← hst] at ho2 hl2
      rw [hl2] at ho2
      have k0 : (0 : Int) ≤ (k : Int) := by omega
      have k1 : (k : Int) < (us.length : Int) := by omega
      have k2 : (0 : Int) ≤ (m : Int) := by omega
      have k3 : (m : Int) < (zs.length : Int) := by rw [H4.out]; omega
      clear ho ho' hb hst hl2 hsl q0 q1 hm0 ho1
      go_wp2_with fail
      go_region_law (fail)
      go_wp2
      go_roundw
      case rel => exact ⟨k + 1, by omega, by go_num, ho2, hb2.drew⟩
      case measure => simp [intOf]; omega
      exact ⟨⟨k + 1, by omega, by go_num, ho2, hb2.drew⟩, by simp [intOf]; omega⟩
    · have hk' : k = us.length := by omega
      subst hk'
      rw [List.take_length] at ho
      go_wp2
      go_ret
      refine ⟨some ⟨g, 0, none⟩, c4, ?_, ?_, hb⟩
      · rw [HE.out]; rfl
      · rw [HE.out]; exact ho
end Go.Proofs.Ytjplondblkkpmaa
namespace Go.Proofs.Ytjplondblkkpmaa
open Go.RowKit Wo Pu Rf Lk Sh
set_option linter.unusedVariables false in
/-- A state as a value. -/
def stV (A : Option Addr) (n c : Nat) (A2 : Option Addr) (n2 c2 : Nat) : Value := .agg #[.slice A n c, .slice A2 n2 c2]
set_option linter.unusedVariables false in
/-- The state s, read. -/
def Stt (w : World) (B : Nat) (v : Value) (s : St) : Prop := ∃ A c A2 c2, v = stV A s.refs.length c A2 s.locks.length c2 ∧ Row w B A (ints s.refs) ∧ s.refs.length ≤ c ∧ Row w B A2 (ints s.locks) ∧ s.locks.length ≤ c2
set_option linter.unusedVariables false in
set_option linter.unusedSimpArgs false in
theorem Stt.below {w w' : World} {B C : Nat} {v : Value} {s : St} (h : Stt w B v s) (hb : Below C w w') (hC : B ≤ C) : Stt w' B v s := by
  obtain ⟨A, c, A2, c2, e, h1, h2, h3, h4⟩ := h
  exact ⟨A, c, A2, c2, e, h1.below hb hC, h2, h3.below hb hC, h4⟩
set_option linter.unusedVariables false in
set_option linter.unusedSimpArgs false in
theorem Stt.more {w : World} {B B' : Nat} {v : Value} {s : St} (h : Stt w B v s) (hB : B ≤ B') : Stt w B' v s := by
  obtain ⟨A, c, A2, c2, e, h1, h2, h3, h4⟩ := h
  exact ⟨A, c, A2, c2, e, h1.more hB, h2, h3.more hB, h4⟩
set_option linter.unusedVariables false in
set_option linter.unusedSimpArgs false in
theorem Stt.on {w w' : World} {B : Nat} {v : Value} {s : St} (h : Stt w B v s) (hb : Below B w w') (hB : B ≤ w'.heap.size) : Stt w' w'.heap.size v s := (h.below hb (Nat.le_refl _)).more hB
set_option linter.unusedVariables false in
/-- Behind it: a state that can be read. -/
def NewSt (s : St) (w : World) (e : Ending) (w' : World) : Prop := ∃ v, e = .returned v ∧ Stt w' w'.heap.size v s ∧ Below w.heap.size w w'
set_option linter.unusedVariables false in
/-- Two lists do not lie in one block. -/
def AptI (v u : Value) : Prop := ∀ g, v.ownBlock = some g → u.ownBlock ≠ some g
set_option linter.unusedVariables false in
set_option linter.unusedSimpArgs false in
theorem AptI.symm {v u : Value} (h : AptI v u) : AptI u v := fun g h1 h2 => h g h2 h1
set_option linter.unusedVariables false in
set_option linter.unusedSimpArgs false in
theorem OwnI.keep_ {w w' : World} {B : Nat} {v u : Value} {zs : List Int} (h : OwnI w B v zs) (hg : w.grownBy w' u.ownBlock) (ha : AptI v u) : OwnI w' B v zs :=
  World.ownsRow.kept h hg (by
    rcases hv : v.ownBlock with _ | k
    · exact .inl rfl
    · exact .inr (fun e => ha k hv e.symm))
set_option linter.unusedVariables false in
set_option linter.unusedSimpArgs false in
theorem OwnI.keptT {w w' : World} {B : Nat} {v : Value} {zs : List Int} {T : TypeId} {row : Option Nat} (h : OwnI w B v zs) (t2 : 3 ≠ T) (hg : w.grownBy w' row) (hr : ∀ g, row = some g → ∃ cur fr, w.heap[g]? = some (.cells cur T fr)) : OwnI w' B v zs := row_far_type h t2 hg hr
set_option linter.unusedVariables false in
set_option linter.unusedSimpArgs false in
theorem AptI.new_ {w : World} {B g n c : Nat} {v u : Value} {zs : List Int} (h : AptI u v) (hu : OwnI w B u zs) (hat : v.ownBlock = some g ∨ w.heap.size ≤ g) : AptI u (.slice (some ⟨g, 0, none⟩) n c) := fun q h1 h2 => by
  have h2' : some g = some q := h2
  injection h2' with h2'
  subst h2'
  rcases hat with e | e
  · exact h g h1 e
  · have := (World.ownsRow.lt hu g h1).2; omega
set_option linter.unusedVariables false in
/-- k times none. -/
def nones (k : Nat) : List Int := List.replicate k (-1)
set_option linter.unusedVariables false in
set_option linter.unusedSimpArgs false in
theorem nones_succ (k : Nat) : nones (k + 1) = nones k ++ [-1] := by unfold nones; rw [List.replicate_succ']
set_option linter.unusedVariables false in
set_option linter.unusedSimpArgs false in
theorem nones_length (k : Nat) : (nones k).length = k := List.length_replicate
set_option linter.unusedVariables false in
/-- The state so far: the result at r, the state at g. -/
def BegE (w : World) (r g k j : Nat) (v u : Value) (wr : World) : Prop :=
  Blk2s wr r 88 (.slice none 0 0) (.slice none 0 0) ∧ Blk2s wr g 88 v u ∧ (w.heap.size ≤ r ∧ r ≠ g ∧ w.heap.size ≤ g) ∧ OwnI wr w.heap.size v (nones k) ∧ OwnI wr w.heap.size u (nones j) ∧ AptI v u ∧ Below w.heap.size w wr
section
variable {w wr w7 : World} {r g k j gg cap : Nat} {v u : Value}
set_option linter.unusedVariables false in
set_option linter.unusedSimpArgs false in
theorem BegE.grow (h : BegE w r g k j v u wr) (hg : (wr.alloc (.cells #[.int .i64 (-1)] 3)).grownBy w7 v.ownBlock) :
    Blk2s w7 r 88 (.slice none 0 0) (.slice none 0 0) ∧ Blk2s w7 g 88 v u ∧ OwnI w7 w.heap.size u (nones j) ∧ Below w.heap.size w w7 := by
  obtain ⟨h1, h2, ⟨i1, i2, i3⟩, h4, h5, h6, h7⟩ := h
  have al := (Below.refl wr.heap.size wr).alloc (Nat.le_refl _) (.cells #[.int .i64 (-1)] 3)
  have z := h7.size
  have a1 := h1.alloc (.cells #[.int .i64 (-1)] 3)
  have a2 := h2.alloc (.cells #[.int .i64 (-1)] 3)
  have r4 : (wr.alloc (.cells #[.int .i64 (-1)] 3)).ownsRow w.heap.size 3 1 v (nones k).length (ints (nones k)) := World.ownsRow.alloc h4 _
  exact ⟨a1.grown hg (blk_ne_row a1 r4 (by decide)), a2.grown hg (blk_ne_row a2 r4 (by decide)), OwnI.keep_ (World.ownsRow.alloc h5 _) hg h6.symm, (h7.alloc z _).grown hg (by simp; omega) (fun q hq => (World.ownsRow.lt r4 q hq).1)⟩
set_option linter.unusedVariables false in
set_option linter.unusedSimpArgs false in
theorem BegE.add0 (h : BegE w r g k j v u wr) (hown : w7.ownsRow w.heap.size 3 1 (.slice (some ⟨gg, 0, none⟩) (k + 1) cap) (k + 1) (ints (nones k) ++ [.int .i64 (-1)]))
    (hg : (wr.alloc (.cells #[.int .i64 (-1)] 3)).grownBy w7 v.ownBlock) (hat : v.ownBlock = some gg ∨ gg = wr.heap.size + 1) :
    (w7.cell? ⟨g, 0, none⟩ = some v ∧ w7.frozen? ⟨g, 0, none⟩ = false) ∧ BegE w r g (k + 1) j (.slice (some ⟨gg, 0, none⟩) (k + 1) cap) u (w7.setCell ⟨g, 0, none⟩ (.slice (some ⟨gg, 0, none⟩) (k + 1) cap)) := by
  obtain ⟨k1, k2, k3, k4⟩ := h.grow hg
  obtain ⟨h1, h2, ⟨i1, i2, i3⟩, h4, h5, h6, h7⟩ := h
  have o1 : OwnI w7 w.heap.size (.slice (some ⟨gg, 0, none⟩) (k + 1) cap) (nones (k + 1)) := by
    rw [nones_succ]
    refine OwnI.app ?_
    rw [nones_length]
    exact hown
  refine ⟨⟨k2.reads.1, k2.reads.2.2 0⟩, k1.far i2 _, k2.set0 _, ⟨i1, i2, i3⟩, o1.keptT (by decide) (but_set w7 g 0 _) (blk_type k2), k3.keptT (by decide) (but_set w7 g 0 _) (blk_type k2), ?_, k4.setCell (p := ⟨g, 0, none⟩) i3 _⟩
  exact (AptI.new_ h6.symm h5 (hat.imp id fun e => by omega)).symm
set_option linter.unusedVariables false in
set_option linter.unusedSimpArgs false in
theorem BegE.swap (h : BegE w r g k j v u wr) : OwnI wr w.heap.size u (nones j) ∧ AptI u v := ⟨h.2.2.2.2.1, h.2.2.2.2.2.1.symm⟩
set_option linter.unusedVariables false in
set_option linter.unusedSimpArgs false in
theorem BegE.add1 (h : BegE w r g k j v u wr) (hown : w7.ownsRow w.heap.size 3 1 (.slice (some ⟨gg, 0, none⟩) (j + 1) cap) (j + 1) (ints (nones j) ++ [.int .i64 (-1)]))
    (hg : (wr.alloc (.cells #[.int .i64 (-1)] 3)).grownBy w7 u.ownBlock) (hat : u.ownBlock = some gg ∨ gg = wr.heap.size + 1) :
    (w7.cell? ⟨g, 1, none⟩ = some u ∧ w7.frozen? ⟨g, 1, none⟩ = false) ∧ BegE w r g k (j + 1) v (.slice (some ⟨gg, 0, none⟩) (j + 1) cap) (w7.setCell ⟨g, 1, none⟩ (.slice (some ⟨gg, 0, none⟩) (j + 1) cap)) := by
  obtain ⟨h1, h2, ⟨i1, i2, i3⟩, h4, h5, h6, h7⟩ := h
  have z := h7.size
  have a1 := h1.alloc (.cells #[.int .i64 (-1)] 3)
  have a2 := h2.alloc (.cells #[.int .i64 (-1)] 3)
  have r4 : (wr.alloc (.cells #[.int .i64 (-1)] 3)).ownsRow w.heap.size 3 1 u (nones j).length (ints (nones j)) := World.ownsRow.alloc h5 _
  have k1 := a1.grown hg (blk_ne_row a1 r4 (by decide))
  have k2 := a2.grown hg (blk_ne_row a2 r4 (by decide))
  have k3 : OwnI w7 w.heap.size v (nones k) := OwnI.keep_ (World.ownsRow.alloc h4 _) hg h6
  have k4 : Below w.heap.size w w7 := (h7.alloc z _).grown hg (by simp; omega) (fun q hq => (World.ownsRow.lt r4 q hq).1)
  have o1 : OwnI w7 w.heap.size (.slice (some ⟨gg, 0, none⟩) (j + 1) cap) (nones (j + 1)) := by
    rw [nones_succ]
    refine OwnI.app ?_
    rw [nones_length]
    exact hown
  exact ⟨⟨k2.reads.2.1, k2.reads.2.2 1⟩, k1.far i2 _, k2.set1 _, ⟨i1, i2, i3⟩, k3.keptT (by decide) (but_set w7 g 1 _) (blk_type k2), o1.keptT (by decide) (but_set w7 g 1 _) (blk_type k2), AptI.new_ h6 h4 (hat.imp id fun e => by omega), k4.setCell (p := ⟨g, 1, none⟩) i3 _⟩
set_option linter.unusedVariables false in
set_option linter.unusedSimpArgs false in
theorem BegE.size (h : BegE w r g k j v u wr) : w.heap.size ≤ wr.heap.size := h.2.2.2.2.2.2.size
set_option linter.unusedVariables false in
set_option linter.unusedSimpArgs false in
theorem BegE.row0 (h : BegE w r g k j v u wr) : wr.ownsRow w.heap.size 3 1 v k (ints (nones k)) := by
  have := h.2.2.2.1
  unfold OwnI at this
  rwa [nones_length] at this
set_option linter.unusedVariables false in
set_option linter.unusedSimpArgs false in
theorem BegE.row1 (h : BegE w r g k j v u wr) : wr.ownsRow w.heap.size 3 1 u j (ints (nones j)) := by
  have := h.2.2.2.2.1
  unfold OwnI at this
  rwa [nones_length] at this
end
set_option linter.unusedVariables false in
set_option linter.unusedSimpArgs false in
theorem one_after (w : World) (p : Addr) (u x : Value) (t : TypeId) : ∀ j y, [x][j]? = some y → ((w.setCell p u).alloc (.cells #[x] t)).cell? ((⟨w.heap.size, 0, none⟩ : Addr).add j) = some y := by
  have h := cell_one_new (w.setCell p u) x t
  have e : (w.setCell p u).heap.size = w.heap.size := by simp [World.setCell]
  rwa [e] at h
set_option linter.unusedVariables false in
set_option linter.unusedSimpArgs false in
set_option maxRecDepth 100000 in
set_option maxHeartbeats 4000000 in
theorem l21Begin_any (w : World) : Calls Try.prog 65 #[] w (NewSt ⟨[-1, -1, -1, -1], [-1, -1, -1, -1]⟩ w) := by
  obtain ⟨i0, hi, hz0, hz1, hz2⟩ := info_of info_int
  have x0 := (Blk2s.new_ w 88 (.slice none 0 0) (.slice none 0 0)).alloc (.cells #[.slice none 0 0, .slice none 0 0] 88)
  have x1 := Blk2s.new_ (w.alloc (.cells #[.slice none 0 0, .slice none 0 0] 88)) 88 (.slice none 0 0) (.slice none 0 0)
  have b1 := ((Below.refl w.heap.size w).alloc (Nat.le_refl _) (.cells #[.slice none 0 0, .slice none 0 0] 88)).alloc (by simp) (.cells #[.slice none 0 0, .slice none 0 0] 88)
  rw [World.size_alloc] at x1
  have E0 : BegE w w.heap.size (w.heap.size + 1) 0 0 (.slice none 0 0) (.slice none 0 0) _ := ⟨x0, x1, ⟨Nat.le_refl _, by omega, Nat.le_succ _⟩, ⟨rfl, .inl ⟨rfl, rfl⟩⟩, ⟨rfl, .inl ⟨rfl, rfl⟩⟩, fun g h => (by cases h), b1⟩
  clear x0 x1 b1
  go_enter Try.func65, Try.ntmps65
  go_wp2_with fail
  go_loopw [2] (fun i wr => ∃ (k : Nat) (v u : Value), k ≤ 4 ∧ i = .int .i64 k ∧ BegE w w.heap.size (w.heap.size + 1) k k v u wr) (fun i _ => 4 - (intOf i).toNat)
  case atStart => exact ⟨0, _, _, Nat.zero_le _, rfl, E0⟩
  case round =>
    clear E0
    obtain ⟨k, v, u, hk, rfl, E⟩ := hrel
    obtain ⟨y0, y1, -⟩ := id E.2.1.reads
    have hz := E.size
    by_cases hlt : k < 4
    · have q1 : (k : Int) < 4 := by omega
      go_wp2_with (first
        | (at_builtin; refine wpList_append_lies _ rfl _ _ 24 rfl w.heap.size 3 i0 (.int .i64 0) 1 8 Try.underlying24 hi hz0 hz1 hz2 rfl (by decide) _ k _ rfl (World.ownsRow.alloc E.row0 _) ⟨wr.heap.size, 0, none⟩ 1 1 [.int .i64 (-1)] rfl rfl (cell_one_new _ _ _) (one_int _) (by omega) (by unfold maxLen; omega) (by omega) (by simp; omega) (wr.heap.size + 1) (by simp) ?_; intro gg cap w7 hown hg hat hlt7; have EE := E.add0 hown hg hat; obtain ⟨⟨t0, tf⟩, E7⟩ := EE; obtain ⟨s0, s1, -⟩ := id E7.2.1.reads; have z7 := E7.size)
        | (at_builtin; go_loud (refine wpList_append_lies _ rfl _ _ 24 rfl w.heap.size 3 i0 (.int .i64 0) 1 8 Try.underlying24 hi hz0 hz1 hz2 rfl (by decide) _ k _ rfl (World.ownsRow.alloc E7.row1 _) ⟨w7.heap.size, 0, none⟩ 1 1 [.int .i64 (-1)] rfl rfl (one_after _ _ _ _ _) (one_int _) (by omega) (by unfold maxLen; omega) (by omega) (by simp at z7 ⊢; omega) (w7.heap.size + 1) (by simp) ?_; intro gg2 cap2 w8 hown2 hg2 hat2 hlt8; have EE2 := E7.add1 hown2 hg2 (hat2.imp id (fun e => by simpa using e)); obtain ⟨⟨t2, tf2⟩, E8⟩ := EE2)))
      go_roundw
      case rel => exact ⟨k + 1, _, _, by omega, by go_num, E8⟩
      case measure => simp [intOf]; omega
    · have hk' : k = 4 := by omega
      subst hk'
      obtain ⟨E1, E2, E3, E4, E5, E6, E7⟩ := E
      obtain ⟨A, c, e4, r4, hc⟩ := E4.form
      obtain ⟨A2, c2, e5, r5, hc2⟩ := E5.form
      rw [nones_length] at e4 hc e5 hc2
      subst e4 e5
      obtain ⟨t0, t1, tf⟩ := id E1.reads
      have tf0 := tf 0
      have tf1 := tf 1
      have o1 := (E4.keptT (by decide) (but_set wr w.heap.size 0 (.slice A 4 c)) (blk_type E1)).keptT (by decide) (but_set _ w.heap.size 1 (.slice A2 4 c2)) (blk_type (E1.set0 _))
      have o2 := (E5.keptT (by decide) (but_set wr w.heap.size 0 (.slice A 4 c)) (blk_type E1)).keptT (by decide) (but_set _ w.heap.size 1 (.slice A2 4 c2)) (blk_type (E1.set0 _))
      have b7 := (E7.setCell (p := ⟨w.heap.size, 0, none⟩) (Nat.le_refl _) (.slice A 4 c)).setCell (p := ⟨w.heap.size, 1, none⟩) (Nat.le_refl _) (.slice A2 4 c2)
      obtain ⟨p0, p1, -⟩ := ((E1.set0 (.slice A 4 c)).set1 (.slice A2 4 c2)).reads
      obtain ⟨A', c', e, r6, -⟩ := o1.form
      obtain ⟨A2', c2', e2, r7, -⟩ := o2.form
      injection e with e q1 q2
      injection e2 with e2 q3 q4
      clear q1 q2 q3 q4
      subst e e2
      have H6 := hid r6
      have H7 := hid r7
      clear o1 o2 r4 r5 r6 r7 E2 E3 E4 E5 E6 E7
      go_wp2
      refine bodyPost_ret (v := .agg #[.slice A 4 c, .slice A2 4 c2]) (by simp [results, Try.results65, go_sem, p0, p1]) rfl ⟨_, rfl, ⟨A, c, A2, c2, rfl, H6.out, hc, H7.out, hc2⟩, b7⟩
end Go.Proofs.Ytjplondblkkpmaa
namespace Go.Proofs.Ytjplondblkkpmaa
open Go.RowKit Wo Pu Rf

/-- What RefsApply answers. -/
def Applied (zs : List Int) (us : List Up) (y : RWay) (w : World) (e : Ending) (w' : World) : Prop := ∃ A c, e = .returned (.tuple #[.slice A (applied zs us y).length c, .bool y.ok]) ∧ OwnI w' w.heap.size (.slice A (applied zs us y).length c) (applied zs us y) ∧ Below w.heap.size w w'
end Go.Proofs.Ytjplondblkkpmaa
namespace Go.Proofs.Ytjplondblkkpmaa
open Go.RowKit Wo Pu Rf

/-- The differences, if both are refs. -/
def difs (v : Bool) (a b : List Int) : List Up := if v then dif a b else []
/-- What is still to be told from k on. -/
def DifTo (a b : List Int) (us : List Up) (k : Nat) : Prop := dif a b = us ++ difL k (a.drop k) (b.drop k)
theorem DifTo.zero (a b : List Int) : DifTo a b [] 0 := rfl
theorem DifTo.same {a b : List Int} {us : List Up} {k : Nat} (h : DifTo a b us k) (ha : k < a.length) (hb : k < b.length) (e : a[k] = b[k]) : DifTo a b us (k + 1) := by
  unfold DifTo at h ⊢
  rw [h, List.drop_eq_getElem_cons ha, List.drop_eq_getElem_cons hb]
  conv => lhs; unfold difL
  rw [if_pos e]
  rfl
theorem DifTo.more {a b : List Int} {us : List Up} {k : Nat} (h : DifTo a b us k) (ha : k < a.length) (hb : k < b.length) (e : ¬ a[k] = b[k]) : DifTo a b (us ++ [⟨(k : Int), a[k], b[k]⟩]) (k + 1) := by
  unfold DifTo at h ⊢
  rw [h, List.drop_eq_getElem_cons ha, List.drop_eq_getElem_cons hb]
  conv => lhs; unfold difL
  rw [if_neg e, List.append_assoc]
  rfl
theorem DifTo.all {a b : List Int} {us : List Up} {k : Nat} (h : DifTo a b us k) (ha : a.length ≤ k) : dif a b = us := by
  unfold DifTo at h
  rw [h, List.drop_of_length_le ha]
  unfold difL
  rw [List.append_nil]
/-- Updates of the call's own. -/
def UpsOf (us : List Up) (w : World) (e : Ending) (w' : World) : Prop := ∃ A c, e = .returned (.slice A us.length c) ∧ OwnUps w' w.heap.size (.slice A us.length c) us ∧ Below w.heap.size w w'
theorem UpsOf.mk_ {us : List Up} {w w' : World} {v : Value} (ho : OwnUps w' w.heap.size v us) (hb : Below w.heap.size w w') : UpsOf us w (.returned v) w' := by
  obtain ⟨A, c, rfl, _⟩ := ho.form
  exact ⟨A, c, rfl, ho, hb⟩
theorem OwnUps.app {w' : World} {B : Nat} {v' : Value} {us : List Up} {u : Up} (h : w'.ownsRow B 38 3 v' (us.length + 1) (upsV us ++ [.int .i64 u.r, .int .i64 u.o, .int .i64 u.n])) : OwnUps w' B v' (us ++ [u]) := by
  unfold OwnUps
  rw [List.length_append, List.length_singleton, upsV_append, upsV_one]
  exact h
theorem row_three (w : World) (v0 v1 v2 : Value) (t : TypeId) : Row (w.alloc (.cells #[v0, v1, v2] t)) (w.alloc (.cells #[v0, v1, v2] t)).heap.size (some ⟨w.heap.size, 0, none⟩) [v0, v1, v2] := .inr ⟨_, rfl, by simp, new_three w v0 v1 v2 t⟩
set_option maxRecDepth 100000 in
set_option maxHeartbeats 8000000 in
theorem specRefsDiffer_is (v : Bool) (A A2 : Option Addr) (c c2 : Nat) (a b : List Int) (w : World) (ha : Row w w.heap.size A (ints a)) (hb : Row w w.heap.size A2 (ints b)) (hma : a.length ≤ 1048600) (hmb : b.length ≤ 1048600) (hv : v = true ↔ RV a ∧ RV b) :
    Calls Try.prog 49 #[.slice A a.length c, .slice A2 b.length c2] w (UpsOf (difs v a b) w) := by
  obtain ⟨i0, hi, hz0, hz1, hz2⟩ := info_of info_up
  obtain ⟨va, hva⟩ := bool_of (RV a)
  obtain ⟨vb, hvb⟩ := bool_of (RV b)
  have hvv : v = (va && vb) := by
    rw [Bool.eq_iff_iff, hv, Bool.and_eq_true, hva, hvb]
  have CA : Hid (∀ x, Row x x.heap.size A (ints a) → Calls Try.prog 71 #[.slice A a.length c] x (Same (.bool va) x)) := fun x h => specRefsValid_is va A c a x _ h hma hva
  have CB : Hid (∀ x, Row x x.heap.size A2 (ints b) → Calls Try.prog 71 #[.slice A2 b.length c2] x (Same (.bool vb) x)) := fun x h => specRefsValid_is vb A2 c2 b x _ h hmb hvb
  have al := (Below.refl w.heap.size w).alloc (Nat.le_refl _) (.cells #[] 38)
  have ra := (ha.below al (Nat.le_refl _)).more al.size
  have rb := (hb.below al (Nat.le_refl _)).more al.size
  have on0 := OwnUps.nil_new (w := w) (Nat.le_refl _)
  clear hv
  cases va with
  | false =>
    subst hvv
    clear hva hvb
    go_enter Try.func49, Try.ntmps49
    go_wp2_with fail
    go_loopw [5, 6] (fun q i wr => i = .int .i64 0 ∧ q = .slice (some ⟨w.heap.size, 0, none⟩) 0 0 ∧ w.alloc (.cells #[] 38) = wr) (fun _ _ _ => 0)
    case atStart => exact ⟨rfl, rfl, rfl⟩
    case round =>
      obtain ⟨rfl, rfl, rfl⟩ := hrel
      go_wp2_with fail
      refine (CA.out _ ra).mono ?_
      rintro e w1 ⟨rfl, rfl⟩
      go_wp2_with fail
      go_ret
      exact .mk_ on0 al
  | true =>
    cases vb with
    | false =>
      subst hvv
      clear hva hvb
      go_enter Try.func49, Try.ntmps49
      go_wp2_with fail
      go_loopw [5, 6] (fun q i wr => i = .int .i64 0 ∧ q = .slice (some ⟨w.heap.size, 0, none⟩) 0 0 ∧ w.alloc (.cells #[] 38) = wr) (fun _ _ _ => 0)
      case atStart => exact ⟨rfl, rfl, rfl⟩
      case round =>
        obtain ⟨rfl, rfl, rfl⟩ := hrel
        go_wp2_with fail
        refine (CA.out _ ra).mono ?_
        rintro e w1 ⟨rfl, rfl⟩
        go_wp2_with fail
        refine (CB.out _ rb).mono ?_
        rintro e w1 ⟨rfl, rfl⟩
        go_wp2_with fail
        go_ret
        exact .mk_ on0 al
    | true =>
      have la := hid (hva.1 rfl).1
      have lb := hid (hvb.1 rfl).1
      obtain rfl : v = true := hvv
      clear hva hvb ra rb
      go_enter Try.func49, Try.ntmps49
      go_wp2_with fail
      go_loopw [5, 6] (fun q i wr => ∃ (k : Nat) (us : List Up), k ≤ 4 ∧ i = .int .i64 k ∧ us.length ≤ k ∧ OwnUps wr w.heap.size q us ∧ Hid (DifTo a b us k) ∧ Below w.heap.size w wr) (fun _ i _ => 4 - (intOf i).toNat)
      case atStart => exact ⟨0, [], Nat.zero_le _, rfl, Nat.le_refl _, on0, .zero a b, al⟩
      case round =>
        obtain ⟨k, us, hk, rfl, hul, ho, H, hbr⟩ := hrel
        clear on0 al
        have hz := hbr.size
        have ra := (ha.below hbr (Nat.le_refl _)).more hz
        have rb := (hb.below hbr (Nat.le_refl _)).more hz
        by_cases hlt : k < 4
        · have ha4 : k < a.length := by rw [la.out]; exact hlt
          have hb4 : k < b.length := by rw [lb.out]; exact hlt
          obtain ⟨ad, rfl, hd1, c1⟩ := ra.int_ ha4
          obtain ⟨ad2, rfl, hd2, d1⟩ := rb.int_ hb4
          have q0 : (0 : Int) ≤ (k : Int) := by omega
          have q1 : (k : Int) < (a.length : Int) := by omega
          have q2 : (k : Int) < (b.length : Int) := by omega
          by_cases heq : a[k] = b[k]
          · have e0 : (a[k] != b[k]) = false := by rw [bne_eq_false_iff_eq]; exact heq
            have HN := hid (H.out.same ha4 hb4 heq)
            clear H heq
            go_wp2_with fail
            refine (CA.out _ ra).mono ?_
            rintro e w1 ⟨rfl, rfl⟩
            go_wp2_with fail
            refine (CB.out _ rb).mono ?_
            rintro e w1 ⟨rfl, rfl⟩
            go_wp2_with fail
            go_quiet (fail)
            go_wp2
            go_roundw
            case rel => exact ⟨k + 1, us, by omega, by go_num, by omega, ho, HN, Wo.Below.drewN hbr _⟩
            case measure => simp [intOf]; omega
          · have e0 : (a[k] != b[k]) = true := by rw [bne_iff_ne]; exact heq
            have HN := hid (H.out.more ha4 hb4 heq)
            obtain ⟨x, hx⟩ : ∃ x, a[k] = x := ⟨_, rfl⟩
            obtain ⟨y, hy⟩ : ∃ y, b[k] = y := ⟨_, rfl⟩
            rw [hx, hy] at HN e0
            rw [hx] at c1
            rw [hy] at d1
            clear H heq hx hy
            go_wp2_with fail
            refine (CA.out _ ra).mono ?_
            rintro e w1 ⟨rfl, rfl⟩
            go_wp2_with fail
            refine (CB.out _ rb).mono ?_
            rintro e w1 ⟨rfl, rfl⟩
            clear CA CB
            go_wp2_with fail
            go_quiet (fail)
            go_wp2_with fail
            have ho' : OwnUps (wr.drewN nq) w.heap.size u5 us := ho
            have hbr' : Below w.heap.size w (wr.drewN nq) := Wo.Below.drewN hbr nq
            have c1' : (wr.drewN nq).cell? (ad.add k) = some (.int .i64 x) := c1
            have d1' : (wr.drewN nq).cell? (ad2.add k) = some (.int .i64 y) := d1
            clear ho hbr c1 d1 ra rb
            generalize wr.drewN nq = W at *
            have hzW := hbr'.size
            have oA : (W.drew.alloc (.cells #[.int .i64 (k : Int), .int .i64 x, .int .i64 y] 38)).ownsRow w.heap.size 38 3 u5 us.length (upsV us) := World.ownsRow.alloc (w := W.drew) ho' _
            have rA := row_three W.drew (.int .i64 (k : Int)) (.int .i64 x) (.int .i64 y) 38
            have bA : Below w.heap.size w (W.drew.alloc (.cells #[.int .i64 (k : Int), .int .i64 x, .int .i64 y] 38)) := (hbr'.drew).alloc hzW _
            have lt1 := World.ownsRow.lt oA
            go_region_law (refine step_append_row _ (by rfl) _ _ 34 (by rfl) w.heap.size 38 i0 (.agg #[.int .i64 0, .int .i64 0, .int .i64 0]) 3 24 Try.underlying34 hi hz0 hz1 hz2 rfl (by decide) u5 us.length (upsV us) (by rfl) oA _ (some ⟨W.heap.size, 0, none⟩) 1 1 [.int .i64 (k : Int), .int .i64 x, .int .i64 y] (by rfl) rA rfl (upV_cells ⟨(k : Int), x, y⟩) (by unfold maxLen; omega) (by omega) (by simp; omega) ?_; intro v3 w7 ho3 hg3; have b7 : Below w.heap.size w w7 := bA.grown hg3 (by simp; omega) (fun j hj => (lt1 j hj).1); have o7 := OwnUps.app (u := ⟨(k : Int), x, y⟩) ho3; clear ho3 hg3)
            all_goals
              go_wp2
              go_roundw
              case rel => exact ⟨k + 1, us ++ [⟨(k : Int), x, y⟩], by omega, by go_num, by rw [List.length_append, List.length_singleton]; omega, o7, HN, b7⟩
              case measure => simp [intOf]; omega
        · have hk' : k = 4 := by omega
          subst hk'
          have HD := hid (H.out.all (by rw [la.out]; omega))
          clear H
          go_wp2
          go_ret
          unfold difs
          rw [if_pos rfl, HD.out]
          exact .mk_ ho hbr
end Go.Proofs.Ytjplondblkkpmaa
namespace Go.Proofs.Ytjplondblkkpmaa
open Go.RowKit Wo Pu Rf

/-- A drawn id, seldom a wrong one. -/
def ValDrawn (R : Nat) (q : Int) (w : World) (e : Ending) (w' : World) : Prop := ∃ x : Int, e = .returned (.int .i64 x) ∧ -2 ≤ x ∧ x ≤ 991 ∧ Rd w' R (q + 2) ∧ But R w w'
set_option maxHeartbeats 4000000 in
theorem l92Value_any (R : Nat) (q : Int) (w : World) (hR : Rd w R q) (hq : q ≤ 900000000) :
    Calls Try.prog 91 #[.pointer (some ⟨R, 0, none⟩)] w (ValDrawn R q w) := by
  go_enter Try.func91, Try.ntmps91
  go_wp2_with fail
  refine (pick_any R q 30 w hR (by omega) (by omega) (by omega)).mono ?_
  rintro e w1 ⟨n1, rfl, a0, a1, hR1, hT1⟩
  by_cases h0 : n1 = 0
  · have e0 : (n1 == 0) = true := by rw [h0]; rfl
    clear h0
    go_wp2_with fail
    have hbA := (Below.refl w1.heap.size w1).alloc (Nat.le_refl _) (.cells #[.int .i64 (-2), .int .i64 990, .int .i64 991] 3)
    have hz := hR1.lt
    refine (pick_any R (q + 1) 3 _ (hR1.below hbA hz) (by omega) (by omega) (by omega)).mono ?_
    rintro e w2 ⟨n2, rfl, b0, b1, hR2, hT2⟩
    have bx : Box3 w2 w1.heap.size (.int .i64 (-2)) (.int .i64 990) (.int .i64 991) := hT2.box (Box3.new_ w1 _ _ _ _) (by omega)
    have hTT := (hT1.trans (.of_below hbA)).trans hT2
    obtain ⟨_, p0, p1, p2⟩ := bx
    have key : n2 = 0 ∨ n2 = 1 ∨ n2 = 2 := by omega
    rcases key with rfl | rfl | rfl
    · go_wp2
      go_ret
      exact ⟨_, rfl, by omega, by omega, hR2.more (by omega), hTT⟩
    · go_wp2
      go_ret
      exact ⟨_, rfl, by omega, by omega, hR2.more (by omega), hTT⟩
    · go_wp2
      go_ret
      exact ⟨_, rfl, by omega, by omega, hR2.more (by omega), hTT⟩
  · have e0 : (n1 == 0) = false := by rw [beq_eq_false_iff_ne]; omega
    go_wp2_with fail
    refine (pick_any R (q + 1) 6 _ hR1 (by omega) (by omega) (by omega)).mono ?_
    rintro e w2 ⟨n2, rfl, b0, b1, hR2, hT2⟩
    go_wp2
    go_ret
    exact ⟨_, rfl, by omega, by omega, hR2.more (by omega), hT1.trans hT2⟩

/-- The first k of a row of the call's own. -/
theorem own_cut {w : World} {B n c sz k : Nat} {e : TypeId} {A : Option Addr} {xs : List Value} (h : w.ownsRow B e sz (.slice A n c) n xs) (hk : k ≤ n) : w.ownsRow B e sz (.slice A k c) k (xs.take (k * sz)) := by
  obtain ⟨h1, h2⟩ := h
  refine ⟨by rw [List.length_take, h1]; exact Nat.min_eq_left (Nat.mul_le_mul_right sz hk), ?_⟩
  rcases h2 with ⟨hv, h0⟩ | ⟨g, cap, cur, hv, hB, hh, hn, hm, hcs, htk⟩
  · injection hv with e1 e2 e3
    subst e1
    subst e3
    have : k = 0 := by omega
    subst this
    exact .inl ⟨rfl, rfl⟩
  · injection hv with e1 e2 e3
    subst e1
    subst e3
    exact .inr ⟨g, c, cur, rfl, hB, hh, by omega, hm, hcs, by rw [← htk, List.take_take, Nat.min_eq_left (Nat.mul_le_mul_right sz hk)]⟩
theorem OwnI.cut {w : World} {B c k : Nat} {A : Option Addr} {zs : List Int} (h : OwnI w B (.slice A zs.length c) zs) (hk : k ≤ zs.length) : OwnI w B (.slice A k c) (zs.take k) := by
  have h1 := own_cut h hk
  have e : (zs.take k).length = k := by rw [List.length_take]; omega
  unfold OwnI
  rw [e]
  have e2 : ints (zs.take k) = (ints zs).take (k * 1) := by unfold ints; rw [List.map_take, Nat.mul_one]
  rw [e2]
  exact h1
/-- Drawn refs. -/
def RefsDrawn (R : Nat) (q : Int) (w : World) (e : Ending) (w' : World) : Prop := ∃ v zs, e = .returned v ∧ OwnI w' w.heap.size v zs ∧ zs.length ≤ 4 ∧ Rd w' R (q + 12) ∧ But R w w'
end Go.Proofs.Ytjplondblkkpmaa
namespace Go.Proofs.Ytjplondblkkpmaa
open Go.RowKit Wo Pu Rf

/-- None of the first k of a names a ref of b. -/
def NoTo (a b : List Up) (k : Nat) : Prop := ∀ i (h : i < a.length), i < k → ∀ v ∈ b, a[i].r ≠ v.r
theorem NoTo.zero (a b : List Up) : NoTo a b 0 := fun _ _ h => absurd h (Nat.not_lt_zero _)
/-- x is the ref of none of the first k of b. -/
def NoIn (x : Int) (b : List Up) (k : Nat) : Prop := ∀ i (h : i < b.length), i < k → x ≠ b[i].r
theorem NoIn.zero (x : Int) (b : List Up) : NoIn x b 0 := fun _ _ h => absurd h (Nat.not_lt_zero _)
theorem NoIn.next {x : Int} {b : List Up} {k : Nat} (h : NoIn x b k) (hk : k < b.length) (e : x ≠ b[k].r) : NoIn x b (k + 1) := fun i hi hl => by
  by_cases e2 : i = k
  · subst e2; exact e
  · exact h i hi (by omega)
theorem NoTo.next {a b : List Up} {k : Nat} (h : NoTo a b k) (hk : k < a.length) (e : NoIn a[k].r b b.length) : NoTo a b (k + 1) := fun i hi hl v hv => by
  by_cases e2 : i = k
  · subst e2
    obtain ⟨j, hj, rfl⟩ := List.getElem_of_mem hv
    exact e j hj hj
  · exact h i hi (by omega) v hv
theorem NoTo.none {a b : List Up} (h : NoTo a b a.length) : ¬ Cross a b := fun ⟨_, _, u, hu, v, hv, e⟩ => by
  obtain ⟨i, hi, rfl⟩ := List.getElem_of_mem hu
  exact h i hi hi v hv e
end Go.Proofs.Ytjplondblkkpmaa
