/-
  Walks: what records say of a transaction, by the model.
  Walk: a shard without records, by the model.
  The coordinator with the slices $SA and $SB is stored as the answer, with the word $BB.
  The coordinator with the slices $SA and $SB is stored as the answer, with the word $BB.
  The coordinator with the slices $SA and $SB is stored as the answer, with the word $BB.
  Walks: the laws' own comparisons of records, shards and states.
  Walks: sizes of records and shards by the laws' own helpers; copies; comparisons.
  The coordinator with the slices $SA and $SB is stored as the answer, with the word $BB.
  The coordinator with the slices $SA and $SB is stored as the answer, with the word $BB.
  The coordinator with the slices $SA and $SB is stored as the answer, with the word $BB.
  Walks: copies of parts, transactions and coordinators by the laws' own helpers.
  Plain facts on snapshots: how many first transactions all shards have, and a shard's refs after some of them. No program is named here.
  What the program's ledger holds: a list of 29 cells.
  A coordinator and the ledgers of three shards in memory, as one list of cells.
-/
import Derived.Test.YteaibflloeipaaaGreatDoorM2
import Derived.Deep.RegionHeld3
import Derived.Deep.Cut
import Derived.Deep.MidRow
set_option linter.unusedSimpArgs false
set_option linter.unusedVariables false
namespace Go.Proofs.YteaibflloeipaaaGreatDoor
open Go.RowKit Wo Pu Rf Lk Sh

theorem ask_take {rs : List Rec} {k : Nat} (h : k < rs.length) (t : Int) : Sh.ask (rs.take (k + 1)) t = if rs[k].t = t then rs[k].k else Sh.ask (rs.take k) t := by
  rw [List.take_succ_eq_append_getElem h, ask_snoc]
/-- None of the first k is a vote for t. -/
def NoV (rs : List Rec) (t : Int) (k : Nat) : Prop := ∀ j (h : j < rs.length), j < k → ¬ (rs[j].t = t ∧ rs[j].k = 1)
theorem NoV.zero (rs : List Rec) (t : Int) : NoV rs t 0 := fun _ _ h => absurd h (Nat.not_lt_zero _)
theorem NoV.next {rs : List Rec} {t : Int} {k : Nat} (h : NoV rs t k) (hk : k < rs.length) (e : ¬ (rs[k].t = t ∧ rs[k].k = 1)) : NoV rs t (k + 1) := fun j hj hl => by
  by_cases e2 : j = k
  · subst e2; exact e
  · exact h j hj (by omega)
theorem NoV.upd {rs : List Rec} {t : Int} : ∀ {k : Nat}, NoV rs t k → (hk : k < rs.length) → rs[k].t = t ∧ rs[k].k = 1 → Sh.upd rs t = rs[k].us := by
  induction rs with
  | nil => intro k _ hk; simp at hk
  | cons a rs ih =>
    intro k h hk e
    cases k with
    | zero => show (if a.t = t ∧ a.k = 1 then a.us else _) = _; rw [if_pos (show a.t = t ∧ a.k = 1 from e)]; rfl
    | succ k =>
      show (if a.t = t ∧ a.k = 1 then a.us else Sh.upd rs t) = _
      rw [if_neg (show ¬ (a.t = t ∧ a.k = 1) from h 0 (by simp) (by omega))]
      exact ih (fun j hj hl => h (j + 1) (by simpa using hj) (by omega)) (by simpa using hk) e
theorem NoV.none {rs : List Rec} {t : Int} (h : NoV rs t rs.length) : Sh.upd rs t = [] := by
  induction rs with
  | nil => rfl
  | cons a rs ih =>
    show (if a.t = t ∧ a.k = 1 then a.us else Sh.upd rs t) = _
    rw [if_neg (show ¬ (a.t = t ∧ a.k = 1) from h 0 (by simp) (by simp))]
    exact ih fun j hj hl => h (j + 1) (by simpa using hj) (by simpa using hl)
set_option maxHeartbeats 2000000 in
theorem l21Ask_is (z : Int) (A : Option Addr) (c : Nat) (rs : List Rec) (t : Int) (w : World) (B : Nat) (h : Recs w B A rs) (hn : rs.length ≤ 1048600) (hz : Sh.ask rs t = z) :
    Calls Tryz.prog 78 #[.slice A rs.length c, .int .i64 t] w (Same (.int .i64 z) w) := by
  have HZ := hid hz
  clear hz
  go_enter Tryz.func78, Tryz.ntmps78
  go_wp2_with fail
  go_loop [5, 6] (fun s i => ∃ k : Nat, k ≤ rs.length ∧ i = .int .i64 k ∧ s = .int .i64 (Sh.ask (rs.take k) t)) (fun _ i => rs.length - (intOf i).toNat)
  case atStart => exact ⟨0, Nat.zero_le _, rfl, rfl⟩
  case round =>
    obtain ⟨k, hk, rfl, rfl⟩ := hrel
    obtain ⟨y, hy⟩ : ∃ y, Sh.ask (rs.take k) t = y := ⟨_, rfl⟩
    rw [hy]
    have HY := hid hy
    clear hy
    by_cases hlt : k < rs.length
    · obtain ⟨r, ad, A', c', ho, rfl, ha, g0, g1, g2, -, -⟩ := h.rec hlt
      have q0 : (0 : Int) ≤ (k : Int) := by omega
      have q1 : (k : Int) < (rs.length : Int) := by omega
      by_cases he : r.t = t
      · have e0 : (r.t == t) = true := by rw [beq_iff_eq]; exact he
        have HN : Hid (Sh.ask (rs.take (k + 1)) t = r.k) := by show _ = _; rw [ask_take hlt, ho, if_pos he]
        clear ho he HY
        go_wp2
        go_round
        case rel => exact ⟨k + 1, by omega, by go_num, by rw [HN.out]⟩
        case measure => simp [intOf]; omega
      · have e0 : (r.t == t) = false := by rw [beq_eq_false_iff_ne]; exact he
        have HN : Hid (Sh.ask (rs.take (k + 1)) t = y) := by show _ = _; rw [ask_take hlt, ho, if_neg he, HY.out]
        clear ho he HY
        go_wp2
        go_round
        case rel => exact ⟨k + 1, by omega, by go_num, by rw [HN.out]⟩
        case measure => simp [intOf]; omega
    · have hk' : k = rs.length := by omega
      subst hk'
      have F : Hid (y = z) := by
        show y = z
        rw [← HY.out, List.take_length, HZ.out]
      clear HY
      go_wp2
      go_ret
      rw [F.out]
      exact ⟨rfl, rfl⟩
/-- Behind it: updates to be read. -/
def ShownU (us : List Up) (w : World) (e : Ending) (w' : World) : Prop := ∃ A c, e = .returned (.slice A us.length c) ∧ us.length ≤ c ∧ Row w' w'.heap.size A (upsV us) ∧ Below w.heap.size w w'
set_option maxHeartbeats 2000000 in
theorem l21Updates_any (us : List Up) (A : Option Addr) (c : Nat) (rs : List Rec) (t : Int) (w : World) (h : Recs w w.heap.size A rs) (hn : rs.length ≤ 1048600) (hu : Sh.upd rs t = us) :
    Calls Tryz.prog 88 #[.slice A rs.length c, .int .i64 t] w (ShownU us w) := by
  have HU := hid hu
  clear hu
  go_enter Tryz.func88, Tryz.ntmps88
  go_wp2_with fail
  go_loop [5] (fun i => ∃ k : Nat, k ≤ rs.length ∧ i = .int .i64 k ∧ Hid (NoV rs t k)) (fun i => rs.length - (intOf i).toNat)
  case atStart => exact ⟨0, Nat.zero_le _, rfl, NoV.zero _ _⟩
  case round =>
    obtain ⟨k, hk, rfl, H⟩ := hrel
    by_cases hlt : k < rs.length
    · obtain ⟨r, ad, A', c', ho, rfl, ha, g0, g1, g2, g3, g4⟩ := h.rec hlt
      have q0 : (0 : Int) ≤ (k : Int) := by omega
      have q1 : (k : Int) < (rs.length : Int) := by omega
      by_cases he : r.t = t
      · have e0 : (r.t == t) = true := by rw [beq_iff_eq]; exact he
        by_cases hk1 : r.k = 1
        · have e1 : (r.k == 1) = true := by rw [beq_iff_eq]; exact hk1
          have F : Hid (r.us = us) := by
            show _ = _
            have := H.out.upd hlt (by rw [ho]; exact ⟨he, hk1⟩)
            rw [HU.out, ho] at this
            exact this.symm
          clear H he hk1 ho
          go_wp2
          go_ret
          rw [← F.out]
          exact ⟨A', c', rfl, g3, g4, Below.refl _ _⟩
        · have e1 : (r.k == 1) = false := by rw [beq_eq_false_iff_ne]; exact hk1
          have HN := hid (H.out.next hlt (by rw [ho]; exact fun e => hk1 e.2))
          clear H he hk1 ho
          go_wp2
          go_round
          case rel => exact ⟨k + 1, by omega, by go_num, HN⟩
          case measure => simp [intOf]; omega
      · have e0 : (r.t == t) = false := by rw [beq_eq_false_iff_ne]; exact he
        have HN := hid (H.out.next hlt (by rw [ho]; exact fun e => he e.1))
        clear H he ho
        go_wp2
        go_round
        case rel => exact ⟨k + 1, by omega, by go_num, HN⟩
        case measure => simp [intOf]; omega
    · have hk' : k = rs.length := by omega
      subst hk'
      have F : Hid (us = []) := by
        show us = []
        rw [← HU.out]
        exact H.out.none
      clear H
      have al := (Below.refl w.heap.size w).alloc (Nat.le_refl _) (.cells #[] 164)
      go_wp2
      go_ret
      rw [F.out]
      exact ⟨_, _, rfl, Nat.le_refl _, .inl rfl, al⟩
end Go.Proofs.YteaibflloeipaaaGreatDoor
namespace Go.Proofs.YteaibflloeipaaaGreatDoor
open Go.RowKit Wo Pu Rf Lk Sh

/-- Two lists do not lie in one block. -/
def AptI (v u : Value) : Prop := ∀ g, v.ownBlock = some g → u.ownBlock ≠ some g
theorem AptI.symm {v u : Value} (h : AptI v u) : AptI u v := fun g h1 h2 => h g h2 h1
theorem OwnI.keep_ {w w' : World} {B : Nat} {v u : Value} {zs : List Int} (h : OwnI w B v zs) (hg : w.grownBy w' u.ownBlock) (ha : AptI v u) : OwnI w' B v zs :=
  World.ownsRow.kept h hg (by
    rcases hv : v.ownBlock with _ | k
    · exact .inl rfl
    · exact .inr (fun e => ha k hv e.symm))
theorem OwnI.keptT {w w' : World} {B : Nat} {v : Value} {zs : List Int} {T : TypeId} {row : Option Nat} (h : OwnI w B v zs) (t2 : 3 ≠ T) (hg : w.grownBy w' row) (hr : ∀ g, row = some g → ∃ cur fr, w.heap[g]? = some (.cells cur T fr)) : OwnI w' B v zs := row_far_type h t2 hg hr
theorem AptI.new_ {w : World} {B g n c : Nat} {v u : Value} {zs : List Int} (h : AptI u v) (hu : OwnI w B u zs) (hat : v.ownBlock = some g ∨ w.heap.size ≤ g) : AptI u (.slice (some ⟨g, 0, none⟩) n c) := fun q h1 h2 => by
  have h2' : some g = some q := h2
  injection h2' with h2'
  subst h2'
  rcases hat with e | e
  · exact h g h1 e
  · have := (World.ownsRow.lt hu g h1).2; omega
/-- k times none. -/
def nones (k : Nat) : List Int := List.replicate k (-1)
theorem nones_succ (k : Nat) : nones (k + 1) = nones k ++ [-1] := by unfold nones; rw [List.replicate_succ']
theorem nones_length (k : Nat) : (nones k).length = k := List.length_replicate
/-- The state so far: the result at r, the state at g. -/
def BegE (w : World) (r g k j : Nat) (v u : Value) (wr : World) : Prop :=
  Blk2s wr r 119 (.slice none 0 0) (.slice none 0 0) ∧ Blk2s wr g 119 v u ∧ (w.heap.size ≤ r ∧ r ≠ g ∧ w.heap.size ≤ g) ∧ OwnI wr w.heap.size v (nones k) ∧ OwnI wr w.heap.size u (nones j) ∧ AptI v u ∧ Below w.heap.size w wr
section
variable {w wr w7 : World} {r g k j gg cap : Nat} {v u : Value}
theorem BegE.grow (h : BegE w r g k j v u wr) (hg : (wr.alloc (.cells #[.int .i64 (-1)] 3)).grownBy w7 v.ownBlock) :
    Blk2s w7 r 119 (.slice none 0 0) (.slice none 0 0) ∧ Blk2s w7 g 119 v u ∧ OwnI w7 w.heap.size u (nones j) ∧ Below w.heap.size w w7 := by
  obtain ⟨h1, h2, ⟨i1, i2, i3⟩, h4, h5, h6, h7⟩ := h
  have al := (Below.refl wr.heap.size wr).alloc (Nat.le_refl _) (.cells #[.int .i64 (-1)] 3)
  have z := h7.size
  have a1 := h1.alloc (.cells #[.int .i64 (-1)] 3)
  have a2 := h2.alloc (.cells #[.int .i64 (-1)] 3)
  have r4 : (wr.alloc (.cells #[.int .i64 (-1)] 3)).ownsRow w.heap.size 3 1 v (nones k).length (ints (nones k)) := World.ownsRow.alloc h4 _
  exact ⟨a1.grown hg (blk_ne_row a1 r4 (by decide)), a2.grown hg (blk_ne_row a2 r4 (by decide)), OwnI.keep_ (World.ownsRow.alloc h5 _) hg h6.symm, (h7.alloc z _).grown hg (by simp; omega) (fun q hq => (World.ownsRow.lt r4 q hq).1)⟩
theorem BegE.add0 (h : BegE w r g k j v u wr) (hown : w7.ownsRow w.heap.size 3 1 (.slice (some ⟨gg, 0, none⟩) (k + 1) cap) (k + 1) (ints (nones k) ++ [.int .i64 (-1)]))
    (hg : (wr.alloc (.cells #[.int .i64 (-1)] 3)).grownBy w7 v.ownBlock) (hat : v.ownBlock = some gg ∨ gg = wr.heap.size + 1) :
    (w7.cell? ⟨g, 0, none⟩ = some v ∧ w7.frozen? ⟨g, 0, none⟩ = false) ∧ BegE w r g (k + 1) j (.slice (some ⟨gg, 0, none⟩) (k + 1) cap) u (w7.setCell ⟨g, 0, none⟩ (.slice (some ⟨gg, 0, none⟩) (k + 1) cap)) := by
  obtain ⟨k1, k2, k3, k4⟩ := h.grow hg
  obtain ⟨h1, h2, ⟨i1, i2, i3⟩, h4, h5, h6, h7⟩ := h
  have o1 : OwnI w7 w.heap.size (.slice (some ⟨gg, 0, none⟩) (k + 1) cap) (nones (k + 1)) := by
    rw [nones_succ]
    refine OwnI.app ?_
    rw [nones_length]
    exact hown
  refine ⟨⟨k2.reads.1, k2.reads.2.2 0⟩, k1.far i2 _, k2.set0 _, ⟨i1, i2, i3⟩, o1.keptT (by decide) (but_set w7 g 0 _) (blk_type k2), k3.keptT (by decide) (but_set w7 g 0 _) (blk_type k2), ?_, k4.setCell (p := ⟨g, 0, none⟩) i3 _⟩
  exact (AptI.new_ h6.symm h5 (hat.imp id fun e => by omega)).symm
theorem BegE.swap (h : BegE w r g k j v u wr) : OwnI wr w.heap.size u (nones j) ∧ AptI u v := ⟨h.2.2.2.2.1, h.2.2.2.2.2.1.symm⟩
theorem BegE.add1 (h : BegE w r g k j v u wr) (hown : w7.ownsRow w.heap.size 3 1 (.slice (some ⟨gg, 0, none⟩) (j + 1) cap) (j + 1) (ints (nones j) ++ [.int .i64 (-1)]))
    (hg : (wr.alloc (.cells #[.int .i64 (-1)] 3)).grownBy w7 u.ownBlock) (hat : u.ownBlock = some gg ∨ gg = wr.heap.size + 1) :
    (w7.cell? ⟨g, 1, none⟩ = some u ∧ w7.frozen? ⟨g, 1, none⟩ = false) ∧ BegE w r g k (j + 1) v (.slice (some ⟨gg, 0, none⟩) (j + 1) cap) (w7.setCell ⟨g, 1, none⟩ (.slice (some ⟨gg, 0, none⟩) (j + 1) cap)) := by
  obtain ⟨h1, h2, ⟨i1, i2, i3⟩, h4, h5, h6, h7⟩ := h
  have z := h7.size
  have a1 := h1.alloc (.cells #[.int .i64 (-1)] 3)
  have a2 := h2.alloc (.cells #[.int .i64 (-1)] 3)
  have r4 : (wr.alloc (.cells #[.int .i64 (-1)] 3)).ownsRow w.heap.size 3 1 u (nones j).length (ints (nones j)) := World.ownsRow.alloc h5 _
  have k1 := a1.grown hg (blk_ne_row a1 r4 (by decide))
  have k2 := a2.grown hg (blk_ne_row a2 r4 (by decide))
  have k3 : OwnI w7 w.heap.size v (nones k) := OwnI.keep_ (World.ownsRow.alloc h4 _) hg h6
  have k4 : Below w.heap.size w w7 := (h7.alloc z _).grown hg (by simp; omega) (fun q hq => (World.ownsRow.lt r4 q hq).1)
  have o1 : OwnI w7 w.heap.size (.slice (some ⟨gg, 0, none⟩) (j + 1) cap) (nones (j + 1)) := by
    rw [nones_succ]
    refine OwnI.app ?_
    rw [nones_length]
    exact hown
  exact ⟨⟨k2.reads.2.1, k2.reads.2.2 1⟩, k1.far i2 _, k2.set1 _, ⟨i1, i2, i3⟩, k3.keptT (by decide) (but_set w7 g 1 _) (blk_type k2), o1.keptT (by decide) (but_set w7 g 1 _) (blk_type k2), AptI.new_ h6 h4 (hat.imp id fun e => by omega), k4.setCell (p := ⟨g, 1, none⟩) i3 _⟩
theorem BegE.size (h : BegE w r g k j v u wr) : w.heap.size ≤ wr.heap.size := h.2.2.2.2.2.2.size
theorem BegE.row0 (h : BegE w r g k j v u wr) : wr.ownsRow w.heap.size 3 1 v k (ints (nones k)) := by
  have := h.2.2.2.1
  unfold OwnI at this
  rwa [nones_length] at this
theorem BegE.row1 (h : BegE w r g k j v u wr) : wr.ownsRow w.heap.size 3 1 u j (ints (nones j)) := by
  have := h.2.2.2.2.1
  unfold OwnI at this
  rwa [nones_length] at this
end
theorem one_after (w : World) (p : Addr) (u x : Value) (t : TypeId) : ∀ j y, [x][j]? = some y → ((w.setCell p u).alloc (.cells #[x] t)).cell? ((⟨w.heap.size, 0, none⟩ : Addr).add j) = some y := by
  have h := cell_one_new (w.setCell p u) x t
  have e : (w.setCell p u).heap.size = w.heap.size := by simp [World.setCell]
  rwa [e] at h
set_option maxRecDepth 100000 in
set_option maxHeartbeats 4000000 in
theorem l21Begin_any (w : World) : Calls Tryz.prog 85 #[] w (NewSt ⟨[-1, -1, -1, -1], [-1, -1, -1, -1]⟩ w) := by
  obtain ⟨i0, hi, hz0, hz1, hz2⟩ := info_of info_int
  have x0 := (Blk2s.new_ w 119 (.slice none 0 0) (.slice none 0 0)).alloc (.cells #[.slice none 0 0, .slice none 0 0] 119)
  have x1 := Blk2s.new_ (w.alloc (.cells #[.slice none 0 0, .slice none 0 0] 119)) 119 (.slice none 0 0) (.slice none 0 0)
  have b1 := ((Below.refl w.heap.size w).alloc (Nat.le_refl _) (.cells #[.slice none 0 0, .slice none 0 0] 119)).alloc (by simp) (.cells #[.slice none 0 0, .slice none 0 0] 119)
  rw [World.size_alloc] at x1
  have E0 : BegE w w.heap.size (w.heap.size + 1) 0 0 (.slice none 0 0) (.slice none 0 0) _ := ⟨x0, x1, ⟨Nat.le_refl _, by omega, Nat.le_succ _⟩, ⟨rfl, .inl ⟨rfl, rfl⟩⟩, ⟨rfl, .inl ⟨rfl, rfl⟩⟩, fun g h => (by cases h), b1⟩
  clear x0 x1 b1
  go_enter Tryz.func85, Tryz.ntmps85
  go_wp2_with fail
  go_loopw [2] (fun i wr => ∃ (k : Nat) (v u : Value), k ≤ 4 ∧ i = .int .i64 k ∧ BegE w w.heap.size (w.heap.size + 1) k k v u wr) (fun i _ => 4 - (intOf i).toNat)
  case atStart => exact ⟨0, _, _, Nat.zero_le _, rfl, E0⟩
  case round =>
    clear E0
    obtain ⟨k, v, u, hk, rfl, E⟩ := hrel
    obtain ⟨y0, y1, -⟩ := id E.2.1.reads
    have hz := E.size
    by_cases hlt : k < 4
    · have q1 : (k : Int) < 4 := by omega
      go_wp2_with (first
        | (at_builtin; refine wpList_append_lies _ rfl _ _ 24 rfl w.heap.size 3 i0 (.int .i64 0) 1 8 Tryz.underlying24 hi hz0 hz1 hz2 rfl (by decide) _ k _ rfl (World.ownsRow.alloc E.row0 _) ⟨wr.heap.size, 0, none⟩ 1 1 [.int .i64 (-1)] rfl rfl (cell_one_new _ _ _) (one_int _) (by omega) (by unfold maxLen; omega) (by omega) (by simp; omega) (wr.heap.size + 1) (by simp) ?_; intro gg cap w7 hown hg hat hlt7; have EE := E.add0 hown hg hat; obtain ⟨⟨t0, tf⟩, E7⟩ := EE; obtain ⟨s0, s1, -⟩ := id E7.2.1.reads; have z7 := E7.size)
        | (at_builtin; go_loud (refine wpList_append_lies _ rfl _ _ 24 rfl w.heap.size 3 i0 (.int .i64 0) 1 8 Tryz.underlying24 hi hz0 hz1 hz2 rfl (by decide) _ k _ rfl (World.ownsRow.alloc E7.row1 _) ⟨w7.heap.size, 0, none⟩ 1 1 [.int .i64 (-1)] rfl rfl (one_after _ _ _ _ _) (one_int _) (by omega) (by unfold maxLen; omega) (by omega) (by simp at z7 ⊢; omega) (w7.heap.size + 1) (by simp) ?_; intro gg2 cap2 w8 hown2 hg2 hat2 hlt8; have EE2 := E7.add1 hown2 hg2 (hat2.imp id (fun e => by simpa using e)); obtain ⟨⟨t2, tf2⟩, E8⟩ := EE2)))
      go_roundw
      case rel => exact ⟨k + 1, _, _, by omega, by go_num, E8⟩
      case measure => simp [intOf]; omega
    · have hk' : k = 4 := by omega
      subst hk'
      obtain ⟨E1, E2, E3, E4, E5, E6, E7⟩ := E
      obtain ⟨A, c, e4, r4, hc⟩ := E4.form
      obtain ⟨A2, c2, e5, r5, hc2⟩ := E5.form
      rw [nones_length] at e4 hc e5 hc2
      subst e4 e5
      obtain ⟨t0, t1, tf⟩ := id E1.reads
      have tf0 := tf 0
      have tf1 := tf 1
      have o1 := (E4.keptT (by decide) (but_set wr w.heap.size 0 (.slice A 4 c)) (blk_type E1)).keptT (by decide) (but_set _ w.heap.size 1 (.slice A2 4 c2)) (blk_type (E1.set0 _))
      have o2 := (E5.keptT (by decide) (but_set wr w.heap.size 0 (.slice A 4 c)) (blk_type E1)).keptT (by decide) (but_set _ w.heap.size 1 (.slice A2 4 c2)) (blk_type (E1.set0 _))
      have b7 := (E7.setCell (p := ⟨w.heap.size, 0, none⟩) (Nat.le_refl _) (.slice A 4 c)).setCell (p := ⟨w.heap.size, 1, none⟩) (Nat.le_refl _) (.slice A2 4 c2)
      obtain ⟨p0, p1, -⟩ := ((E1.set0 (.slice A 4 c)).set1 (.slice A2 4 c2)).reads
      obtain ⟨A', c', e, r6, -⟩ := o1.form
      obtain ⟨A2', c2', e2, r7, -⟩ := o2.form
      injection e with e q1 q2
      injection e2 with e2 q3 q4
      clear q1 q2 q3 q4
      subst e e2
      have H6 := hid r6
      have H7 := hid r7
      clear o1 o2 r4 r5 r6 r7 E2 E3 E4 E5 E6 E7
      go_wp2
      refine bodyPost_ret (v := .agg #[.slice A 4 c, .slice A2 4 c2]) (by simp [results, Tryz.results85, go_sem, p0, p1]) rfl ⟨_, rfl, ⟨A, c, A2, c2, rfl, H6.out, hc, H7.out, hc2⟩, b7⟩
end Go.Proofs.YteaibflloeipaaaGreatDoor
/- Laws on coordinators: a coordinator is boxed. -/
/- On to the world behind D. -/
/- An exact law begins: the argument's box, its size, a copy for the model. -/
/- The program's own copy of the argument is boxed. -/
/- The program's copy is as the argument; the region draws. -/
/- Laws on functions that answer numbers. -/
/- What the boxes hold is read again. -/
/- The coordinator with the slices P4 and P5 is boxed as P6, in block P7, behind it the world P3; ahead of region P1. -/
/- The draw, the program's answer, the model's, and that they are the same: behind it w5, all facts on it by way of dx. -/
/-
  Walk: a record follows on others, by the model.
-/
namespace Go.Proofs.YteaibflloeipaaaGreatDoor
open Go.RowKit Wo Pu Rf Lk Sh

/-- Whether a record may follow, and the state behind it. -/
def StepTo (rs : List Rec) (s : St) (r : Rec) (b : Bool) (s' : St) : Prop := (b = true ∧ Step rs s r s') ∨ (b = false ∧ (¬ ∃ x, Step rs s r x) ∧ s' = s)
theorem step_ex (rs : List Rec) (s : St) (r : Rec) : ∃ b s', StepTo rs s r b s' := by
  by_cases h : ∃ x, Step rs s r x
  · obtain ⟨x, hx⟩ := h
    exact ⟨true, x, .inl ⟨rfl, hx⟩⟩
  · exact ⟨false, s, .inr ⟨rfl, h, rfl⟩⟩
theorem StepTo.no {rs : List Rec} {s : St} {r : Rec} {b : Bool} {s' : St} (h : StepTo rs s r b s') (hn : ¬ ∃ x, Step rs s r x) : b = false ∧ s' = s := by
  rcases h with ⟨_, h2⟩ | ⟨h1, _, h3⟩
  · exact absurd ⟨_, h2⟩ hn
  · exact ⟨h1, h3⟩
theorem StepTo.yes {rs : List Rec} {s : St} {r : Rec} {b : Bool} {s' x : St} (h : StepTo rs s r b s') (hx : Step rs s r x) : b = true ∧ s' = x := by
  rcases h with ⟨h1, h2⟩ | ⟨_, h2, _⟩
  · exact ⟨h1, h2.one hx⟩
  · exact absurd ⟨_, hx⟩ h2
theorem step_kind {rs : List Rec} {s : St} {r : Rec} {x : St} (h : Step rs s r x) : r.k = 1 ∨ r.k = 2 ∨ r.k = 3 := by cases h <;> omega
theorem step_1 {rs : List Rec} {s : St} {r : Rec} {x : St} (h : Step rs s r x) (hk : r.k = 1) : Sh.ask rs r.t = 0 ∧ UV r.us ∧ Fits s.refs r.us ∧ Fits s.locks (lk r.t r.us) := by
  cases h with
  | prepare _ h1 h2 h3 h4 => exact ⟨h1, h2, h3, h4⟩
  | commit h _ _ => omega
  | abort h _ _ => omega
theorem step_2 {rs : List Rec} {s : St} {r : Rec} {x : St} (h : Step rs s r x) (hk : r.k = 2) : Sh.ask rs r.t = 1 ∧ r.us = [] := by
  cases h with
  | prepare h _ _ _ _ => omega
  | commit _ h1 h2 => exact ⟨h1, h2⟩
  | abort h _ _ => omega
theorem step_3 {rs : List Rec} {s : St} {r : Rec} {x : St} (h : Step rs s r x) (hk : r.k = 3) : (Sh.ask rs r.t = 0 ∨ Sh.ask rs r.t = 1) ∧ r.us = [] := by
  cases h with
  | prepare h _ _ _ _ => omega
  | commit h _ _ => omega
  | abort _ h1 h2 => exact ⟨h1, h2⟩
/- The state and the record lie in boxes, the result behind them. -/
/- The state s is handed back, and false. -/
/- A state of two lists is told, and whether. -/
/- A transaction is freed, in the drawn order; the state and true are told. -/
theorem upd_len {rs : List Rec} {m : Nat} (h : ∀ r ∈ rs, r.us.length ≤ m) {t : Int} : (Sh.upd rs t).length ≤ m := by
  induction rs with
  | nil => exact Nat.zero_le _
  | cons a rs ih =>
    show (if a.t = t ∧ a.k = 1 then a.us else Sh.upd rs t).length ≤ m
    split
    · exact h a List.mem_cons_self
    · exact ih fun r hr => h r (List.mem_cons_of_mem _ hr)
/- The three calls of a commit, one at a time. -/
/- The state is built, stored and told. -/
set_option linter.unusedSimpArgs false in
set_option maxRecDepth 100000 in
set_option maxHeartbeats 8000000 in
theorem l21Step_any (b : Bool) (s' : St) (A0 : Option Addr) (c0 : Nat) (rs : List Rec) (v : Value) (s : St) (A3 : Option Addr) (c3 : Nat) (r : Rec) (w : World) (h : Recs w w.heap.size A0 rs) (hf : FitR rs) (hs : Stt w w.heap.size v s) (hi : Hid (Inv rs s)) (hu0 : Row w w.heap.size A3 (upsV r.us)) (hul : r.us.length ≤ 1048600) (HST : Hid (StepTo rs s r b s')) :
    Calls Tryz.prog 102 #[.slice A0 rs.length c0, v, .agg #[.int .i64 r.k, .int .i64 r.t, .slice A3 r.us.length c3]] w (NewStB s' b w) := by
  have hs0 := hs
  obtain ⟨A, c, A2, c2, rfl, hr0, hrc, hl0, hlc⟩ := hs
  obtain ⟨z, hz⟩ : ∃ z, Sh.ask rs r.t = z := ⟨_, rfl⟩
  have HZ := hid hz
  have CA : Hid (∀ x, Recs x x.heap.size A0 rs → Calls Tryz.prog 78 #[.slice A0 rs.length c0, .int .i64 r.t] x (Same (.int .i64 z) x)) := fun x hx => l21Ask_is z A0 c0 rs r.t x x.heap.size hx (by have := hf.1; omega) hz
  clear hz
  unfold stV
  go_enter Tryz.func102, Tryz.ntmps102
  obtain ⟨w1, hw1⟩ : ∃ w1, ((w.alloc (.cells #[.slice A s.refs.length c, .slice A2 s.locks.length c2] 119)).alloc (.cells #[.int .i64 r.k, .int .i64 r.t, .slice A3 r.us.length c3] 128)).alloc (.cells #[.slice none 0 0, .slice none 0 0] 119) = w1 := ⟨_, rfl⟩
  have x0 := ((Blk2s.new_ w 119 (.slice A s.refs.length c) (.slice A2 s.locks.length c2)).alloc (.cells #[.int .i64 r.k, .int .i64 r.t, .slice A3 r.us.length c3] 128)).alloc (.cells #[.slice none 0 0, .slice none 0 0] 119)
  have x1 := (Blk3s.new_ (w.alloc (.cells #[.slice A s.refs.length c, .slice A2 s.locks.length c2] 119)) 128 (.int .i64 r.k) (.int .i64 r.t) (.slice A3 r.us.length c3)).alloc (.cells #[.slice none 0 0, .slice none 0 0] 119)
  have x2 := Blk2s.new_ ((w.alloc (.cells #[.slice A s.refs.length c, .slice A2 s.locks.length c2] 119)).alloc (.cells #[.int .i64 r.k, .int .i64 r.t, .slice A3 r.us.length c3] 128)) 119 (.slice none 0 0) (.slice none 0 0)
  have b1 := (((Below.refl w.heap.size w).alloc (Nat.le_refl _) (.cells #[.slice A s.refs.length c, .slice A2 s.locks.length c2] 119)).alloc (by simp) (.cells #[.int .i64 r.k, .int .i64 r.t, .slice A3 r.us.length c3] 128)).alloc (by simp; omega) (.cells #[.slice none 0 0, .slice none 0 0] 119)
  rw [World.size_alloc] at x1 x2
  rw [World.size_alloc] at x2
  rw [hw1] at x0 x1 x2 b1
  have zz := b1.size
  obtain ⟨y0, y1, -⟩ := id x0.reads
  obtain ⟨r0, r1, r2, -⟩ := id x1.reads
  obtain ⟨t0, t1, tf⟩ := id x2.reads
  go_wp2_with fail
  refine (CA.out _ ((h.below b1 (Nat.le_refl _)).more zz)).mono ?_
  rintro e w2 ⟨rfl, rfl⟩
  clear hw1 CA
  by_cases hk1 : r.k = 1
  · have e1 : (r.k == 1) = true := by rw [beq_iff_eq]; exact hk1
    by_cases hz0 : z = 0
    · have e2 : (z != 0) = false := by rw [bne_eq_false_iff_eq]; exact hz0
      obtain ⟨vu, hvu⟩ := bool_of (UV r.us)
      have CU := hid (specUpdatesValid_is vu A3 c3 r.us w1 ((hu0.below b1 (Nat.le_refl _)).more zz) hul hvu)
      go_wp2_with fail
      refine CU.out.mono ?_
      rintro e w2 ⟨rfl, d2⟩
      replace x0 := x0.later d2
      replace x1 := x1.later d2
      replace x2 := x2.later d2
      replace b1 := b1.trans ((d2).mono b1.size)
      replace zz := b1.size
      clear y0 y1 r0 r1 r2 t0 t1 tf
      obtain ⟨y0, y1, -⟩ := id x0.reads
      obtain ⟨r0, r1, r2, -⟩ := id x1.reads
      obtain ⟨t0, t1, tf⟩ := id x2.reads
      cases vu with
      | false =>
        have HNO : Hid (¬ ∃ x, Step rs s r x) := fun ⟨x, hx⟩ => by have := hvu.2 (step_1 hx hk1).2.1; cases this
        clear CU hvu e1 e2
        obtain ⟨p0, p1, -⟩ := ((x2.set0 (.slice A s.refs.length c)).set1 (.slice A2 s.locks.length c2)).reads
        have b7 := (b1.setCell (p := ⟨w.heap.size + 1 + 1, 0, none⟩) (by show w.heap.size ≤ w.heap.size + 1 + 1; omega) (.slice A s.refs.length c)).setCell (p := ⟨w.heap.size + 1 + 1, 1, none⟩) (by show w.heap.size ≤ w.heap.size + 1 + 1; omega) (.slice A2 s.locks.length c2)
        have HRS : Hid (Stt _ _ (stV A s.refs.length c A2 s.locks.length c2) s) := hs0.on b7 b7.size
        go_wp2
        refine bodyPost_ret (v := .tuple #[.agg #[.slice A s.refs.length c, .slice A2 s.locks.length c2], .bool false]) (by simp [results, Tryz.results102, go_sem, p0, p1]) rfl ?_
        obtain ⟨hb', hs'⟩ := HST.out.no HNO.out
        rw [hb', hs']
        exact ⟨_, rfl, HRS.out, b7⟩
      | true =>
        have HUV := hid (hvu.1 rfl)
        clear CU hvu
        obtain ⟨vf, hvf⟩ := bool_of (Fits s.refs r.us)
        have CF := hid (l11Fits_is vf A A3 c c3 s.refs r.us w2 w.heap.size w.heap.size (hr0.below b1 (Nat.le_refl _)) hi.out.refs.1 (hu0.below b1 (Nat.le_refl _)) (refs4_of HUV.out) hul hvf)
        go_wp2_with fail
        refine CF.out.mono ?_
        rintro e w3 ⟨rfl, d3⟩
        replace x0 := x0.later d3
        replace x1 := x1.later d3
        replace x2 := x2.later d3
        replace b1 := b1.trans ((d3).mono b1.size)
        replace zz := b1.size
        clear y0 y1 r0 r1 r2 t0 t1 tf
        obtain ⟨y0, y1, -⟩ := id x0.reads
        obtain ⟨r0, r1, r2, -⟩ := id x1.reads
        obtain ⟨t0, t1, tf⟩ := id x2.reads
        clear CF
        cases vf with
        | false =>
          have HNO : Hid (¬ ∃ x, Step rs s r x) := fun ⟨x, hx⟩ => by have := hvf.2 (step_1 hx hk1).2.2.1; cases this
          clear hvf e1 e2
          obtain ⟨p0, p1, -⟩ := ((x2.set0 (.slice A s.refs.length c)).set1 (.slice A2 s.locks.length c2)).reads
          have b7 := (b1.setCell (p := ⟨w.heap.size + 1 + 1, 0, none⟩) (by show w.heap.size ≤ w.heap.size + 1 + 1; omega) (.slice A s.refs.length c)).setCell (p := ⟨w.heap.size + 1 + 1, 1, none⟩) (by show w.heap.size ≤ w.heap.size + 1 + 1; omega) (.slice A2 s.locks.length c2)
          have HRS : Hid (Stt _ _ (stV A s.refs.length c A2 s.locks.length c2) s) := hs0.on b7 b7.size
          go_wp2
          refine bodyPost_ret (v := .tuple #[.agg #[.slice A s.refs.length c, .slice A2 s.locks.length c2], .bool false]) (by simp [results, Tryz.results102, go_sem, p0, p1]) rfl ?_
          obtain ⟨hb', hs'⟩ := HST.out.no HNO.out
          rw [hb', hs']
          exact ⟨_, rfl, HRS.out, b7⟩
        | true =>
          have HF := hid (hvf.1 rfl)
          clear hvf
          obtain ⟨ok, hok⟩ := bool_of (Fits s.locks (lk r.t r.us))
          have CT := hid (l12Take_any ok A2 A3 c2 c3 s.locks r.t r.us w3 ((hl0.below b1 (Nat.le_refl _)).more zz) hi.out.locks.1 ((hu0.below b1 (Nat.le_refl _)).more zz) (refs4_of HUV.out) hul hok)
          obtain ⟨qs, hqs⟩ : ∃ qs, takes s.locks r.t r.us ok = qs := ⟨_, rfl⟩
          rw [hqs] at CT
          have HQ : Hid (b = ok ∧ s' = ⟨s.refs, qs⟩ ∧ qs.length = s.locks.length) := by
            cases ok with
            | true =>
              obtain ⟨h1, h2⟩ := HST.out.yes (.prepare hk1 (by rw [HZ.out]; exact hz0) HUV.out HF.out (hok.1 rfl))
              refine ⟨h1, by rw [h2, ← hqs]; rfl, by rw [← hqs]; exact setR_length _ _⟩
            | false =>
              obtain ⟨h1, h2⟩ := HST.out.no fun ⟨x, hx⟩ => by have := hok.2 (step_1 hx hk1).2.2.2; cases this
              exact ⟨h1, by rw [h2, ← hqs]; rfl, by rw [← hqs]; rfl⟩
          clear hok hqs
          go_wp2_with fail
          refine CT.out.mono ?_
          rintro e w4 ⟨A5, c5, rfl, o5, d4⟩
          have hc5 : qs.length ≤ c5 := by obtain ⟨_, _, e, _, h⟩ := o5.form; injection e with _ _ e; omega
          replace x0 := x0.later d4
          replace x1 := x1.later d4
          replace x2 := x2.later d4
          replace b1 := b1.trans ((d4).mono b1.size)
          replace zz := b1.size
          clear y0 y1 r0 r1 r2 t0 t1 tf
          obtain ⟨y0, y1, -⟩ := id x0.reads
          obtain ⟨r0, r1, r2, -⟩ := id x1.reads
          obtain ⟨t0, t1, tf⟩ := id x2.reads
          clear CT e1 e2
          have o6 := (o5.keptT (by decide) (but_set w4 (w.heap.size + 1 + 1) 0 (.slice A s.refs.length c)) (blk_type x2)).keptT (by decide) (but_set _ (w.heap.size + 1 + 1) 1 (.slice A5 qs.length c5)) (blk_type (x2.set0 _))
          obtain ⟨p0, p1, -⟩ := ((x2.set0 (.slice A s.refs.length c)).set1 (.slice A5 qs.length c5)).reads
          have b7 := (b1.setCell (p := ⟨w.heap.size + 1 + 1, 0, none⟩) (by show w.heap.size ≤ w.heap.size + 1 + 1; omega) (.slice A s.refs.length c)).setCell (p := ⟨w.heap.size + 1 + 1, 1, none⟩) (by show w.heap.size ≤ w.heap.size + 1 + 1; omega) (.slice A5 qs.length c5)
          have HRS : Hid (Stt _ _ (stV A s.refs.length c A5 qs.length c5) ⟨s.refs, qs⟩) := ⟨A, c, A5, c5, rfl, (hr0.below b7 (Nat.le_refl _)).more b7.size, hrc, o6.row, hc5⟩
          clear o5 o6
          go_wp2
          refine bodyPost_ret (v := .tuple #[.agg #[.slice A s.refs.length c, .slice A5 qs.length c5], .bool ok]) (by simp [results, Tryz.results102, go_sem, p0, p1]) rfl ?_
          obtain ⟨hb', hs', -⟩ := HQ.out
          rw [hb', hs']
          exact ⟨_, rfl, HRS.out, b7⟩
    · have e2 : (z != 0) = true := by rw [bne_iff_ne]; exact hz0
      have HNO : Hid (¬ ∃ x, Step rs s r x) := fun ⟨x, hx⟩ => hz0 (by rw [← HZ.out]; exact (step_1 hx hk1).1)
      obtain ⟨p0, p1, -⟩ := ((x2.set0 (.slice A s.refs.length c)).set1 (.slice A2 s.locks.length c2)).reads
      have b7 := (b1.setCell (p := ⟨w.heap.size + 1 + 1, 0, none⟩) (by show w.heap.size ≤ w.heap.size + 1 + 1; omega) (.slice A s.refs.length c)).setCell (p := ⟨w.heap.size + 1 + 1, 1, none⟩) (by show w.heap.size ≤ w.heap.size + 1 + 1; omega) (.slice A2 s.locks.length c2)
      have HRS : Hid (Stt _ _ (stV A s.refs.length c A2 s.locks.length c2) s) := hs0.on b7 b7.size
      go_wp2
      refine bodyPost_ret (v := .tuple #[.agg #[.slice A s.refs.length c, .slice A2 s.locks.length c2], .bool false]) (by simp [results, Tryz.results102, go_sem, p0, p1]) rfl ?_
      obtain ⟨hb', hs'⟩ := HST.out.no HNO.out
      rw [hb', hs']
      exact ⟨_, rfl, HRS.out, b7⟩
  · have e1 : (r.k == 1) = false := by rw [beq_eq_false_iff_ne]; exact hk1
    by_cases hk2 : r.k = 2
    · have e2 : (r.k == 2) = true := by rw [beq_iff_eq]; exact hk2
      by_cases hz1 : z = 1
      · have e3 : (z != 1) = false := by rw [bne_eq_false_iff_eq]; exact hz1
        by_cases hl : r.us.length = 0
        · have e4 : decide ((0 : Int) < (r.us.length : Int)) = false := decide_eq_false (by omega)
          have hx : Step rs s r ⟨setR s.refs (Sh.upd rs r.t), freeL r.t s.locks⟩ := .commit hk2 (by rw [HZ.out]; exact hz1) (List.eq_nil_of_length_eq_zero hl)
          obtain ⟨us, hus⟩ : ∃ us, Sh.upd rs r.t = us := ⟨_, rfl⟩
          have HQ0 := HST.out.yes hx
          rw [hus] at HQ0
          obtain ⟨qr, hqr⟩ : ∃ qr, setR s.refs us = qr := ⟨_, rfl⟩
          obtain ⟨ql, hql⟩ : ∃ ql, freeL r.t s.locks = ql := ⟨_, rfl⟩
          rw [hqr, hql] at HQ0
          have HQ := hid HQ0
          have HR4 : Hid (Refs4 us) := by
            show Refs4 us
            rw [← hus]
            exact refs4_of (hi.out.prep _ (by rw [HZ.out]; exact hz1)).2.1
          have hul2 : us.length ≤ 1048600 := by
            have := upd_len hf.2 (t := r.t)
            rw [hus] at this
            omega
          have x0d : Blk2s w1.drew w.heap.size 119 (.slice A s.refs.length c) (.slice A2 s.locks.length c2) := x0
          have x1d : Blk3s w1.drew (w.heap.size + 1) 128 (.int .i64 r.k) (.int .i64 r.t) (.slice A3 r.us.length c3) := x1
          have x2d : Blk2s w1.drew (w.heap.size + 1 + 1) 119 (.slice none 0 0) (.slice none 0 0) := x2
          have b1d : Below w.heap.size w w1.drew := b1.drew
          have ba : Hid (∀ x, Below w1.drew.heap.size w1.drew x → Below w.heap.size w x) := fun x hb => b1d.trans (hb.mono b1d.size)
          have CU : Hid (∀ x, Below w1.drew.heap.size w1.drew x → Calls Tryz.prog 88 #[.slice A0 rs.length c0, .int .i64 r.t] x (ShownU us x)) := fun x hb => l21Updates_any us A0 c0 rs r.t x ((h.below (ba.out x hb) (Nat.le_refl _)).more (ba.out x hb).size) (by have := hf.1; omega) hus
          have CS : Hid (∀ x A5 c5, Below w1.drew.heap.size w1.drew x → Row x x.heap.size A5 (upsV us) → Calls Tryz.prog 87 #[.slice A s.refs.length c, .slice A5 us.length c5] x (IntsOf qr x)) := fun x A5 c5 hb hr => by
            rw [← hqr]
            exact l11Set_any A A5 c c5 s.refs us x ((hr0.below (ba.out x hb) (Nat.le_refl _)).more (ba.out x hb).size) hi.out.refs.1 hr HR4.out hul2
          have CFr : Hid (∀ x, Below w1.drew.heap.size w1.drew x → Calls Tryz.prog 130 #[.slice A2 s.locks.length c2, .int .i64 r.t] x (IntsOf ql x)) := fun x hb => by
            rw [← hql]
            exact l12Free_any A2 c2 s.locks r.t x ((hl0.below (ba.out x hb) (Nat.le_refl _)).more (ba.out x hb).size) (by have := hi.out.locks.1; omega)
          have HKP : Hid (∀ x, Below w1.drew.heap.size w1.drew x → x.cell? ⟨w.heap.size, 0, none⟩ = some (.slice A s.refs.length c) ∧ x.cell? ⟨w.heap.size, 1, none⟩ = some (.slice A2 s.locks.length c2) ∧ x.cell? ⟨w.heap.size + 1, 1, none⟩ = some (.int .i64 r.t)) := fun x hb => ⟨(x0d.later hb).reads.1, (x0d.later hb).reads.2.1, (x1d.later hb).reads.2.1⟩
          have NB0 := Below.refl w1.drew.heap.size w1.drew
          clear hqr hql hus hx HZ HST HQ0 HR4
          subst hz1
          go_wp2_with fail
          refine wp_region_held_drew (S := fun x => x.cell? ⟨w.heap.size, 0, none⟩ = some (.slice A s.refs.length c) ∧ x.cell? ⟨w.heap.size, 1, none⟩ = some (.slice A2 s.locks.length c2) ∧ x.cell? ⟨w.heap.size + 1, 1, none⟩ = some (.int .i64 r.t)) (by kernel_rfl) (HKP.out _ NB0) (fun hHeld => ?_)
          refine wpAnyH_take (i := 0) (oi := _) (v := ?_) rfl (by kernel_rfl) (by kernel_rfl) (by kernel_rfl) (fun _ _ _ h => h) (Or.inl ⟨by rfl, ?_⟩) hHeld ?_
          rotate_left
          · (intro w' hSw; (try dsimp only at hSw); go_simp <;> with_reducible rfl)
          try simp only [Act.put, List.getElem_toArray, List.getElem_cons_succ, List.getElem_cons_zero, List.setIfInBounds_toArray, List.set_cons_zero, List.set_cons_succ]
          refine wpAnyH_take (i := 1) (oi := _) (v := ?_) rfl (by kernel_rfl) (by kernel_rfl) (by kernel_rfl) (fun _ _ _ h => h) (Or.inl ⟨by rfl, ?_⟩) hHeld ?_
          rotate_left
          · (intro w' hSw; (try dsimp only at hSw); go_simp <;> with_reducible rfl)
          try simp only [Act.put, List.getElem_toArray, List.getElem_cons_succ, List.getElem_cons_zero, List.setIfInBounds_toArray, List.set_cons_zero, List.set_cons_succ]
          refine wpAnyH_take (i := 2) (oi := _) (v := ?_) rfl (by kernel_rfl) (by kernel_rfl) (by kernel_rfl) (fun _ _ _ h => h) (Or.inl ⟨by rfl, ?_⟩) hHeld ?_
          rotate_left
          · (intro w' hSw; (try dsimp only at hSw); go_simp <;> with_reducible rfl)
          try simp only [Act.put, List.getElem_toArray, List.getElem_cons_succ, List.getElem_cons_zero, List.setIfInBounds_toArray, List.set_cons_zero, List.set_cons_succ]
          refine wpAnyH_take (i := 3) (oi := _) (v := ?_) rfl (by kernel_rfl) (by kernel_rfl) (by kernel_rfl) (fun _ _ _ h => h) (Or.inl ⟨by rfl, ?_⟩) hHeld ?_
          rotate_left
          · (intro w' hSw; (try dsimp only at hSw); go_simp <;> with_reducible rfl)
          try simp only [Act.put, List.getElem_toArray, List.getElem_cons_succ, List.getElem_cons_zero, List.setIfInBounds_toArray, List.set_cons_zero, List.set_cons_succ]
          refine wpAnyH_take (i := 4) (oi := _) (v := ?_) rfl (by kernel_rfl) (by kernel_rfl) (by kernel_rfl) (fun _ _ _ h => h) (Or.inl ⟨by rfl, ?_⟩) hHeld ?_
          rotate_left
          · (intro w' hSw; (try dsimp only at hSw); go_simp <;> with_reducible rfl)
          try simp only [Act.put, List.getElem_toArray, List.getElem_cons_succ, List.getElem_cons_zero, List.setIfInBounds_toArray, List.set_cons_zero, List.set_cons_succ]
          refine wpAnyH_take (i := 7) (oi := _) (v := ?_) rfl (by kernel_rfl) (by kernel_rfl) (by kernel_rfl) (fun _ _ _ h => h) (Or.inl ⟨by rfl, ?_⟩) hHeld ?_
          rotate_left
          · (intro w' hSw; (try dsimp only at hSw); go_simp <;> with_reducible rfl)
          try simp only [Act.put, List.getElem_toArray, List.getElem_cons_succ, List.getElem_cons_zero, List.setIfInBounds_toArray, List.set_cons_zero, List.set_cons_succ]
          refine wpAnyH_take (i := 8) (oi := _) (v := ?_) rfl (by kernel_rfl) (by kernel_rfl) (by kernel_rfl) (fun _ _ _ h => h) (Or.inl ⟨by rfl, ?_⟩) hHeld ?_
          rotate_left
          · (intro w' hSw; (try dsimp only at hSw); go_simp <;> with_reducible rfl)
          try simp only [Act.put, List.getElem_toArray, List.getElem_cons_succ, List.getElem_cons_zero, List.setIfInBounds_toArray, List.set_cons_zero, List.set_cons_succ]
          refine wpAnyH_take (i := 9) (oi := _) (v := ?_) rfl (by kernel_rfl) (by kernel_rfl) (by kernel_rfl) (fun _ _ _ h => h) (Or.inl ⟨by rfl, ?_⟩) hHeld ?_
          rotate_left
          · (intro w' hSw; (try dsimp only at hSw); go_simp <;> with_reducible rfl)
          try simp only [Act.put, List.getElem_toArray, List.getElem_cons_succ, List.getElem_cons_zero, List.setIfInBounds_toArray, List.set_cons_zero, List.set_cons_succ]
          refine wpAnyH_take (i := 10) (oi := _) (v := ?_) rfl (by kernel_rfl) (by kernel_rfl) (by kernel_rfl) (fun _ _ _ h => h) (Or.inl ⟨by rfl, ?_⟩) hHeld ?_
          rotate_left
          · (intro w' hSw; (try dsimp only at hSw); go_simp <;> with_reducible rfl)
          try simp only [Act.put, List.getElem_toArray, List.getElem_cons_succ, List.getElem_cons_zero, List.setIfInBounds_toArray, List.set_cons_zero, List.set_cons_succ]
          refine wpAnyH_ready (rs := [5]) (by kernel_rfl) (by simp) (AllReadyH.cons (o := _) rfl (fun K hK => ?_) AllReadyH.nil)
          try simp only [Act.put, List.getElem_toArray, List.getElem_cons_succ, List.getElem_cons_zero, List.setIfInBounds_toArray, List.set_cons_zero, List.set_cons_succ]
          go_simp
          go_at_call 88
          refine (CU.out _ NB0).mono ?_
          rintro e w5 ⟨A5, c5, rfl, hc5, hu5, d5⟩
          have NB1 := (NB0).trans (d5.mono (NB0).size)
          refine hK.out _ _ (HKP.out _ NB1) (fun hHeld => ?_)
          clear hK K
          try simp only [Act.put, List.getElem_toArray, List.getElem_cons_succ, List.getElem_cons_zero, List.setIfInBounds_toArray, List.set_cons_zero, List.set_cons_succ]
          refine wpAnyH_ready (rs := [6]) (by kernel_rfl) (by simp) (AllReadyH.cons (o := _) rfl (fun K hK => ?_) AllReadyH.nil)
          try simp only [Act.put, List.getElem_toArray, List.getElem_cons_succ, List.getElem_cons_zero, List.setIfInBounds_toArray, List.set_cons_zero, List.set_cons_succ]
          go_simp
          go_at_call 87
          refine (CS.out _ A5 c5 NB1 hu5).mono ?_
          rintro e w6 ⟨A6, c6, rfl, o6, d6⟩
          have NB2 := (NB1).trans (d6.mono (NB1).size)
          replace o6 := o6.base (Nat.le_trans b1d.size (NB1).size)
          refine hK.out _ _ (HKP.out _ NB2) (fun hHeld => ?_)
          clear hK K
          try simp only [Act.put, List.getElem_toArray, List.getElem_cons_succ, List.getElem_cons_zero, List.setIfInBounds_toArray, List.set_cons_zero, List.set_cons_succ]
          refine wpAnyH_ready (rs := [11]) (by kernel_rfl) (by simp) (AllReadyH.cons (o := _) rfl (fun K hK => ?_) AllReadyH.nil)
          try simp only [Act.put, List.getElem_toArray, List.getElem_cons_succ, List.getElem_cons_zero, List.setIfInBounds_toArray, List.set_cons_zero, List.set_cons_succ]
          go_simp
          go_at_call 130
          refine (CFr.out _ NB2).mono ?_
          rintro e w7 ⟨A7, c7, rfl, o7, d7⟩
          have NB3 := (NB2).trans (d7.mono (NB2).size)
          replace o7 := o7.base (Nat.le_trans b1d.size (NB2).size)
          refine hK.out _ _ (HKP.out _ NB3) (fun hHeld => ?_)
          clear hK K
          try simp only [Act.put, List.getElem_toArray, List.getElem_cons_succ, List.getElem_cons_zero, List.setIfInBounds_toArray, List.set_cons_zero, List.set_cons_succ]
          replace o6 := o6.below d7 (Nat.le_refl _)
          have hc6 : qr.length ≤ c6 := by obtain ⟨_, _, e, _, h⟩ := o6.form; injection e with _ _ e; omega
          have hc7 : ql.length ≤ c7 := by obtain ⟨_, _, e, _, h⟩ := o7.form; injection e with _ _ e; omega
          have z2 := x2d.later NB3
          have bw := ba.out _ NB3
          have p6 := (o6.keptT (by decide) (but_set w7 (w.heap.size + 1 + 1) 0 (.slice A6 qr.length c6)) (blk_type z2)).keptT (by decide) (but_set _ (w.heap.size + 1 + 1) 1 (.slice A7 ql.length c7)) (blk_type (z2.set0 _))
          have p7 := (o7.keptT (by decide) (but_set w7 (w.heap.size + 1 + 1) 0 (.slice A6 qr.length c6)) (blk_type z2)).keptT (by decide) (but_set _ (w.heap.size + 1 + 1) 1 (.slice A7 ql.length c7)) (blk_type (z2.set0 _))
          obtain ⟨p0, p1, -⟩ := ((z2.set0 (.slice A6 qr.length c6)).set1 (.slice A7 ql.length c7)).reads
          have b7 := (bw.setCell (p := ⟨w.heap.size + 1 + 1, 0, none⟩) (by show w.heap.size ≤ w.heap.size + 1 + 1; omega) (.slice A6 qr.length c6)).setCell (p := ⟨w.heap.size + 1 + 1, 1, none⟩) (by show w.heap.size ≤ w.heap.size + 1 + 1; omega) (.slice A7 ql.length c7)
          have HRS : Hid (Stt _ _ (stV A6 qr.length c6 A7 ql.length c7) ⟨qr, ql⟩) := ⟨A6, c6, A7, c7, rfl, p6.row, hc6, p7.row, hc7⟩
          have HS9 : Hid ((((w7).setCell ⟨w.heap.size + 1 + 1, 0, none⟩ (.slice A6 qr.length c6)).setCell ⟨w.heap.size + 1 + 1, 1, none⟩ (.slice A7 ql.length c7)).cell? ⟨w.heap.size, 0, none⟩ = some (.slice A s.refs.length c) ∧ (((w7).setCell ⟨w.heap.size + 1 + 1, 0, none⟩ (.slice A6 qr.length c6)).setCell ⟨w.heap.size + 1 + 1, 1, none⟩ (.slice A7 ql.length c7)).cell? ⟨w.heap.size, 1, none⟩ = some (.slice A2 s.locks.length c2) ∧ (((w7).setCell ⟨w.heap.size + 1 + 1, 0, none⟩ (.slice A6 qr.length c6)).setCell ⟨w.heap.size + 1 + 1, 1, none⟩ (.slice A7 ql.length c7)).cell? ⟨w.heap.size + 1, 1, none⟩ = some (.int .i64 r.t)) := by
            have f0 := ((x0d.later NB3).far (p := ⟨w.heap.size + 1 + 1, 0, none⟩) (by show w.heap.size ≠ w.heap.size + 1 + 1; omega) (.slice A6 qr.length c6)).far (p := ⟨w.heap.size + 1 + 1, 1, none⟩) (by show w.heap.size ≠ w.heap.size + 1 + 1; omega) (.slice A7 ql.length c7)
            have f1 := ((x1d.later NB3).far (p := ⟨w.heap.size + 1 + 1, 0, none⟩) (by show w.heap.size + 1 ≠ w.heap.size + 1 + 1; omega) (.slice A6 qr.length c6)).far (p := ⟨w.heap.size + 1 + 1, 1, none⟩) (by show w.heap.size + 1 ≠ w.heap.size + 1 + 1; omega) (.slice A7 ql.length c7)
            exact ⟨f0.reads.1, f0.reads.2.1, f1.reads.2.1⟩
          clear o6 o7 p6 p7 y0 y1 r0 r1 r2 t0 t1 tf
          obtain ⟨t0, t1, tf⟩ := id z2.reads
          refine wpAnyH_take (i := 12) (oi := _) (v := ?_) rfl (by kernel_rfl) (by kernel_rfl) (by kernel_rfl) (fun _ _ _ h => h) (Or.inl ⟨by rfl, ?_⟩) hHeld ?_
          rotate_left
          · (intro w' hSw; (try dsimp only at hSw); go_simp <;> with_reducible rfl)
          try simp only [Act.put, List.getElem_toArray, List.getElem_cons_succ, List.getElem_cons_zero, List.setIfInBounds_toArray, List.set_cons_zero, List.set_cons_succ]
          refine wpAnyH_ready (rs := [13]) (by kernel_rfl) (by simp) (AllReadyH.cons (o := _) rfl (fun K hK => ?_) AllReadyH.nil)
          try simp only [Act.put, List.getElem_toArray, List.getElem_cons_succ, List.getElem_cons_zero, List.setIfInBounds_toArray, List.set_cons_zero, List.set_cons_succ]
          go_simp
          refine hK.out _ _ (HS9.out) (fun hHeld => ?_)
          clear hK K
          try simp only [Act.put, List.getElem_toArray, List.getElem_cons_succ, List.getElem_cons_zero, List.setIfInBounds_toArray, List.set_cons_zero, List.set_cons_succ]
          refine wpAnyH_take (i := 14) (oi := _) (v := ?_) rfl (by kernel_rfl) (by kernel_rfl) (by kernel_rfl) (fun _ _ _ h => h) (Or.inl ⟨by rfl, ?_⟩) hHeld ?_
          rotate_left
          · (intro w' hSw; (try dsimp only at hSw); go_simp <;> with_reducible rfl)
          try simp only [Act.put, List.getElem_toArray, List.getElem_cons_succ, List.getElem_cons_zero, List.setIfInBounds_toArray, List.set_cons_zero, List.set_cons_succ]
          refine wpAnyH_done (by kernel_rfl) ?_ _
          go_wp2
          refine bodyPost_ret (v := .tuple #[.agg #[.slice A6 qr.length c6, .slice A7 ql.length c7], .bool true]) (by simp [results, Tryz.results102, go_sem, p0, p1]) rfl ?_
          obtain ⟨hb', hs'⟩ := HQ.out
          rw [hb', hs']
          exact ⟨_, rfl, HRS.out, b7⟩
        · have e4 : decide ((0 : Int) < (r.us.length : Int)) = true := decide_eq_true (by omega)
          have e5 : 0 < r.us.length := by omega
          have HNO : Hid (¬ ∃ x, Step rs s r x) := fun ⟨x, hx⟩ => hl (by rw [(step_2 hx hk2).2]; rfl)
          obtain ⟨p0, p1, -⟩ := ((x2.set0 (.slice A s.refs.length c)).set1 (.slice A2 s.locks.length c2)).reads
          have b7 := (b1.setCell (p := ⟨w.heap.size + 1 + 1, 0, none⟩) (by show w.heap.size ≤ w.heap.size + 1 + 1; omega) (.slice A s.refs.length c)).setCell (p := ⟨w.heap.size + 1 + 1, 1, none⟩) (by show w.heap.size ≤ w.heap.size + 1 + 1; omega) (.slice A2 s.locks.length c2)
          have HRS : Hid (Stt _ _ (stV A s.refs.length c A2 s.locks.length c2) s) := hs0.on b7 b7.size
          go_wp2
          refine bodyPost_ret (v := .tuple #[.agg #[.slice A s.refs.length c, .slice A2 s.locks.length c2], .bool false]) (by simp [results, Tryz.results102, go_sem, p0, p1]) rfl ?_
          obtain ⟨hb', hs'⟩ := HST.out.no HNO.out
          rw [hb', hs']
          exact ⟨_, rfl, HRS.out, b7⟩
      · have e3 : (z != 1) = true := by rw [bne_iff_ne]; exact hz1
        have HNO : Hid (¬ ∃ x, Step rs s r x) := fun ⟨x, hx⟩ => hz1 (by rw [← HZ.out]; exact (step_2 hx hk2).1)
        obtain ⟨p0, p1, -⟩ := ((x2.set0 (.slice A s.refs.length c)).set1 (.slice A2 s.locks.length c2)).reads
        have b7 := (b1.setCell (p := ⟨w.heap.size + 1 + 1, 0, none⟩) (by show w.heap.size ≤ w.heap.size + 1 + 1; omega) (.slice A s.refs.length c)).setCell (p := ⟨w.heap.size + 1 + 1, 1, none⟩) (by show w.heap.size ≤ w.heap.size + 1 + 1; omega) (.slice A2 s.locks.length c2)
        have HRS : Hid (Stt _ _ (stV A s.refs.length c A2 s.locks.length c2) s) := hs0.on b7 b7.size
        go_wp2
        refine bodyPost_ret (v := .tuple #[.agg #[.slice A s.refs.length c, .slice A2 s.locks.length c2], .bool false]) (by simp [results, Tryz.results102, go_sem, p0, p1]) rfl ?_
        obtain ⟨hb', hs'⟩ := HST.out.no HNO.out
        rw [hb', hs']
        exact ⟨_, rfl, HRS.out, b7⟩
    · have e2 : (r.k == 2) = false := by rw [beq_eq_false_iff_ne]; exact hk2
      by_cases hk3 : r.k = 3
      · have e3 : (r.k == 3) = true := by rw [beq_iff_eq]; exact hk3
        by_cases hz1 : z = 0 ∨ z = 1
        · by_cases hl : r.us.length = 0
          · have e4 : decide ((0 : Int) < (r.us.length : Int)) = false := decide_eq_false (by omega)
            have hx : Step rs s r ⟨s.refs, freeL r.t s.locks⟩ := .abort hk3 (by rw [HZ.out]; exact hz1) (List.eq_nil_of_length_eq_zero hl)
            have HQ := hid (HST.out.yes hx)
            obtain ⟨qs, hqs⟩ : ∃ qs, freeL r.t s.locks = qs := ⟨_, rfl⟩
            have x0d : Blk2s w1.drew w.heap.size 119 (.slice A s.refs.length c) (.slice A2 s.locks.length c2) := x0
            have x1d : Blk3s w1.drew (w.heap.size + 1) 128 (.int .i64 r.k) (.int .i64 r.t) (.slice A3 r.us.length c3) := x1
            have x2d : Blk2s w1.drew (w.heap.size + 1 + 1) 119 (.slice none 0 0) (.slice none 0 0) := x2
            have b1d : Below w.heap.size w w1.drew := b1.drew
            have CFr := hid (l12Free_any A2 c2 s.locks r.t w1.drew ((hl0.below b1d (Nat.le_refl _)).more b1d.size) (by have := hi.out.locks.1; omega))
            rw [hqs] at CFr HQ
            have HKP : Hid (∀ x, Below w1.drew.heap.size w1.drew x → x.cell? ⟨w.heap.size, 0, none⟩ = some (.slice A s.refs.length c) ∧ x.cell? ⟨w.heap.size, 1, none⟩ = some (.slice A2 s.locks.length c2) ∧ x.cell? ⟨w.heap.size + 1, 1, none⟩ = some (.int .i64 r.t)) := fun x hb => ⟨(x0d.later hb).reads.1, (x0d.later hb).reads.2.1, (x1d.later hb).reads.2.1⟩
            clear hqs hx HZ HST
            have HGO : z = 0 ∨ z = 1 := hz1
            rcases HGO with rfl | rfl
            · skip
              go_wp2_with fail
              refine wp_region_held_drew (S := fun x => x.cell? ⟨w.heap.size, 0, none⟩ = some (.slice A s.refs.length c) ∧ x.cell? ⟨w.heap.size, 1, none⟩ = some (.slice A2 s.locks.length c2) ∧ x.cell? ⟨w.heap.size + 1, 1, none⟩ = some (.int .i64 r.t)) (by kernel_rfl) (HKP.out _ (Below.refl _ _)) (fun hHeld => ?_)
              refine wpAnyH_take (i := 0) (oi := _) (v := ?_) rfl (by kernel_rfl) (by kernel_rfl) (by kernel_rfl) (fun _ _ _ h => h) (Or.inl ⟨by rfl, ?_⟩) hHeld ?_
              rotate_left
              · (intro w' hSw; (try dsimp only at hSw); go_simp <;> with_reducible rfl)
              try simp only [Act.put, List.getElem_toArray, List.getElem_cons_succ, List.getElem_cons_zero, List.setIfInBounds_toArray, List.set_cons_zero, List.set_cons_succ]
              refine wpAnyH_take (i := 1) (oi := _) (v := ?_) rfl (by kernel_rfl) (by kernel_rfl) (by kernel_rfl) (fun _ _ _ h => h) (Or.inl ⟨by rfl, ?_⟩) hHeld ?_
              rotate_left
              · (intro w' hSw; (try dsimp only at hSw); go_simp <;> with_reducible rfl)
              try simp only [Act.put, List.getElem_toArray, List.getElem_cons_succ, List.getElem_cons_zero, List.setIfInBounds_toArray, List.set_cons_zero, List.set_cons_succ]
              refine wpAnyH_take (i := 2) (oi := _) (v := ?_) rfl (by kernel_rfl) (by kernel_rfl) (by kernel_rfl) (fun _ _ _ h => h) (Or.inl ⟨by rfl, ?_⟩) hHeld ?_
              rotate_left
              · (intro w' hSw; (try dsimp only at hSw); go_simp <;> with_reducible rfl)
              try simp only [Act.put, List.getElem_toArray, List.getElem_cons_succ, List.getElem_cons_zero, List.setIfInBounds_toArray, List.set_cons_zero, List.set_cons_succ]
              refine wpAnyH_take (i := 3) (oi := _) (v := ?_) rfl (by kernel_rfl) (by kernel_rfl) (by kernel_rfl) (fun _ _ _ h => h) (Or.inl ⟨by rfl, ?_⟩) hHeld ?_
              rotate_left
              · (intro w' hSw; (try dsimp only at hSw); go_simp <;> with_reducible rfl)
              try simp only [Act.put, List.getElem_toArray, List.getElem_cons_succ, List.getElem_cons_zero, List.setIfInBounds_toArray, List.set_cons_zero, List.set_cons_succ]
              refine wpAnyH_take (i := 4) (oi := _) (v := ?_) rfl (by kernel_rfl) (by kernel_rfl) (by kernel_rfl) (fun _ _ _ h => h) (Or.inl ⟨by rfl, ?_⟩) hHeld ?_
              rotate_left
              · (intro w' hSw; (try dsimp only at hSw); go_simp <;> with_reducible rfl)
              try simp only [Act.put, List.getElem_toArray, List.getElem_cons_succ, List.getElem_cons_zero, List.setIfInBounds_toArray, List.set_cons_zero, List.set_cons_succ]
              refine wpAnyH_take (i := 5) (oi := _) (v := ?_) rfl (by kernel_rfl) (by kernel_rfl) (by kernel_rfl) (fun _ _ _ h => h) (Or.inl ⟨by rfl, ?_⟩) hHeld ?_
              rotate_left
              · (intro w' hSw; (try dsimp only at hSw); go_simp <;> with_reducible rfl)
              try simp only [Act.put, List.getElem_toArray, List.getElem_cons_succ, List.getElem_cons_zero, List.setIfInBounds_toArray, List.set_cons_zero, List.set_cons_succ]
              refine wpAnyH_ready (rs := [6]) (by kernel_rfl) (by simp) (AllReadyH.cons (o := _) rfl (fun K hK => ?_) AllReadyH.nil)
              try simp only [Act.put, List.getElem_toArray, List.getElem_cons_succ, List.getElem_cons_zero, List.setIfInBounds_toArray, List.set_cons_zero, List.set_cons_succ]
              go_simp
              go_at_call 130
              refine CFr.out.mono ?_
              rintro e w4 ⟨A5, c5, rfl, o5, d4⟩
              have hc5 : qs.length ≤ c5 := by obtain ⟨_, _, e, _, h⟩ := o5.form; injection e with _ _ e; omega
              replace x0 := x0d.later d4
              replace x2 := x2d.later d4
              replace b1 := b1d.trans (d4.mono b1d.size)
              clear y0 y1 r0 r1 r2 t0 t1 tf
              obtain ⟨t0, t1, tf⟩ := id x2.reads
              have o6 := (o5.keptT (by decide) (but_set w4 (w.heap.size + 1 + 1) 0 (.slice A s.refs.length c)) (blk_type x2)).keptT (by decide) (but_set _ (w.heap.size + 1 + 1) 1 (.slice A5 qs.length c5)) (blk_type (x2.set0 _))
              obtain ⟨p0, p1, -⟩ := ((x2.set0 (.slice A s.refs.length c)).set1 (.slice A5 qs.length c5)).reads
              have b7 := (b1.setCell (p := ⟨w.heap.size + 1 + 1, 0, none⟩) (by show w.heap.size ≤ w.heap.size + 1 + 1; omega) (.slice A s.refs.length c)).setCell (p := ⟨w.heap.size + 1 + 1, 1, none⟩) (by show w.heap.size ≤ w.heap.size + 1 + 1; omega) (.slice A5 qs.length c5)
              have HRS : Hid (Stt _ _ (stV A s.refs.length c A5 qs.length c5) ⟨s.refs, qs⟩) := ⟨A, c, A5, c5, rfl, (hr0.below b7 (Nat.le_refl _)).more b7.size, hrc, o6.row, hc5⟩
              have HS9 : Hid (((w4.setCell ⟨w.heap.size + 1 + 1, 0, none⟩ (.slice A s.refs.length c)).setCell ⟨w.heap.size + 1 + 1, 1, none⟩ (.slice A5 qs.length c5)).cell? ⟨w.heap.size, 0, none⟩ = some (.slice A s.refs.length c) ∧ ((w4.setCell ⟨w.heap.size + 1 + 1, 0, none⟩ (.slice A s.refs.length c)).setCell ⟨w.heap.size + 1 + 1, 1, none⟩ (.slice A5 qs.length c5)).cell? ⟨w.heap.size, 1, none⟩ = some (.slice A2 s.locks.length c2) ∧ ((w4.setCell ⟨w.heap.size + 1 + 1, 0, none⟩ (.slice A s.refs.length c)).setCell ⟨w.heap.size + 1 + 1, 1, none⟩ (.slice A5 qs.length c5)).cell? ⟨w.heap.size + 1, 1, none⟩ = some (.int .i64 r.t)) := by
                have f0 := (x0.far (p := ⟨w.heap.size + 1 + 1, 0, none⟩) (by show w.heap.size ≠ w.heap.size + 1 + 1; omega) (.slice A s.refs.length c)).far (p := ⟨w.heap.size + 1 + 1, 1, none⟩) (by show w.heap.size ≠ w.heap.size + 1 + 1; omega) (.slice A5 qs.length c5)
                have f1 := ((x1d.later d4).far (p := ⟨w.heap.size + 1 + 1, 0, none⟩) (by show w.heap.size + 1 ≠ w.heap.size + 1 + 1; omega) (.slice A s.refs.length c)).far (p := ⟨w.heap.size + 1 + 1, 1, none⟩) (by show w.heap.size + 1 ≠ w.heap.size + 1 + 1; omega) (.slice A5 qs.length c5)
                exact ⟨f0.reads.1, f0.reads.2.1, f1.reads.2.1⟩
              clear o5 o6
              refine hK.out _ _ (HKP.out _ d4) (fun hHeld => ?_)
              clear hK K
              try simp only [Act.put, List.getElem_toArray, List.getElem_cons_succ, List.getElem_cons_zero, List.setIfInBounds_toArray, List.set_cons_zero, List.set_cons_succ]
              refine wpAnyH_take (i := 7) (oi := _) (v := ?_) rfl (by kernel_rfl) (by kernel_rfl) (by kernel_rfl) (fun _ _ _ h => h) (Or.inl ⟨by rfl, ?_⟩) hHeld ?_
              rotate_left
              · (intro w' hSw; (try dsimp only at hSw); go_simp <;> with_reducible rfl)
              try simp only [Act.put, List.getElem_toArray, List.getElem_cons_succ, List.getElem_cons_zero, List.setIfInBounds_toArray, List.set_cons_zero, List.set_cons_succ]
              refine wpAnyH_ready (rs := [8]) (by kernel_rfl) (by simp) (AllReadyH.cons (o := _) rfl (fun K hK => ?_) AllReadyH.nil)
              try simp only [Act.put, List.getElem_toArray, List.getElem_cons_succ, List.getElem_cons_zero, List.setIfInBounds_toArray, List.set_cons_zero, List.set_cons_succ]
              go_simp
              refine hK.out _ _ (HS9.out) (fun hHeld => ?_)
              clear hK K
              try simp only [Act.put, List.getElem_toArray, List.getElem_cons_succ, List.getElem_cons_zero, List.setIfInBounds_toArray, List.set_cons_zero, List.set_cons_succ]
              refine wpAnyH_take (i := 9) (oi := _) (v := ?_) rfl (by kernel_rfl) (by kernel_rfl) (by kernel_rfl) (fun _ _ _ h => h) (Or.inl ⟨by rfl, ?_⟩) hHeld ?_
              rotate_left
              · (intro w' hSw; (try dsimp only at hSw); go_simp <;> with_reducible rfl)
              try simp only [Act.put, List.getElem_toArray, List.getElem_cons_succ, List.getElem_cons_zero, List.setIfInBounds_toArray, List.set_cons_zero, List.set_cons_succ]
              refine wpAnyH_done (by kernel_rfl) ?_ _
              go_wp2
              refine bodyPost_ret (v := .tuple #[.agg #[.slice A s.refs.length c, .slice A5 qs.length c5], .bool true]) (by simp [results, Tryz.results102, go_sem, p0, p1]) rfl ?_
              obtain ⟨hb', hs'⟩ := HQ.out
              rw [hb', hs']
              exact ⟨_, rfl, HRS.out, b7⟩
            · skip
              go_wp2_with fail
              refine wp_region_held_drew (S := fun x => x.cell? ⟨w.heap.size, 0, none⟩ = some (.slice A s.refs.length c) ∧ x.cell? ⟨w.heap.size, 1, none⟩ = some (.slice A2 s.locks.length c2) ∧ x.cell? ⟨w.heap.size + 1, 1, none⟩ = some (.int .i64 r.t)) (by kernel_rfl) (HKP.out _ (Below.refl _ _)) (fun hHeld => ?_)
              refine wpAnyH_take (i := 0) (oi := _) (v := ?_) rfl (by kernel_rfl) (by kernel_rfl) (by kernel_rfl) (fun _ _ _ h => h) (Or.inl ⟨by rfl, ?_⟩) hHeld ?_
              rotate_left
              · (intro w' hSw; (try dsimp only at hSw); go_simp <;> with_reducible rfl)
              try simp only [Act.put, List.getElem_toArray, List.getElem_cons_succ, List.getElem_cons_zero, List.setIfInBounds_toArray, List.set_cons_zero, List.set_cons_succ]
              refine wpAnyH_take (i := 1) (oi := _) (v := ?_) rfl (by kernel_rfl) (by kernel_rfl) (by kernel_rfl) (fun _ _ _ h => h) (Or.inl ⟨by rfl, ?_⟩) hHeld ?_
              rotate_left
              · (intro w' hSw; (try dsimp only at hSw); go_simp <;> with_reducible rfl)
              try simp only [Act.put, List.getElem_toArray, List.getElem_cons_succ, List.getElem_cons_zero, List.setIfInBounds_toArray, List.set_cons_zero, List.set_cons_succ]
              refine wpAnyH_take (i := 2) (oi := _) (v := ?_) rfl (by kernel_rfl) (by kernel_rfl) (by kernel_rfl) (fun _ _ _ h => h) (Or.inl ⟨by rfl, ?_⟩) hHeld ?_
              rotate_left
              · (intro w' hSw; (try dsimp only at hSw); go_simp <;> with_reducible rfl)
              try simp only [Act.put, List.getElem_toArray, List.getElem_cons_succ, List.getElem_cons_zero, List.setIfInBounds_toArray, List.set_cons_zero, List.set_cons_succ]
              refine wpAnyH_take (i := 3) (oi := _) (v := ?_) rfl (by kernel_rfl) (by kernel_rfl) (by kernel_rfl) (fun _ _ _ h => h) (Or.inl ⟨by rfl, ?_⟩) hHeld ?_
              rotate_left
              · (intro w' hSw; (try dsimp only at hSw); go_simp <;> with_reducible rfl)
              try simp only [Act.put, List.getElem_toArray, List.getElem_cons_succ, List.getElem_cons_zero, List.setIfInBounds_toArray, List.set_cons_zero, List.set_cons_succ]
              refine wpAnyH_take (i := 4) (oi := _) (v := ?_) rfl (by kernel_rfl) (by kernel_rfl) (by kernel_rfl) (fun _ _ _ h => h) (Or.inl ⟨by rfl, ?_⟩) hHeld ?_
              rotate_left
              · (intro w' hSw; (try dsimp only at hSw); go_simp <;> with_reducible rfl)
              try simp only [Act.put, List.getElem_toArray, List.getElem_cons_succ, List.getElem_cons_zero, List.setIfInBounds_toArray, List.set_cons_zero, List.set_cons_succ]
              refine wpAnyH_take (i := 5) (oi := _) (v := ?_) rfl (by kernel_rfl) (by kernel_rfl) (by kernel_rfl) (fun _ _ _ h => h) (Or.inl ⟨by rfl, ?_⟩) hHeld ?_
              rotate_left
              · (intro w' hSw; (try dsimp only at hSw); go_simp <;> with_reducible rfl)
              try simp only [Act.put, List.getElem_toArray, List.getElem_cons_succ, List.getElem_cons_zero, List.setIfInBounds_toArray, List.set_cons_zero, List.set_cons_succ]
              refine wpAnyH_ready (rs := [6]) (by kernel_rfl) (by simp) (AllReadyH.cons (o := _) rfl (fun K hK => ?_) AllReadyH.nil)
              try simp only [Act.put, List.getElem_toArray, List.getElem_cons_succ, List.getElem_cons_zero, List.setIfInBounds_toArray, List.set_cons_zero, List.set_cons_succ]
              go_simp
              go_at_call 130
              refine CFr.out.mono ?_
              rintro e w4 ⟨A5, c5, rfl, o5, d4⟩
              have hc5 : qs.length ≤ c5 := by obtain ⟨_, _, e, _, h⟩ := o5.form; injection e with _ _ e; omega
              replace x0 := x0d.later d4
              replace x2 := x2d.later d4
              replace b1 := b1d.trans (d4.mono b1d.size)
              clear y0 y1 r0 r1 r2 t0 t1 tf
              obtain ⟨t0, t1, tf⟩ := id x2.reads
              have o6 := (o5.keptT (by decide) (but_set w4 (w.heap.size + 1 + 1) 0 (.slice A s.refs.length c)) (blk_type x2)).keptT (by decide) (but_set _ (w.heap.size + 1 + 1) 1 (.slice A5 qs.length c5)) (blk_type (x2.set0 _))
              obtain ⟨p0, p1, -⟩ := ((x2.set0 (.slice A s.refs.length c)).set1 (.slice A5 qs.length c5)).reads
              have b7 := (b1.setCell (p := ⟨w.heap.size + 1 + 1, 0, none⟩) (by show w.heap.size ≤ w.heap.size + 1 + 1; omega) (.slice A s.refs.length c)).setCell (p := ⟨w.heap.size + 1 + 1, 1, none⟩) (by show w.heap.size ≤ w.heap.size + 1 + 1; omega) (.slice A5 qs.length c5)
              have HRS : Hid (Stt _ _ (stV A s.refs.length c A5 qs.length c5) ⟨s.refs, qs⟩) := ⟨A, c, A5, c5, rfl, (hr0.below b7 (Nat.le_refl _)).more b7.size, hrc, o6.row, hc5⟩
              have HS9 : Hid (((w4.setCell ⟨w.heap.size + 1 + 1, 0, none⟩ (.slice A s.refs.length c)).setCell ⟨w.heap.size + 1 + 1, 1, none⟩ (.slice A5 qs.length c5)).cell? ⟨w.heap.size, 0, none⟩ = some (.slice A s.refs.length c) ∧ ((w4.setCell ⟨w.heap.size + 1 + 1, 0, none⟩ (.slice A s.refs.length c)).setCell ⟨w.heap.size + 1 + 1, 1, none⟩ (.slice A5 qs.length c5)).cell? ⟨w.heap.size, 1, none⟩ = some (.slice A2 s.locks.length c2) ∧ ((w4.setCell ⟨w.heap.size + 1 + 1, 0, none⟩ (.slice A s.refs.length c)).setCell ⟨w.heap.size + 1 + 1, 1, none⟩ (.slice A5 qs.length c5)).cell? ⟨w.heap.size + 1, 1, none⟩ = some (.int .i64 r.t)) := by
                have f0 := (x0.far (p := ⟨w.heap.size + 1 + 1, 0, none⟩) (by show w.heap.size ≠ w.heap.size + 1 + 1; omega) (.slice A s.refs.length c)).far (p := ⟨w.heap.size + 1 + 1, 1, none⟩) (by show w.heap.size ≠ w.heap.size + 1 + 1; omega) (.slice A5 qs.length c5)
                have f1 := ((x1d.later d4).far (p := ⟨w.heap.size + 1 + 1, 0, none⟩) (by show w.heap.size + 1 ≠ w.heap.size + 1 + 1; omega) (.slice A s.refs.length c)).far (p := ⟨w.heap.size + 1 + 1, 1, none⟩) (by show w.heap.size + 1 ≠ w.heap.size + 1 + 1; omega) (.slice A5 qs.length c5)
                exact ⟨f0.reads.1, f0.reads.2.1, f1.reads.2.1⟩
              clear o5 o6
              refine hK.out _ _ (HKP.out _ d4) (fun hHeld => ?_)
              clear hK K
              try simp only [Act.put, List.getElem_toArray, List.getElem_cons_succ, List.getElem_cons_zero, List.setIfInBounds_toArray, List.set_cons_zero, List.set_cons_succ]
              refine wpAnyH_take (i := 7) (oi := _) (v := ?_) rfl (by kernel_rfl) (by kernel_rfl) (by kernel_rfl) (fun _ _ _ h => h) (Or.inl ⟨by rfl, ?_⟩) hHeld ?_
              rotate_left
              · (intro w' hSw; (try dsimp only at hSw); go_simp <;> with_reducible rfl)
              try simp only [Act.put, List.getElem_toArray, List.getElem_cons_succ, List.getElem_cons_zero, List.setIfInBounds_toArray, List.set_cons_zero, List.set_cons_succ]
              refine wpAnyH_ready (rs := [8]) (by kernel_rfl) (by simp) (AllReadyH.cons (o := _) rfl (fun K hK => ?_) AllReadyH.nil)
              try simp only [Act.put, List.getElem_toArray, List.getElem_cons_succ, List.getElem_cons_zero, List.setIfInBounds_toArray, List.set_cons_zero, List.set_cons_succ]
              go_simp
              refine hK.out _ _ (HS9.out) (fun hHeld => ?_)
              clear hK K
              try simp only [Act.put, List.getElem_toArray, List.getElem_cons_succ, List.getElem_cons_zero, List.setIfInBounds_toArray, List.set_cons_zero, List.set_cons_succ]
              refine wpAnyH_take (i := 9) (oi := _) (v := ?_) rfl (by kernel_rfl) (by kernel_rfl) (by kernel_rfl) (fun _ _ _ h => h) (Or.inl ⟨by rfl, ?_⟩) hHeld ?_
              rotate_left
              · (intro w' hSw; (try dsimp only at hSw); go_simp <;> with_reducible rfl)
              try simp only [Act.put, List.getElem_toArray, List.getElem_cons_succ, List.getElem_cons_zero, List.setIfInBounds_toArray, List.set_cons_zero, List.set_cons_succ]
              refine wpAnyH_done (by kernel_rfl) ?_ _
              go_wp2
              refine bodyPost_ret (v := .tuple #[.agg #[.slice A s.refs.length c, .slice A5 qs.length c5], .bool true]) (by simp [results, Tryz.results102, go_sem, p0, p1]) rfl ?_
              obtain ⟨hb', hs'⟩ := HQ.out
              rw [hb', hs']
              exact ⟨_, rfl, HRS.out, b7⟩
          · have e4 : decide ((0 : Int) < (r.us.length : Int)) = true := decide_eq_true (by omega)
            have e5 : 0 < r.us.length := by omega
            have HNO : Hid (¬ ∃ x, Step rs s r x) := fun ⟨x, hx⟩ => hl (by rw [(step_3 hx hk3).2]; rfl)
            rcases hz1 with rfl | rfl
            · skip
              obtain ⟨p0, p1, -⟩ := ((x2.set0 (.slice A s.refs.length c)).set1 (.slice A2 s.locks.length c2)).reads
              have b7 := (b1.setCell (p := ⟨w.heap.size + 1 + 1, 0, none⟩) (by show w.heap.size ≤ w.heap.size + 1 + 1; omega) (.slice A s.refs.length c)).setCell (p := ⟨w.heap.size + 1 + 1, 1, none⟩) (by show w.heap.size ≤ w.heap.size + 1 + 1; omega) (.slice A2 s.locks.length c2)
              have HRS : Hid (Stt _ _ (stV A s.refs.length c A2 s.locks.length c2) s) := hs0.on b7 b7.size
              go_wp2
              refine bodyPost_ret (v := .tuple #[.agg #[.slice A s.refs.length c, .slice A2 s.locks.length c2], .bool false]) (by simp [results, Tryz.results102, go_sem, p0, p1]) rfl ?_
              obtain ⟨hb', hs'⟩ := HST.out.no HNO.out
              rw [hb', hs']
              exact ⟨_, rfl, HRS.out, b7⟩
            · skip
              obtain ⟨p0, p1, -⟩ := ((x2.set0 (.slice A s.refs.length c)).set1 (.slice A2 s.locks.length c2)).reads
              have b7 := (b1.setCell (p := ⟨w.heap.size + 1 + 1, 0, none⟩) (by show w.heap.size ≤ w.heap.size + 1 + 1; omega) (.slice A s.refs.length c)).setCell (p := ⟨w.heap.size + 1 + 1, 1, none⟩) (by show w.heap.size ≤ w.heap.size + 1 + 1; omega) (.slice A2 s.locks.length c2)
              have HRS : Hid (Stt _ _ (stV A s.refs.length c A2 s.locks.length c2) s) := hs0.on b7 b7.size
              go_wp2
              refine bodyPost_ret (v := .tuple #[.agg #[.slice A s.refs.length c, .slice A2 s.locks.length c2], .bool false]) (by simp [results, Tryz.results102, go_sem, p0, p1]) rfl ?_
              obtain ⟨hb', hs'⟩ := HST.out.no HNO.out
              rw [hb', hs']
              exact ⟨_, rfl, HRS.out, b7⟩
        · have e5 : (z != 0) = true := by rw [bne_iff_ne]; exact fun e => hz1 (.inl e)
          have e6 : (z != 1) = true := by rw [bne_iff_ne]; exact fun e => hz1 (.inr e)
          have HNO : Hid (¬ ∃ x, Step rs s r x) := fun ⟨x, hx⟩ => hz1 (by rw [← HZ.out]; exact (step_3 hx hk3).1)
          clear hz1
          obtain ⟨p0, p1, -⟩ := ((x2.set0 (.slice A s.refs.length c)).set1 (.slice A2 s.locks.length c2)).reads
          have b7 := (b1.setCell (p := ⟨w.heap.size + 1 + 1, 0, none⟩) (by show w.heap.size ≤ w.heap.size + 1 + 1; omega) (.slice A s.refs.length c)).setCell (p := ⟨w.heap.size + 1 + 1, 1, none⟩) (by show w.heap.size ≤ w.heap.size + 1 + 1; omega) (.slice A2 s.locks.length c2)
          have HRS : Hid (Stt _ _ (stV A s.refs.length c A2 s.locks.length c2) s) := hs0.on b7 b7.size
          go_wp2
          refine bodyPost_ret (v := .tuple #[.agg #[.slice A s.refs.length c, .slice A2 s.locks.length c2], .bool false]) (by simp [results, Tryz.results102, go_sem, p0, p1]) rfl ?_
          obtain ⟨hb', hs'⟩ := HST.out.no HNO.out
          rw [hb', hs']
          exact ⟨_, rfl, HRS.out, b7⟩
      · have e3 : (r.k == 3) = false := by rw [beq_eq_false_iff_ne]; exact hk3
        have HNO : Hid (¬ ∃ x, Step rs s r x) := fun ⟨x, hx⟩ => by rcases step_kind hx with h | h | h <;> contradiction
        obtain ⟨p0, p1, -⟩ := ((x2.set0 (.slice A s.refs.length c)).set1 (.slice A2 s.locks.length c2)).reads
        have b7 := (b1.setCell (p := ⟨w.heap.size + 1 + 1, 0, none⟩) (by show w.heap.size ≤ w.heap.size + 1 + 1; omega) (.slice A s.refs.length c)).setCell (p := ⟨w.heap.size + 1 + 1, 1, none⟩) (by show w.heap.size ≤ w.heap.size + 1 + 1; omega) (.slice A2 s.locks.length c2)
        have HRS : Hid (Stt _ _ (stV A s.refs.length c A2 s.locks.length c2) s) := hs0.on b7 b7.size
        go_wp2
        refine bodyPost_ret (v := .tuple #[.agg #[.slice A s.refs.length c, .slice A2 s.locks.length c2], .bool false]) (by simp [results, Tryz.results102, go_sem, p0, p1]) rfl ?_
        obtain ⟨hb', hs'⟩ := HST.out.no HNO.out
        rw [hb', hs']
        exact ⟨_, rfl, HRS.out, b7⟩
end Go.Proofs.YteaibflloeipaaaGreatDoor
/- Laws on coordinators: a coordinator is boxed. -/
/- On to the world behind D. -/
/- An exact law begins: the argument's box, its size, a copy for the model. -/
/- The program's own copy of the argument is boxed. -/
/- The program's copy is as the argument; the region draws. -/
/- Laws on functions that answer numbers. -/
/- What the boxes hold is read again. -/
/- The coordinator with the slices P4 and P5 is boxed as P6, in block P7, behind it the world P3; ahead of region P1. -/
/- The draw, the program's answer, the model's, and that they are the same: behind it w5, all facts on it by way of dx. -/
/-
  Walks: which shards are valid and what their records come to, by the model.
-/
namespace Go.Proofs.YteaibflloeipaaaGreatDoor
open Go.RowKit Wo Pu Rf Lk Sh

/-- What all records come to, and whether the shard is valid. -/
def RecTo (rs : List Rec) (st : St) (b : Bool) : Prop := Four st ∧ (b = true → Rcv rs st ∧ rs.length ≤ 30) ∧ (b = false → ¬ Vld rs)
theorem Sh.Rcv.four {rs : List Rec} {s : St} (h : Rcv rs s) : Four s := ⟨h.inv.refs, h.inv.locks⟩
theorem rcv_bad {rs : List Rec} {k : Nat} (hk : k < rs.length) {s : St} (h : Rcv (rs.take k) s) (hn : ¬ (TV rs[k].t ∧ ∃ x, Step (rs.take k) s rs[k] x)) : ¬ Vld rs := by
  rintro ⟨⟨s9, h9⟩, _⟩
  have e : rs.take (k + 1) ++ rs.drop (k + 1) = rs := List.take_append_drop ..
  rw [← e] at h9
  obtain ⟨s0, h0⟩ := h9.pre
  rw [List.take_succ_eq_append_getElem hk] at h0
  obtain ⟨s1, h1, ht, hs⟩ := h0.snoc_inv
  obtain rfl := h.one h1
  exact hn ⟨ht, _, hs⟩
theorem rcv_next {rs : List Rec} {k : Nat} (hk : k < rs.length) {s x : St} (h : Rcv (rs.take k) s) (ht : TV rs[k].t) (hs : Step (rs.take k) s rs[k] x) : Rcv (rs.take (k + 1)) x := by
  rw [List.take_succ_eq_append_getElem hk]
  exact .snoc h ht hs
/-- Behind it: a state that can be read, and whether. -/
def Recov (rs : List Rec) (w : World) (e : Ending) (w' : World) : Prop := ∃ st b, RecTo rs st b ∧ NewStB st b w e w'
/-! ### Boxes of states are no rows of numbers. -/
theorem ints_far {w : World} {B g : Nat} {T : TypeId} {A A1 A2 : Option Addr} {n1 c1 n2 c2 : Nat} {zs : List Int} (h : Row w B A (ints zs)) (hg : Blk2s w g T (.slice A1 n1 c1) (.slice A2 n2 c2)) (o : Nat) (u : Value) : Row (w.setCell ⟨g, o, none⟩ u) B A (ints zs) := by
  rcases h with h | ⟨ad, e, hb, hc⟩
  · exact .inl h
  · cases zs with
    | nil => exact .inl rfl
    | cons z zs =>
      have hne : ad.block ≠ g := fun e2 => by
        have h0 := hc 0 (.int .i64 z) rfl
        rw [add_zero] at h0
        unfold World.cell? at h0
        unfold Blk2s at hg
        rw [e2, hg] at h0
        simp only at h0
        split at h0
        · cases h0
        · match ho : ad.off, h0 with
          | 0, h0 => simp at h0
          | 1, h0 => simp at h0
          | k + 2, h0 => simp at h0
      refine .inr ⟨ad, e, hb, fun j v hj => ?_⟩
      rw [← hc j v hj]
      exact World.cell?_of_block (Below.heap_setCell w ⟨g, o, none⟩ u _ (by rw [add_block]; exact hne))
theorem Stt.far {w : World} {g : Nat} {T : TypeId} {A1 A2 : Option Addr} {n1 c1 n2 c2 : Nat} {v : Value} {s : St} (h : Stt w w.heap.size v s) (hg : Blk2s w g T (.slice A1 n1 c1) (.slice A2 n2 c2)) (o : Nat) (u : Value) : Stt (w.setCell ⟨g, o, none⟩ u) (w.setCell ⟨g, o, none⟩ u).heap.size v s := by
  obtain ⟨A, c, A', c', e, h1, h2, h3, h4⟩ := h
  have hz : (w.setCell ⟨g, o, none⟩ u).heap.size = w.heap.size := by simp [World.setCell]
  rw [hz]
  exact ⟨A, c, A', c', e, ints_far h1 hg o u, h2, ints_far h3 hg o u, h4⟩
/- The state st of the box g is told, and a word. -/
/- The state behind a record is stored into its box. -/
set_option linter.unusedSimpArgs false in
set_option maxRecDepth 100000 in
set_option maxHeartbeats 8000000 in
theorem l21Recover_any (A0 : Option Addr) (c0 : Nat) (rs : List Rec) (w : World) (h : Recs w w.heap.size A0 rs) (hc0 : rs.length ≤ c0) (hf : FitR rs) :
    Calls Tryz.prog 64 #[.slice A0 rs.length c0] w (Recov rs w) := by
  have x0 := Blk2s.new_ w 119 (.slice none 0 0) (.slice none 0 0)
  have b0 := (Below.refl w.heap.size w).alloc (Nat.le_refl _) (.cells #[.slice none 0 0, .slice none 0 0] 119)
  go_enter Tryz.func64, Tryz.ntmps64
  go_wp2_with fail
  generalize w.alloc (.cells #[.slice none 0 0, .slice none 0 0] 119) = w1 at *
  refine (l21Begin_any w1).mono ?_
  rintro e w2 ⟨v2, rfl, s2, d2⟩
  have x2 := x0.later d2
  have b2 := b0.trans (d2.mono b0.size)
  obtain ⟨A1, c1, A2, c2, rfl, r1, hc1, r2, hc2⟩ := s2
  unfold stV
  have z2 := b2.size
  have al := (Below.refl w2.heap.size w2).alloc (Nat.le_refl _) (.cells #[.slice A1 4 c1, .slice A2 4 c2] 119)
  have E0 := x2.alloc (.cells #[.slice A1 4 c1, .slice A2 4 c2] 119)
  have E1 := Blk2s.new_ w2 119 (.slice A1 4 c1) (.slice A2 4 c2)
  have E2 : Stt (w2.alloc (.cells #[.slice A1 4 c1, .slice A2 4 c2] 119)) _ (stV A1 4 c1 A2 4 c2) ⟨[-1, -1, -1, -1], [-1, -1, -1, -1]⟩ := ⟨A1, c1, A2, c2, rfl, (r1.below al (Nat.le_refl _)).more al.size, hc1, (r2.below al (Nat.le_refl _)).more al.size, hc2⟩
  have E3 := b2.trans (al.mono z2)
  have xl := x2.lt
  clear x0 x2 b0 d2 r1 r2 al b2
  go_wp2_with fail
  go_loopw [5] (fun i wr => ∃ (k : Nat) (st : St) (A1 : Option Addr) (c1 : Nat) (A2 : Option Addr) (c2 : Nat), k ≤ rs.length ∧ i = .int .i64 k ∧ Hid (Rcv (rs.take k) st) ∧ Blk2s wr w.heap.size 119 (.slice none 0 0) (.slice none 0 0) ∧ Blk2s wr w2.heap.size 119 (.slice A1 st.refs.length c1) (.slice A2 st.locks.length c2) ∧
    Stt wr wr.heap.size (stV A1 st.refs.length c1 A2 st.locks.length c2) st ∧ Below w.heap.size w wr) (fun i _ => rs.length - (intOf i).toNat)
  case atStart => exact ⟨0, _, A1, c1, A2, c2, Nat.zero_le _, rfl, Rcv.nil, E0, E1, E2, E3⟩
  case round =>
    clear E0 E1 E2 E3
    obtain ⟨k, st, A1, c1, A2, c2, hk, rfl, HR, E0, E1, E2, hb⟩ := hrel
    have hz := hb.size
    obtain ⟨y0, y1, -⟩ := id E0.reads
    obtain ⟨u0, u1, uf⟩ := id E1.reads
    by_cases hlt : k < rs.length
    · obtain ⟨r, ad, A', c', ho, rfl, ha, g0, g1, g2, g3, g4⟩ := (h.below hb (Nat.le_refl _)).rec hlt
      have q0 : (0 : Int) ≤ (k : Int) := by omega
      have q1 : (k : Int) < (rs.length : Int) := by omega
      obtain ⟨vt, hvt⟩ := bool_of (TV r.t)
      have CT : Hid (∀ x, Calls Tryz.prog 101 #[.int .i64 r.t] x (Same (.bool vt) x)) := fun x => l12Txn_is vt r.t x hvt
      have HO : Hid (rs[k] = r) := ho
      clear ho
      go_wp2_with fail
      refine (CT.out _).mono ?_
      rintro e w3 ⟨rfl, rfl⟩
      cases vt with
      | false =>
        have HT : Hid (RecTo rs st false) := ⟨HR.out.four, (fun e => by cases e), fun _ => rcv_bad hlt HR.out fun e => by have := hvt.2 (HO.out ▸ e.1); cases this⟩
        clear hvt CT
        obtain ⟨p0, p1, -⟩ := ((E0.set0 (.slice A1 st.refs.length c1)).set1 (.slice A2 st.locks.length c2)).reads
        have b9 := (hb.setCell (p := ⟨w.heap.size, 0, none⟩) (Nat.le_refl _) (.slice A1 st.refs.length c1)).setCell (p := ⟨w.heap.size, 1, none⟩) (Nat.le_refl _) (.slice A2 st.locks.length c2)
        have HS9 := hid ((E2.far E0 0 (.slice A1 st.refs.length c1)).far (E0.set0 (.slice A1 st.refs.length c1)) 1 (.slice A2 st.locks.length c2))
        obtain ⟨t0, t1, tf⟩ := id E0.reads
        have tf0 := tf 0
        have tf1 := tf 1
        clear tf uf
        go_wp2
        refine bodyPost_ret (v := .tuple #[.agg #[.slice A1 st.refs.length c1, .slice A2 st.locks.length c2], .bool false]) (by simp [results, Tryz.results64, go_sem, p0, p1]) rfl ⟨st, false, HT.out, _, rfl, HS9.out, b9⟩
      | true =>
        have HTV := hid (hvt.1 rfl)
        obtain ⟨bs, st', hst⟩ := step_ex (rs.take k) st r
        have HST := hid hst
        have hkl : (rs.take k).length = k := by rw [List.length_take]; omega
        have hrm : r ∈ rs := by rw [← HO.out]; exact List.getElem_mem hlt
        have CS : Hid (∀ x, Below wr.heap.size wr x → Calls Tryz.prog 102 #[.slice (some ad) k c0, .agg #[.slice A1 st.refs.length c1, .slice A2 st.locks.length c2], .agg #[.int .i64 r.k, .int .i64 r.t, .slice A' r.us.length c']] x (NewStB st' bs x)) := fun x hbx => by
          have hbw := hb.trans (hbx.mono hz)
          have := l21Step_any bs st' (some ad) c0 (rs.take k) (stV A1 st.refs.length c1 A2 st.locks.length c2) st A' c' r x (((h.below hbw (Nat.le_refl _)).more hbw.size).take_ k) (hf.take k) (E2.on hbx hbx.size) (hid HR.out.inv) ((g4.below (hbx.mono hz) (Nat.le_refl _)).more hbw.size) (by have := hf.2 r hrm; omega) HST
          rwa [hkl] at this
        have HKP : Hid (∀ x, Below wr.heap.size wr x → (x.cell? ⟨w2.heap.size, 0, none⟩ = some (.slice A1 st.refs.length c1) ∧ x.cell? ⟨w2.heap.size, 1, none⟩ = some (.slice A2 st.locks.length c2)) ∧ x.cell? (ad.add (k * 3)) = some (.int .i64 r.k) ∧ x.cell? ⟨(ad.add (k * 3)).block, (ad.add (k * 3)).off + 1, none⟩ = some (.int .i64 r.t) ∧ x.cell? ⟨(ad.add (k * 3)).block, (ad.add (k * 3)).off + 2, none⟩ = some (.slice A' r.us.length c')) := fun x hbx =>
          ⟨⟨(E1.later hbx).reads.1, (E1.later hbx).reads.2.1⟩, (hbx.cell (Nat.lt_of_lt_of_le ha hz)).trans g0, (hbx.cell (p := ⟨(ad.add (k * 3)).block, (ad.add (k * 3)).off + 1, none⟩) (Nat.lt_of_lt_of_le ha hz)).trans g1, (hbx.cell (p := ⟨(ad.add (k * 3)).block, (ad.add (k * 3)).off + 2, none⟩) (Nat.lt_of_lt_of_le ha hz)).trans g2⟩
        have q2 : (k : Int) ≤ (c0 : Int) := by omega
        have q3 : (k : Int) ≤ (rs.length : Int) := by omega
        clear hst CT hkl hrm hvt
        go_wp2_with fail
        refine wp_region_held_drew (S := fun x => (x.cell? ⟨w2.heap.size, 0, none⟩ = some (.slice A1 st.refs.length c1) ∧ x.cell? ⟨w2.heap.size, 1, none⟩ = some (.slice A2 st.locks.length c2)) ∧ x.cell? (ad.add (k * 3)) = some (.int .i64 r.k) ∧ x.cell? ⟨(ad.add (k * 3)).block, (ad.add (k * 3)).off + 1, none⟩ = some (.int .i64 r.t) ∧ x.cell? ⟨(ad.add (k * 3)).block, (ad.add (k * 3)).off + 2, none⟩ = some (.slice A' r.us.length c')) (by kernel_rfl) (HKP.out _ (Below.refl _ _).drew) (fun hHeld => ?_)
        refine wpAnyH_take (i := 0) (oi := _) (v := ?_) rfl (by kernel_rfl) (by kernel_rfl) (by kernel_rfl) (fun _ _ _ h => h) (Or.inl ⟨by rfl, ?_⟩) hHeld ?_
        rotate_left
        · (intro w' hSw; (try dsimp only at hSw); go_simp <;> with_reducible rfl)
        try simp only [Act.put, List.getElem_toArray, List.getElem_cons_succ, List.getElem_cons_zero, List.setIfInBounds_toArray, List.set_cons_zero, List.set_cons_succ]
        refine wpAnyH_take (i := 1) (oi := _) (v := ?_) rfl (by kernel_rfl) (by kernel_rfl) (by kernel_rfl) (fun _ _ _ h => h) (Or.inl ⟨by rfl, ?_⟩) hHeld ?_
        rotate_left
        · (intro w' hSw; (try dsimp only at hSw); go_simp <;> with_reducible rfl)
        try simp only [Act.put, List.getElem_toArray, List.getElem_cons_succ, List.getElem_cons_zero, List.setIfInBounds_toArray, List.set_cons_zero, List.set_cons_succ]
        refine wpAnyH_take (i := 2) (oi := _) (v := ?_) rfl (by kernel_rfl) (by kernel_rfl) (by kernel_rfl) (fun _ _ _ h => h) (Or.inl ⟨by rfl, ?_⟩) hHeld ?_
        rotate_left
        · (intro w' hSw; (try dsimp only at hSw); go_simp <;> with_reducible rfl)
        try simp only [Act.put, List.getElem_toArray, List.getElem_cons_succ, List.getElem_cons_zero, List.setIfInBounds_toArray, List.set_cons_zero, List.set_cons_succ]
        refine wpAnyH_take (i := 3) (oi := _) (v := ?_) rfl (by kernel_rfl) (by kernel_rfl) (by kernel_rfl) (fun _ _ _ h => h) (Or.inl ⟨by rfl, ?_⟩) hHeld ?_
        rotate_left
        · (intro w' hSw; (try dsimp only at hSw); go_simp <;> with_reducible rfl)
        try simp only [Act.put, List.getElem_toArray, List.getElem_cons_succ, List.getElem_cons_zero, List.setIfInBounds_toArray, List.set_cons_zero, List.set_cons_succ]
        refine wpAnyH_take (i := 4) (oi := _) (v := ?_) rfl (by kernel_rfl) (by kernel_rfl) (by kernel_rfl) (fun _ _ _ h => h) (Or.inl ⟨by rfl, ?_⟩) hHeld ?_
        rotate_left
        · (intro w' hSw; (try dsimp only at hSw); go_simp <;> with_reducible rfl)
        try simp only [Act.put, List.getElem_toArray, List.getElem_cons_succ, List.getElem_cons_zero, List.setIfInBounds_toArray, List.set_cons_zero, List.set_cons_succ]
        refine wpAnyH_take (i := 5) (oi := _) (v := ?_) rfl (by kernel_rfl) (by kernel_rfl) (by kernel_rfl) (fun _ _ _ h => h) (Or.inl ⟨by rfl, ?_⟩) hHeld ?_
        rotate_left
        · (intro w' hSw; (try dsimp only at hSw); go_simp <;> with_reducible rfl)
        try simp only [Act.put, List.getElem_toArray, List.getElem_cons_succ, List.getElem_cons_zero, List.setIfInBounds_toArray, List.set_cons_zero, List.set_cons_succ]
        refine wpAnyH_take (i := 6) (oi := _) (v := ?_) rfl (by kernel_rfl) (by kernel_rfl) (by kernel_rfl) (fun _ _ _ h => h) (Or.inl ⟨by rfl, ?_⟩) hHeld ?_
        rotate_left
        · (intro w' hSw; (try dsimp only at hSw); go_simp <;> with_reducible rfl)
        try simp only [Act.put, List.getElem_toArray, List.getElem_cons_succ, List.getElem_cons_zero, List.setIfInBounds_toArray, List.set_cons_zero, List.set_cons_succ]
        refine wpAnyH_take (i := 7) (oi := _) (v := ?_) rfl (by kernel_rfl) (by kernel_rfl) (by kernel_rfl) (fun _ _ _ h => h) (Or.inl ⟨by rfl, ?_⟩) hHeld ?_
        rotate_left
        · (intro w' hSw; (try dsimp only at hSw); go_simp <;> with_reducible rfl)
        try simp only [Act.put, List.getElem_toArray, List.getElem_cons_succ, List.getElem_cons_zero, List.setIfInBounds_toArray, List.set_cons_zero, List.set_cons_succ]
        refine wpAnyH_ready (rs := [8, 12]) (by kernel_rfl) (by simp) (AllReadyH.cons (o := _) rfl (fun K hK => ?_) (AllReadyH.cons (o := _) rfl (fun K hK => ?_) AllReadyH.nil))
        · skip
          try simp only [Act.put, List.getElem_toArray, List.getElem_cons_succ, List.getElem_cons_zero, List.setIfInBounds_toArray, List.set_cons_zero, List.set_cons_succ]
          go_simp
          go_at_call 102
          refine (CS.out _ (Below.refl _ _).drew).mono ?_
          rintro e w4 ⟨v4, rfl, s4, d4⟩
          have D4 := (Below.refl wr.heap.size wr).drew.trans (d4.mono (Nat.le_refl _))
          obtain ⟨A3, c3, A4, c4, rfl, -⟩ := id s4
          unfold stV
          refine hK.out _ _ (HKP.out _ D4) (fun hHeld => ?_)
          clear hK K
          try simp only [Act.put, List.getElem_toArray, List.getElem_cons_succ, List.getElem_cons_zero, List.setIfInBounds_toArray, List.set_cons_zero, List.set_cons_succ]
          refine wpAnyH_take (i := 9) (oi := _) (v := ?_) rfl (by kernel_rfl) (by kernel_rfl) (by kernel_rfl) (fun _ _ _ h => h) (Or.inl ⟨by rfl, ?_⟩) hHeld ?_
          rotate_left
          · (intro w' hSw; (try dsimp only at hSw); go_simp <;> with_reducible rfl)
          try simp only [Act.put, List.getElem_toArray, List.getElem_cons_succ, List.getElem_cons_zero, List.setIfInBounds_toArray, List.set_cons_zero, List.set_cons_succ]
          refine wpAnyH_take (i := 10) (oi := _) (v := ?_) rfl (by kernel_rfl) (by kernel_rfl) (by kernel_rfl) (fun _ _ _ h => h) (Or.inl ⟨by rfl, ?_⟩) hHeld ?_
          rotate_left
          · (intro w' hSw; (try dsimp only at hSw); go_simp <;> with_reducible rfl)
          try simp only [Act.put, List.getElem_toArray, List.getElem_cons_succ, List.getElem_cons_zero, List.setIfInBounds_toArray, List.set_cons_zero, List.set_cons_succ]
          refine wpAnyH_ready (rs := [11, 12]) (by kernel_rfl) (by simp) (AllReadyH.cons (o := _) rfl (fun K hK => ?_) (AllReadyH.cons (o := _) rfl (fun K hK => ?_) AllReadyH.nil))
          · skip
            try simp only [Act.put, List.getElem_toArray, List.getElem_cons_succ, List.getElem_cons_zero, List.setIfInBounds_toArray, List.set_cons_zero, List.set_cons_succ]
            go_simp
            refine hK.out _ _ (HKP.out _ D4) (fun hHeld => ?_)
            clear hK K
            try simp only [Act.put, List.getElem_toArray, List.getElem_cons_succ, List.getElem_cons_zero, List.setIfInBounds_toArray, List.set_cons_zero, List.set_cons_succ]
            refine wpAnyH_ready (rs := [12]) (by kernel_rfl) (by simp) (AllReadyH.cons (o := _) rfl (fun K hK => ?_) AllReadyH.nil)
            try simp only [Act.put, List.getElem_toArray, List.getElem_cons_succ, List.getElem_cons_zero, List.setIfInBounds_toArray, List.set_cons_zero, List.set_cons_succ]
            go_simp
            have al4 := (Below.refl w4.heap.size w4).alloc (Nat.le_refl _) (.cells #[.slice none 0 0, .slice none 0 0] 119)
            have D5 := D4.trans (al4.mono D4.size)
            have X5 := Blk2s.new_ w4 119 (.slice none 0 0) (.slice none 0 0)
            have S5 := s4.on al4 al4.size
            have G5 : wr.heap.size ≤ w4.heap.size := D4.size
            obtain ⟨w5, hw5⟩ : ∃ w5, w4.alloc (.cells #[.slice none 0 0, .slice none 0 0] 119) = w5 := ⟨_, rfl⟩
            rw [hw5] at D5 X5 S5 ⊢
            refine hK.out _ _ (HKP.out _ D5) (fun hHeld => ?_)
            clear hK K
            try simp only [Act.put, List.getElem_toArray, List.getElem_cons_succ, List.getElem_cons_zero, List.setIfInBounds_toArray, List.set_cons_zero, List.set_cons_succ]
            clear s4 d4 D4 al4 hw5
            obtain ⟨z0, z1, zf⟩ := id X5.reads
            have zf0 := zf 0
            have zf1 := zf 1
            clear zf
            refine wpAnyH_ready (rs := [13]) (by kernel_rfl) (by simp) (AllReadyH.cons (o := _) rfl (fun K hK => ?_) AllReadyH.nil)
            try simp only [Act.put, List.getElem_toArray, List.getElem_cons_succ, List.getElem_cons_zero, List.setIfInBounds_toArray, List.set_cons_zero, List.set_cons_succ]
            go_simp
            have D6 := (D5.setCell (p := ⟨w4.heap.size, 0, none⟩) G5 (.slice A3 st'.refs.length c3)).setCell (p := ⟨w4.heap.size, 1, none⟩) G5 (.slice A4 st'.locks.length c4)
            have S6 := (S5.far X5 0 (.slice A3 st'.refs.length c3)).far (X5.set0 (.slice A3 st'.refs.length c3)) 1 (.slice A4 st'.locks.length c4)
            have X6 := (X5.set0 (.slice A3 st'.refs.length c3)).set1 (.slice A4 st'.locks.length c4)
            refine hK.out _ _ (HKP.out _ D6) (fun hHeld => ?_)
            clear hK K
            try simp only [Act.put, List.getElem_toArray, List.getElem_cons_succ, List.getElem_cons_zero, List.setIfInBounds_toArray, List.set_cons_zero, List.set_cons_succ]
            refine wpAnyH_take (i := 14) (oi := _) (v := ?_) rfl (by kernel_rfl) (by kernel_rfl) (by kernel_rfl) (fun _ _ _ h => h) (Or.inl ⟨by rfl, ?_⟩) hHeld ?_
            rotate_left
            · (intro w' hSw; (try dsimp only at hSw); go_simp <;> with_reducible rfl)
            try simp only [Act.put, List.getElem_toArray, List.getElem_cons_succ, List.getElem_cons_zero, List.setIfInBounds_toArray, List.set_cons_zero, List.set_cons_succ]
            refine wpAnyH_done (by kernel_rfl) ?_ _
            clear z0 z1 zf0 zf1 S5 X5 D5 hHeld HKP CS
            obtain ⟨W9, hW9⟩ : ∃ W9, (w5.setCell ⟨w4.heap.size, 0, none⟩ (.slice A3 st'.refs.length c3)).setCell ⟨w4.heap.size, 1, none⟩ (.slice A4 st'.locks.length c4) = W9 := ⟨_, rfl⟩
            rw [hW9] at D6 S6 X6 ⊢
            clear hW9 y0 y1 u0 u1 uf
            replace E0 := E0.later D6
            replace E1 := E1.later D6
            replace E2 := E2.on D6 D6.size
            replace hb := hb.trans (D6.mono hz)
            clear D6
            obtain ⟨z0, z1, -⟩ := id X6.reads
            obtain ⟨u0, u1, uf⟩ := id E1.reads
            cases bs with
            | false =>
              have HT : Hid (RecTo rs st false) := by
                refine ⟨HR.out.four, (fun e => by cases e), fun _ => rcv_bad hlt HR.out fun e => ?_⟩
                rw [HO.out] at e
                rcases HST.out with ⟨h1, -⟩ | ⟨-, h2, -⟩
                · cases h1
                · exact h2 e.2
              obtain ⟨p0, p1, -⟩ := ((E0.set0 (.slice A1 st.refs.length c1)).set1 (.slice A2 st.locks.length c2)).reads
              have b9 := (hb.setCell (p := ⟨w.heap.size, 0, none⟩) (Nat.le_refl _) (.slice A1 st.refs.length c1)).setCell (p := ⟨w.heap.size, 1, none⟩) (Nat.le_refl _) (.slice A2 st.locks.length c2)
              have HS9 := hid ((E2.far E0 0 (.slice A1 st.refs.length c1)).far (E0.set0 (.slice A1 st.refs.length c1)) 1 (.slice A2 st.locks.length c2))
              obtain ⟨t0, t1, tf⟩ := id E0.reads
              have tf0 := tf 0
              have tf1 := tf 1
              clear tf uf
              go_wp2
              refine bodyPost_ret (v := .tuple #[.agg #[.slice A1 st.refs.length c1, .slice A2 st.locks.length c2], .bool false]) (by simp [results, Tryz.results64, go_sem, p0, p1]) rfl ⟨st, false, HT.out, _, rfl, HS9.out, b9⟩
            | true =>
              have HN : Hid (Rcv (rs.take (k + 1)) st') := by
                rcases HST.out with ⟨-, h1⟩ | ⟨h1, -⟩
                · exact rcv_next hlt HR.out (HO.out ▸ HTV.out) (HO.out ▸ h1)
                · cases h1
              have E0' := (E0.far (p := ⟨w2.heap.size, 0, none⟩) (by show w.heap.size ≠ w2.heap.size; omega) (.slice A3 st'.refs.length c3)).far (p := ⟨w2.heap.size, 1, none⟩) (by show w.heap.size ≠ w2.heap.size; omega) (.slice A4 st'.locks.length c4)
              have E1' := (E1.set0 (.slice A3 st'.refs.length c3)).set1 (.slice A4 st'.locks.length c4)
              have E2' := (S6.far E1 0 (.slice A3 st'.refs.length c3)).far (E1.set0 (.slice A3 st'.refs.length c3)) 1 (.slice A4 st'.locks.length c4)
              have hb' := (hb.setCell (p := ⟨w2.heap.size, 0, none⟩) z2 (.slice A3 st'.refs.length c3)).setCell (p := ⟨w2.heap.size, 1, none⟩) z2 (.slice A4 st'.locks.length c4)
              have uf0 := uf 0
              have uf1 := uf 1
              clear uf E0 E1 E2 S6 X6 hb
              have hfl := hf.1
              go_wp2
              go_roundw
              case rel => exact ⟨k + 1, st', A3, c3, A4, c4, hlt, by go_num, HN, E0', E1', E2', hb'⟩
              case measure => simp [intOf]; omega
          · skip
            try simp only [Act.put, List.getElem_toArray, List.getElem_cons_succ, List.getElem_cons_zero, List.setIfInBounds_toArray, List.set_cons_zero, List.set_cons_succ]
            go_simp
            have al4 := (Below.refl w4.heap.size w4).alloc (Nat.le_refl _) (.cells #[.slice none 0 0, .slice none 0 0] 119)
            have D5 := D4.trans (al4.mono D4.size)
            have X5 := Blk2s.new_ w4 119 (.slice none 0 0) (.slice none 0 0)
            have S5 := s4.on al4 al4.size
            have G5 : wr.heap.size ≤ w4.heap.size := D4.size
            obtain ⟨w5, hw5⟩ : ∃ w5, w4.alloc (.cells #[.slice none 0 0, .slice none 0 0] 119) = w5 := ⟨_, rfl⟩
            rw [hw5] at D5 X5 S5 ⊢
            refine hK.out _ _ (HKP.out _ D5) (fun hHeld => ?_)
            clear hK K
            try simp only [Act.put, List.getElem_toArray, List.getElem_cons_succ, List.getElem_cons_zero, List.setIfInBounds_toArray, List.set_cons_zero, List.set_cons_succ]
            clear s4 d4 D4 al4 hw5
            refine wpAnyH_ready (rs := [11, 13]) (by kernel_rfl) (by simp) (AllReadyH.cons (o := _) rfl (fun K hK => ?_) (AllReadyH.cons (o := _) rfl (fun K hK => ?_) AllReadyH.nil))
            · skip
              try simp only [Act.put, List.getElem_toArray, List.getElem_cons_succ, List.getElem_cons_zero, List.setIfInBounds_toArray, List.set_cons_zero, List.set_cons_succ]
              go_simp
              refine hK.out _ _ (HKP.out _ D5) (fun hHeld => ?_)
              clear hK K
              try simp only [Act.put, List.getElem_toArray, List.getElem_cons_succ, List.getElem_cons_zero, List.setIfInBounds_toArray, List.set_cons_zero, List.set_cons_succ]
              obtain ⟨z0, z1, zf⟩ := id X5.reads
              have zf0 := zf 0
              have zf1 := zf 1
              clear zf
              refine wpAnyH_ready (rs := [13]) (by kernel_rfl) (by simp) (AllReadyH.cons (o := _) rfl (fun K hK => ?_) AllReadyH.nil)
              try simp only [Act.put, List.getElem_toArray, List.getElem_cons_succ, List.getElem_cons_zero, List.setIfInBounds_toArray, List.set_cons_zero, List.set_cons_succ]
              go_simp
              have D6 := (D5.setCell (p := ⟨w4.heap.size, 0, none⟩) G5 (.slice A3 st'.refs.length c3)).setCell (p := ⟨w4.heap.size, 1, none⟩) G5 (.slice A4 st'.locks.length c4)
              have S6 := (S5.far X5 0 (.slice A3 st'.refs.length c3)).far (X5.set0 (.slice A3 st'.refs.length c3)) 1 (.slice A4 st'.locks.length c4)
              have X6 := (X5.set0 (.slice A3 st'.refs.length c3)).set1 (.slice A4 st'.locks.length c4)
              refine hK.out _ _ (HKP.out _ D6) (fun hHeld => ?_)
              clear hK K
              try simp only [Act.put, List.getElem_toArray, List.getElem_cons_succ, List.getElem_cons_zero, List.setIfInBounds_toArray, List.set_cons_zero, List.set_cons_succ]
              refine wpAnyH_take (i := 14) (oi := _) (v := ?_) rfl (by kernel_rfl) (by kernel_rfl) (by kernel_rfl) (fun _ _ _ h => h) (Or.inl ⟨by rfl, ?_⟩) hHeld ?_
              rotate_left
              · (intro w' hSw; (try dsimp only at hSw); go_simp <;> with_reducible rfl)
              try simp only [Act.put, List.getElem_toArray, List.getElem_cons_succ, List.getElem_cons_zero, List.setIfInBounds_toArray, List.set_cons_zero, List.set_cons_succ]
              refine wpAnyH_done (by kernel_rfl) ?_ _
              clear z0 z1 zf0 zf1 S5 X5 D5 hHeld HKP CS
              obtain ⟨W9, hW9⟩ : ∃ W9, (w5.setCell ⟨w4.heap.size, 0, none⟩ (.slice A3 st'.refs.length c3)).setCell ⟨w4.heap.size, 1, none⟩ (.slice A4 st'.locks.length c4) = W9 := ⟨_, rfl⟩
              rw [hW9] at D6 S6 X6 ⊢
              clear hW9 y0 y1 u0 u1 uf
              replace E0 := E0.later D6
              replace E1 := E1.later D6
              replace E2 := E2.on D6 D6.size
              replace hb := hb.trans (D6.mono hz)
              clear D6
              obtain ⟨z0, z1, -⟩ := id X6.reads
              obtain ⟨u0, u1, uf⟩ := id E1.reads
              cases bs with
              | false =>
                have HT : Hid (RecTo rs st false) := by
                  refine ⟨HR.out.four, (fun e => by cases e), fun _ => rcv_bad hlt HR.out fun e => ?_⟩
                  rw [HO.out] at e
                  rcases HST.out with ⟨h1, -⟩ | ⟨-, h2, -⟩
                  · cases h1
                  · exact h2 e.2
                obtain ⟨p0, p1, -⟩ := ((E0.set0 (.slice A1 st.refs.length c1)).set1 (.slice A2 st.locks.length c2)).reads
                have b9 := (hb.setCell (p := ⟨w.heap.size, 0, none⟩) (Nat.le_refl _) (.slice A1 st.refs.length c1)).setCell (p := ⟨w.heap.size, 1, none⟩) (Nat.le_refl _) (.slice A2 st.locks.length c2)
                have HS9 := hid ((E2.far E0 0 (.slice A1 st.refs.length c1)).far (E0.set0 (.slice A1 st.refs.length c1)) 1 (.slice A2 st.locks.length c2))
                obtain ⟨t0, t1, tf⟩ := id E0.reads
                have tf0 := tf 0
                have tf1 := tf 1
                clear tf uf
                go_wp2
                refine bodyPost_ret (v := .tuple #[.agg #[.slice A1 st.refs.length c1, .slice A2 st.locks.length c2], .bool false]) (by simp [results, Tryz.results64, go_sem, p0, p1]) rfl ⟨st, false, HT.out, _, rfl, HS9.out, b9⟩
              | true =>
                have HN : Hid (Rcv (rs.take (k + 1)) st') := by
                  rcases HST.out with ⟨-, h1⟩ | ⟨h1, -⟩
                  · exact rcv_next hlt HR.out (HO.out ▸ HTV.out) (HO.out ▸ h1)
                  · cases h1
                have E0' := (E0.far (p := ⟨w2.heap.size, 0, none⟩) (by show w.heap.size ≠ w2.heap.size; omega) (.slice A3 st'.refs.length c3)).far (p := ⟨w2.heap.size, 1, none⟩) (by show w.heap.size ≠ w2.heap.size; omega) (.slice A4 st'.locks.length c4)
                have E1' := (E1.set0 (.slice A3 st'.refs.length c3)).set1 (.slice A4 st'.locks.length c4)
                have E2' := (S6.far E1 0 (.slice A3 st'.refs.length c3)).far (E1.set0 (.slice A3 st'.refs.length c3)) 1 (.slice A4 st'.locks.length c4)
                have hb' := (hb.setCell (p := ⟨w2.heap.size, 0, none⟩) z2 (.slice A3 st'.refs.length c3)).setCell (p := ⟨w2.heap.size, 1, none⟩) z2 (.slice A4 st'.locks.length c4)
                have uf0 := uf 0
                have uf1 := uf 1
                clear uf E0 E1 E2 S6 X6 hb
                have hfl := hf.1
                go_wp2
                go_roundw
                case rel => exact ⟨k + 1, st', A3, c3, A4, c4, hlt, by go_num, HN, E0', E1', E2', hb'⟩
                case measure => simp [intOf]; omega
            · skip
              obtain ⟨z0, z1, zf⟩ := id X5.reads
              have zf0 := zf 0
              have zf1 := zf 1
              clear zf
              try simp only [Act.put, List.getElem_toArray, List.getElem_cons_succ, List.getElem_cons_zero, List.setIfInBounds_toArray, List.set_cons_zero, List.set_cons_succ]
              go_simp
              have D6 := (D5.setCell (p := ⟨w4.heap.size, 0, none⟩) G5 (.slice A3 st'.refs.length c3)).setCell (p := ⟨w4.heap.size, 1, none⟩) G5 (.slice A4 st'.locks.length c4)
              have S6 := (S5.far X5 0 (.slice A3 st'.refs.length c3)).far (X5.set0 (.slice A3 st'.refs.length c3)) 1 (.slice A4 st'.locks.length c4)
              have X6 := (X5.set0 (.slice A3 st'.refs.length c3)).set1 (.slice A4 st'.locks.length c4)
              refine hK.out _ _ (HKP.out _ D6) (fun hHeld => ?_)
              clear hK K
              try simp only [Act.put, List.getElem_toArray, List.getElem_cons_succ, List.getElem_cons_zero, List.setIfInBounds_toArray, List.set_cons_zero, List.set_cons_succ]
              refine wpAnyH_take (i := 11) (oi := _) (v := ?_) rfl (by kernel_rfl) (by kernel_rfl) (by kernel_rfl) (fun _ _ _ h => h) (Or.inl ⟨by rfl, ?_⟩) hHeld ?_
              rotate_left
              · (intro w' hSw; (try dsimp only at hSw); go_simp <;> with_reducible rfl)
              try simp only [Act.put, List.getElem_toArray, List.getElem_cons_succ, List.getElem_cons_zero, List.setIfInBounds_toArray, List.set_cons_zero, List.set_cons_succ]
              refine wpAnyH_take (i := 14) (oi := _) (v := ?_) rfl (by kernel_rfl) (by kernel_rfl) (by kernel_rfl) (fun _ _ _ h => h) (Or.inl ⟨by rfl, ?_⟩) hHeld ?_
              rotate_left
              · (intro w' hSw; (try dsimp only at hSw); go_simp <;> with_reducible rfl)
              try simp only [Act.put, List.getElem_toArray, List.getElem_cons_succ, List.getElem_cons_zero, List.setIfInBounds_toArray, List.set_cons_zero, List.set_cons_succ]
              refine wpAnyH_done (by kernel_rfl) ?_ _
              clear z0 z1 zf0 zf1 S5 X5 D5 hHeld HKP CS
              obtain ⟨W9, hW9⟩ : ∃ W9, (w5.setCell ⟨w4.heap.size, 0, none⟩ (.slice A3 st'.refs.length c3)).setCell ⟨w4.heap.size, 1, none⟩ (.slice A4 st'.locks.length c4) = W9 := ⟨_, rfl⟩
              rw [hW9] at D6 S6 X6 ⊢
              clear hW9 y0 y1 u0 u1 uf
              replace E0 := E0.later D6
              replace E1 := E1.later D6
              replace E2 := E2.on D6 D6.size
              replace hb := hb.trans (D6.mono hz)
              clear D6
              obtain ⟨z0, z1, -⟩ := id X6.reads
              obtain ⟨u0, u1, uf⟩ := id E1.reads
              cases bs with
              | false =>
                have HT : Hid (RecTo rs st false) := by
                  refine ⟨HR.out.four, (fun e => by cases e), fun _ => rcv_bad hlt HR.out fun e => ?_⟩
                  rw [HO.out] at e
                  rcases HST.out with ⟨h1, -⟩ | ⟨-, h2, -⟩
                  · cases h1
                  · exact h2 e.2
                obtain ⟨p0, p1, -⟩ := ((E0.set0 (.slice A1 st.refs.length c1)).set1 (.slice A2 st.locks.length c2)).reads
                have b9 := (hb.setCell (p := ⟨w.heap.size, 0, none⟩) (Nat.le_refl _) (.slice A1 st.refs.length c1)).setCell (p := ⟨w.heap.size, 1, none⟩) (Nat.le_refl _) (.slice A2 st.locks.length c2)
                have HS9 := hid ((E2.far E0 0 (.slice A1 st.refs.length c1)).far (E0.set0 (.slice A1 st.refs.length c1)) 1 (.slice A2 st.locks.length c2))
                obtain ⟨t0, t1, tf⟩ := id E0.reads
                have tf0 := tf 0
                have tf1 := tf 1
                clear tf uf
                go_wp2
                refine bodyPost_ret (v := .tuple #[.agg #[.slice A1 st.refs.length c1, .slice A2 st.locks.length c2], .bool false]) (by simp [results, Tryz.results64, go_sem, p0, p1]) rfl ⟨st, false, HT.out, _, rfl, HS9.out, b9⟩
              | true =>
                have HN : Hid (Rcv (rs.take (k + 1)) st') := by
                  rcases HST.out with ⟨-, h1⟩ | ⟨h1, -⟩
                  · exact rcv_next hlt HR.out (HO.out ▸ HTV.out) (HO.out ▸ h1)
                  · cases h1
                have E0' := (E0.far (p := ⟨w2.heap.size, 0, none⟩) (by show w.heap.size ≠ w2.heap.size; omega) (.slice A3 st'.refs.length c3)).far (p := ⟨w2.heap.size, 1, none⟩) (by show w.heap.size ≠ w2.heap.size; omega) (.slice A4 st'.locks.length c4)
                have E1' := (E1.set0 (.slice A3 st'.refs.length c3)).set1 (.slice A4 st'.locks.length c4)
                have E2' := (S6.far E1 0 (.slice A3 st'.refs.length c3)).far (E1.set0 (.slice A3 st'.refs.length c3)) 1 (.slice A4 st'.locks.length c4)
                have hb' := (hb.setCell (p := ⟨w2.heap.size, 0, none⟩) z2 (.slice A3 st'.refs.length c3)).setCell (p := ⟨w2.heap.size, 1, none⟩) z2 (.slice A4 st'.locks.length c4)
                have uf0 := uf 0
                have uf1 := uf 1
                clear uf E0 E1 E2 S6 X6 hb
                have hfl := hf.1
                go_wp2
                go_roundw
                case rel => exact ⟨k + 1, st', A3, c3, A4, c4, hlt, by go_num, HN, E0', E1', E2', hb'⟩
                case measure => simp [intOf]; omega
        · skip
          try simp only [Act.put, List.getElem_toArray, List.getElem_cons_succ, List.getElem_cons_zero, List.setIfInBounds_toArray, List.set_cons_zero, List.set_cons_succ]
          go_simp
          have al4 := (Below.refl wr.heap.size wr).alloc (Nat.le_refl _) (.cells #[.slice none 0 0, .slice none 0 0] 119)
          have X4 := (Blk2s.new_ wr 119 (.slice none 0 0) (.slice none 0 0)).later (Below.refl _ _).drew
          have D4 := al4.drew
          refine hK.out _ _ (HKP.out _ D4) (fun hHeld => ?_)
          clear hK K
          try simp only [Act.put, List.getElem_toArray, List.getElem_cons_succ, List.getElem_cons_zero, List.setIfInBounds_toArray, List.set_cons_zero, List.set_cons_succ]
          refine wpAnyH_ready (rs := [8]) (by kernel_rfl) (by simp) (AllReadyH.cons (o := _) rfl (fun K hK => ?_) AllReadyH.nil)
          try simp only [Act.put, List.getElem_toArray, List.getElem_cons_succ, List.getElem_cons_zero, List.setIfInBounds_toArray, List.set_cons_zero, List.set_cons_succ]
          go_simp
          go_at_call 102
          refine (CS.out _ D4).mono ?_
          rintro e w5 ⟨v4, rfl, S5, d4⟩
          have D5 := D4.trans (d4.mono D4.size)
          have X5 := X4.later d4
          have G5 : wr.heap.size ≤ wr.heap.size := Nat.le_refl _
          obtain ⟨A3, c3, A4, c4, rfl, -⟩ := id S5
          unfold stV
          refine hK.out _ _ (HKP.out _ D5) (fun hHeld => ?_)
          clear hK K
          try simp only [Act.put, List.getElem_toArray, List.getElem_cons_succ, List.getElem_cons_zero, List.setIfInBounds_toArray, List.set_cons_zero, List.set_cons_succ]
          refine wpAnyH_take (i := 9) (oi := _) (v := ?_) rfl (by kernel_rfl) (by kernel_rfl) (by kernel_rfl) (fun _ _ _ h => h) (Or.inl ⟨by rfl, ?_⟩) hHeld ?_
          rotate_left
          · (intro w' hSw; (try dsimp only at hSw); go_simp <;> with_reducible rfl)
          try simp only [Act.put, List.getElem_toArray, List.getElem_cons_succ, List.getElem_cons_zero, List.setIfInBounds_toArray, List.set_cons_zero, List.set_cons_succ]
          refine wpAnyH_take (i := 10) (oi := _) (v := ?_) rfl (by kernel_rfl) (by kernel_rfl) (by kernel_rfl) (fun _ _ _ h => h) (Or.inl ⟨by rfl, ?_⟩) hHeld ?_
          rotate_left
          · (intro w' hSw; (try dsimp only at hSw); go_simp <;> with_reducible rfl)
          try simp only [Act.put, List.getElem_toArray, List.getElem_cons_succ, List.getElem_cons_zero, List.setIfInBounds_toArray, List.set_cons_zero, List.set_cons_succ]
          clear d4 D4 al4 X4
          refine wpAnyH_ready (rs := [11, 13]) (by kernel_rfl) (by simp) (AllReadyH.cons (o := _) rfl (fun K hK => ?_) (AllReadyH.cons (o := _) rfl (fun K hK => ?_) AllReadyH.nil))
          · skip
            try simp only [Act.put, List.getElem_toArray, List.getElem_cons_succ, List.getElem_cons_zero, List.setIfInBounds_toArray, List.set_cons_zero, List.set_cons_succ]
            go_simp
            refine hK.out _ _ (HKP.out _ D5) (fun hHeld => ?_)
            clear hK K
            try simp only [Act.put, List.getElem_toArray, List.getElem_cons_succ, List.getElem_cons_zero, List.setIfInBounds_toArray, List.set_cons_zero, List.set_cons_succ]
            obtain ⟨z0, z1, zf⟩ := id X5.reads
            have zf0 := zf 0
            have zf1 := zf 1
            clear zf
            refine wpAnyH_ready (rs := [13]) (by kernel_rfl) (by simp) (AllReadyH.cons (o := _) rfl (fun K hK => ?_) AllReadyH.nil)
            try simp only [Act.put, List.getElem_toArray, List.getElem_cons_succ, List.getElem_cons_zero, List.setIfInBounds_toArray, List.set_cons_zero, List.set_cons_succ]
            go_simp
            have D6 := (D5.setCell (p := ⟨wr.heap.size, 0, none⟩) G5 (.slice A3 st'.refs.length c3)).setCell (p := ⟨wr.heap.size, 1, none⟩) G5 (.slice A4 st'.locks.length c4)
            have S6 := (S5.far X5 0 (.slice A3 st'.refs.length c3)).far (X5.set0 (.slice A3 st'.refs.length c3)) 1 (.slice A4 st'.locks.length c4)
            have X6 := (X5.set0 (.slice A3 st'.refs.length c3)).set1 (.slice A4 st'.locks.length c4)
            refine hK.out _ _ (HKP.out _ D6) (fun hHeld => ?_)
            clear hK K
            try simp only [Act.put, List.getElem_toArray, List.getElem_cons_succ, List.getElem_cons_zero, List.setIfInBounds_toArray, List.set_cons_zero, List.set_cons_succ]
            refine wpAnyH_take (i := 14) (oi := _) (v := ?_) rfl (by kernel_rfl) (by kernel_rfl) (by kernel_rfl) (fun _ _ _ h => h) (Or.inl ⟨by rfl, ?_⟩) hHeld ?_
            rotate_left
            · (intro w' hSw; (try dsimp only at hSw); go_simp <;> with_reducible rfl)
            try simp only [Act.put, List.getElem_toArray, List.getElem_cons_succ, List.getElem_cons_zero, List.setIfInBounds_toArray, List.set_cons_zero, List.set_cons_succ]
            refine wpAnyH_done (by kernel_rfl) ?_ _
            clear z0 z1 zf0 zf1 S5 X5 D5 hHeld HKP CS
            obtain ⟨W9, hW9⟩ : ∃ W9, (w5.setCell ⟨wr.heap.size, 0, none⟩ (.slice A3 st'.refs.length c3)).setCell ⟨wr.heap.size, 1, none⟩ (.slice A4 st'.locks.length c4) = W9 := ⟨_, rfl⟩
            rw [hW9] at D6 S6 X6 ⊢
            clear hW9 y0 y1 u0 u1 uf
            replace E0 := E0.later D6
            replace E1 := E1.later D6
            replace E2 := E2.on D6 D6.size
            replace hb := hb.trans (D6.mono hz)
            clear D6
            obtain ⟨z0, z1, -⟩ := id X6.reads
            obtain ⟨u0, u1, uf⟩ := id E1.reads
            cases bs with
            | false =>
              have HT : Hid (RecTo rs st false) := by
                refine ⟨HR.out.four, (fun e => by cases e), fun _ => rcv_bad hlt HR.out fun e => ?_⟩
                rw [HO.out] at e
                rcases HST.out with ⟨h1, -⟩ | ⟨-, h2, -⟩
                · cases h1
                · exact h2 e.2
              obtain ⟨p0, p1, -⟩ := ((E0.set0 (.slice A1 st.refs.length c1)).set1 (.slice A2 st.locks.length c2)).reads
              have b9 := (hb.setCell (p := ⟨w.heap.size, 0, none⟩) (Nat.le_refl _) (.slice A1 st.refs.length c1)).setCell (p := ⟨w.heap.size, 1, none⟩) (Nat.le_refl _) (.slice A2 st.locks.length c2)
              have HS9 := hid ((E2.far E0 0 (.slice A1 st.refs.length c1)).far (E0.set0 (.slice A1 st.refs.length c1)) 1 (.slice A2 st.locks.length c2))
              obtain ⟨t0, t1, tf⟩ := id E0.reads
              have tf0 := tf 0
              have tf1 := tf 1
              clear tf uf
              go_wp2
              refine bodyPost_ret (v := .tuple #[.agg #[.slice A1 st.refs.length c1, .slice A2 st.locks.length c2], .bool false]) (by simp [results, Tryz.results64, go_sem, p0, p1]) rfl ⟨st, false, HT.out, _, rfl, HS9.out, b9⟩
            | true =>
              have HN : Hid (Rcv (rs.take (k + 1)) st') := by
                rcases HST.out with ⟨-, h1⟩ | ⟨h1, -⟩
                · exact rcv_next hlt HR.out (HO.out ▸ HTV.out) (HO.out ▸ h1)
                · cases h1
              have E0' := (E0.far (p := ⟨w2.heap.size, 0, none⟩) (by show w.heap.size ≠ w2.heap.size; omega) (.slice A3 st'.refs.length c3)).far (p := ⟨w2.heap.size, 1, none⟩) (by show w.heap.size ≠ w2.heap.size; omega) (.slice A4 st'.locks.length c4)
              have E1' := (E1.set0 (.slice A3 st'.refs.length c3)).set1 (.slice A4 st'.locks.length c4)
              have E2' := (S6.far E1 0 (.slice A3 st'.refs.length c3)).far (E1.set0 (.slice A3 st'.refs.length c3)) 1 (.slice A4 st'.locks.length c4)
              have hb' := (hb.setCell (p := ⟨w2.heap.size, 0, none⟩) z2 (.slice A3 st'.refs.length c3)).setCell (p := ⟨w2.heap.size, 1, none⟩) z2 (.slice A4 st'.locks.length c4)
              have uf0 := uf 0
              have uf1 := uf 1
              clear uf E0 E1 E2 S6 X6 hb
              have hfl := hf.1
              go_wp2
              go_roundw
              case rel => exact ⟨k + 1, st', A3, c3, A4, c4, hlt, by go_num, HN, E0', E1', E2', hb'⟩
              case measure => simp [intOf]; omega
          · skip
            obtain ⟨z0, z1, zf⟩ := id X5.reads
            have zf0 := zf 0
            have zf1 := zf 1
            clear zf
            try simp only [Act.put, List.getElem_toArray, List.getElem_cons_succ, List.getElem_cons_zero, List.setIfInBounds_toArray, List.set_cons_zero, List.set_cons_succ]
            go_simp
            have D6 := (D5.setCell (p := ⟨wr.heap.size, 0, none⟩) G5 (.slice A3 st'.refs.length c3)).setCell (p := ⟨wr.heap.size, 1, none⟩) G5 (.slice A4 st'.locks.length c4)
            have S6 := (S5.far X5 0 (.slice A3 st'.refs.length c3)).far (X5.set0 (.slice A3 st'.refs.length c3)) 1 (.slice A4 st'.locks.length c4)
            have X6 := (X5.set0 (.slice A3 st'.refs.length c3)).set1 (.slice A4 st'.locks.length c4)
            refine hK.out _ _ (HKP.out _ D6) (fun hHeld => ?_)
            clear hK K
            try simp only [Act.put, List.getElem_toArray, List.getElem_cons_succ, List.getElem_cons_zero, List.setIfInBounds_toArray, List.set_cons_zero, List.set_cons_succ]
            refine wpAnyH_take (i := 11) (oi := _) (v := ?_) rfl (by kernel_rfl) (by kernel_rfl) (by kernel_rfl) (fun _ _ _ h => h) (Or.inl ⟨by rfl, ?_⟩) hHeld ?_
            rotate_left
            · (intro w' hSw; (try dsimp only at hSw); go_simp <;> with_reducible rfl)
            try simp only [Act.put, List.getElem_toArray, List.getElem_cons_succ, List.getElem_cons_zero, List.setIfInBounds_toArray, List.set_cons_zero, List.set_cons_succ]
            refine wpAnyH_take (i := 14) (oi := _) (v := ?_) rfl (by kernel_rfl) (by kernel_rfl) (by kernel_rfl) (fun _ _ _ h => h) (Or.inl ⟨by rfl, ?_⟩) hHeld ?_
            rotate_left
            · (intro w' hSw; (try dsimp only at hSw); go_simp <;> with_reducible rfl)
            try simp only [Act.put, List.getElem_toArray, List.getElem_cons_succ, List.getElem_cons_zero, List.setIfInBounds_toArray, List.set_cons_zero, List.set_cons_succ]
            refine wpAnyH_done (by kernel_rfl) ?_ _
            clear z0 z1 zf0 zf1 S5 X5 D5 hHeld HKP CS
            obtain ⟨W9, hW9⟩ : ∃ W9, (w5.setCell ⟨wr.heap.size, 0, none⟩ (.slice A3 st'.refs.length c3)).setCell ⟨wr.heap.size, 1, none⟩ (.slice A4 st'.locks.length c4) = W9 := ⟨_, rfl⟩
            rw [hW9] at D6 S6 X6 ⊢
            clear hW9 y0 y1 u0 u1 uf
            replace E0 := E0.later D6
            replace E1 := E1.later D6
            replace E2 := E2.on D6 D6.size
            replace hb := hb.trans (D6.mono hz)
            clear D6
            obtain ⟨z0, z1, -⟩ := id X6.reads
            obtain ⟨u0, u1, uf⟩ := id E1.reads
            cases bs with
            | false =>
              have HT : Hid (RecTo rs st false) := by
                refine ⟨HR.out.four, (fun e => by cases e), fun _ => rcv_bad hlt HR.out fun e => ?_⟩
                rw [HO.out] at e
                rcases HST.out with ⟨h1, -⟩ | ⟨-, h2, -⟩
                · cases h1
                · exact h2 e.2
              obtain ⟨p0, p1, -⟩ := ((E0.set0 (.slice A1 st.refs.length c1)).set1 (.slice A2 st.locks.length c2)).reads
              have b9 := (hb.setCell (p := ⟨w.heap.size, 0, none⟩) (Nat.le_refl _) (.slice A1 st.refs.length c1)).setCell (p := ⟨w.heap.size, 1, none⟩) (Nat.le_refl _) (.slice A2 st.locks.length c2)
              have HS9 := hid ((E2.far E0 0 (.slice A1 st.refs.length c1)).far (E0.set0 (.slice A1 st.refs.length c1)) 1 (.slice A2 st.locks.length c2))
              obtain ⟨t0, t1, tf⟩ := id E0.reads
              have tf0 := tf 0
              have tf1 := tf 1
              clear tf uf
              go_wp2
              refine bodyPost_ret (v := .tuple #[.agg #[.slice A1 st.refs.length c1, .slice A2 st.locks.length c2], .bool false]) (by simp [results, Tryz.results64, go_sem, p0, p1]) rfl ⟨st, false, HT.out, _, rfl, HS9.out, b9⟩
            | true =>
              have HN : Hid (Rcv (rs.take (k + 1)) st') := by
                rcases HST.out with ⟨-, h1⟩ | ⟨h1, -⟩
                · exact rcv_next hlt HR.out (HO.out ▸ HTV.out) (HO.out ▸ h1)
                · cases h1
              have E0' := (E0.far (p := ⟨w2.heap.size, 0, none⟩) (by show w.heap.size ≠ w2.heap.size; omega) (.slice A3 st'.refs.length c3)).far (p := ⟨w2.heap.size, 1, none⟩) (by show w.heap.size ≠ w2.heap.size; omega) (.slice A4 st'.locks.length c4)
              have E1' := (E1.set0 (.slice A3 st'.refs.length c3)).set1 (.slice A4 st'.locks.length c4)
              have E2' := (S6.far E1 0 (.slice A3 st'.refs.length c3)).far (E1.set0 (.slice A3 st'.refs.length c3)) 1 (.slice A4 st'.locks.length c4)
              have hb' := (hb.setCell (p := ⟨w2.heap.size, 0, none⟩) z2 (.slice A3 st'.refs.length c3)).setCell (p := ⟨w2.heap.size, 1, none⟩) z2 (.slice A4 st'.locks.length c4)
              have uf0 := uf 0
              have uf1 := uf 1
              clear uf E0 E1 E2 S6 X6 hb
              have hfl := hf.1
              go_wp2
              go_roundw
              case rel => exact ⟨k + 1, st', A3, c3, A4, c4, hlt, by go_num, HN, E0', E1', E2', hb'⟩
              case measure => simp [intOf]; omega
    · have hk' : k = rs.length := by omega
      subst hk'
      rw [List.take_length] at HR
      by_cases h30 : rs.length ≤ 30
      · have e30 : decide ((rs.length : Int) ≤ 30) = true := decide_eq_true (by omega)
        have HT : Hid (RecTo rs st true) := ⟨HR.out.four, fun _ => ⟨HR.out, h30⟩, fun e => by cases e⟩
        obtain ⟨p0, p1, -⟩ := ((E0.set0 (.slice A1 st.refs.length c1)).set1 (.slice A2 st.locks.length c2)).reads
        have b9 := (hb.setCell (p := ⟨w.heap.size, 0, none⟩) (Nat.le_refl _) (.slice A1 st.refs.length c1)).setCell (p := ⟨w.heap.size, 1, none⟩) (Nat.le_refl _) (.slice A2 st.locks.length c2)
        have HS9 := hid ((E2.far E0 0 (.slice A1 st.refs.length c1)).far (E0.set0 (.slice A1 st.refs.length c1)) 1 (.slice A2 st.locks.length c2))
        obtain ⟨t0, t1, tf⟩ := id E0.reads
        have tf0 := tf 0
        have tf1 := tf 1
        clear tf uf
        go_wp2
        refine bodyPost_ret (v := .tuple #[.agg #[.slice A1 st.refs.length c1, .slice A2 st.locks.length c2], .bool true]) (by simp [results, Tryz.results64, go_sem, p0, p1]) rfl ⟨st, true, HT.out, _, rfl, HS9.out, b9⟩
      · have e30 : decide ((rs.length : Int) ≤ 30) = false := decide_eq_false (by omega)
        have HT : Hid (RecTo rs st false) := ⟨HR.out.four, (fun e => by cases e), fun _ hv => h30 hv.2⟩
        obtain ⟨p0, p1, -⟩ := ((E0.set0 (.slice A1 st.refs.length c1)).set1 (.slice A2 st.locks.length c2)).reads
        have b9 := (hb.setCell (p := ⟨w.heap.size, 0, none⟩) (Nat.le_refl _) (.slice A1 st.refs.length c1)).setCell (p := ⟨w.heap.size, 1, none⟩) (Nat.le_refl _) (.slice A2 st.locks.length c2)
        have HS9 := hid ((E2.far E0 0 (.slice A1 st.refs.length c1)).far (E0.set0 (.slice A1 st.refs.length c1)) 1 (.slice A2 st.locks.length c2))
        obtain ⟨t0, t1, tf⟩ := id E0.reads
        have tf0 := tf 0
        have tf1 := tf 1
        clear tf uf
        go_wp2
        refine bodyPost_ret (v := .tuple #[.agg #[.slice A1 st.refs.length c1, .slice A2 st.locks.length c2], .bool false]) (by simp [results, Tryz.results64, go_sem, p0, p1]) rfl ⟨st, false, HT.out, _, rfl, HS9.out, b9⟩
end Go.Proofs.YteaibflloeipaaaGreatDoor
/- Laws on coordinators: a coordinator is boxed. -/
/- On to the world behind D. -/
/- An exact law begins: the argument's box, its size, a copy for the model. -/
/- The program's own copy of the argument is boxed. -/
/- The program's copy is as the argument; the region draws. -/
/- Laws on functions that answer numbers. -/
/- What the boxes hold is read again. -/
/- The coordinator with the slices P4 and P5 is boxed as P6, in block P7, behind it the world P3; ahead of region P1. -/
/- The draw, the program's answer, the model's, and that they are the same: behind it w5, all facts on it by way of dx. -/
/-
  Walks: which shards are valid, their states, and what they say of a transaction, by the model.
-/
namespace Go.Proofs.YteaibflloeipaaaGreatDoor
open Go.RowKit Wo Pu Rf Lk Sh

theorem RecTo.valid {rs : List Rec} {st : St} {b : Bool} (h : RecTo rs st b) : b = true ↔ Vld rs := by
  obtain ⟨-, h2, h3⟩ := h
  cases b with
  | true => exact ⟨fun _ => ⟨⟨_, (h2 rfl).1⟩, (h2 rfl).2⟩, fun _ => rfl⟩
  | false => exact ⟨fun e => (by cases e), fun e => absurd e (h3 rfl)⟩
theorem bool_ofP (p : Prop) : ∃ b : Bool, b = true ↔ p := by
  by_cases h : p
  · exact ⟨true, fun _ => h, fun _ => rfl⟩
  · exact ⟨false, fun e => (by cases e), fun e => absurd e h⟩
/-- The state of a valid shard, or none. -/
def Rcvd (rs : List Rec) (s : St) (b : Bool) : Prop := (b = true ∧ Rcv rs s ∧ rs.length ≤ 30) ∨ (b = false ∧ ¬ Vld rs ∧ s = ⟨[], []⟩)
theorem rcvd_ex (rs : List Rec) : ∃ s b, Rcvd rs s b := by
  by_cases h : Vld rs
  · obtain ⟨⟨s, hs⟩, hl⟩ := h
    exact ⟨s, true, .inl ⟨rfl, hs, hl⟩⟩
  · exact ⟨_, false, .inr ⟨rfl, h, rfl⟩⟩
theorem Rcvd.valid {rs : List Rec} {s : St} {b : Bool} (h : Rcvd rs s b) : b = true ↔ Vld rs := by
  rcases h with ⟨rfl, h1, h2⟩ | ⟨rfl, h1, -⟩
  · exact ⟨fun _ => ⟨⟨_, h1⟩, h2⟩, fun _ => rfl⟩
  · exact ⟨fun e => (by cases e), fun e => absurd e h1⟩
theorem Rcvd.of {rs : List Rec} {s x : St} {b b' : Bool} (h : Rcvd rs s b) (hx : RecTo rs x b') : b' = b ∧ (b = true → s = x) := by
  have e : b' = b := by rw [Bool.eq_iff_iff, hx.valid, h.valid]
  refine ⟨e, fun e2 => ?_⟩
  subst e
  rcases h with ⟨-, h1, -⟩ | ⟨h1, -⟩
  · exact h1.one (hx.2.1 e2).1
  · rw [h1] at e2; cases e2
set_option linter.unusedSimpArgs false in
set_option maxRecDepth 100000 in
set_option maxHeartbeats 4000000 in
theorem specShardValid_is (b : Bool) (v : Value) (rs : List Rec) (w : World) (h : Shd w w.heap.size v rs) (hf : FitR rs) (hb : b = true ↔ Vld rs) :
    Calls Tryz.prog 68 #[v] w (Ret (.bool b) w) := by
  have HB := hid hb
  clear hb
  obtain ⟨A, c, rfl, h0, hc⟩ := h
  unfold shV
  have b0 := (Below.refl w.heap.size w).alloc (Nat.le_refl _) (.cells #[.slice A rs.length c] 37)
  have x0 := Blk1.new_ w 37 (.slice A rs.length c)
  have h1 := h0.on b0
  go_enter Tryz.func68, Tryz.ntmps68
  go_wp2_with fail
  generalize w.alloc (.cells #[.slice A rs.length c] 37) = w1 at *
  refine (l21Recover_any A c rs w1 h1 hc hf).mono ?_
  rintro e w2 ⟨st, b', HR, v2, rfl, s2, d2⟩
  have eb : b' = b := by rw [Bool.eq_iff_iff, HR.valid, HB.out]
  subst eb
  obtain ⟨A1, c1, A2, c2, rfl, -⟩ := s2
  unfold stV
  have b2 := b0.trans (d2.mono b0.size)
  have b3 := b2.alloc b2.size (.cells #[.slice A1 st.refs.length c1, .slice A2 st.locks.length c2] 119)
  go_wp2
  go_ret
  exact ⟨rfl, b3⟩
/-- An append as one operation of a region. -/
theorem op_append_row1 {P : Program} (w : World) {o : Oper} {a : Act} {K : Act → World → Prop} {Q : Exit → Act → World → Prop} (hgd : o.guard = none) (s x : Operand) (t : TypeId)
    (ho : o.op = .call { callee := .builtin .append, args := #[s, x], argTypes := #[t, t] })
    (base : Nat) (e : TypeId) (i : TypeInfo) (z : Value) (size bytes : Nat) (ht : P.underlying t = some (.slice e)) (hi : P.info? e = some i) (hz : i.zero = some z)
    (hsize : i.size = size) (hby : i.bytes = bytes) (hzs : z.cells.size = size) (hsz : 0 < size)
    (v : Value) (n : Nat) (xs : List Value) (hs : a.eval s = v) (hown : w.ownsRow base e size v n xs)
    (B : Nat) (A : Option Addr) (m c : Nat) (news : List Value) (hx : a.eval x = .slice A m c) (hr : Row w B A news) (hl : news.length = m * size) (h1 : ∀ u ∈ news, u.oneCell' = true)
    (h63 : n + m ≤ maxLen) (hbytes : (n + m) * bytes ≤ 140737488355328) (hbase : base ≤ w.heap.size)
    (h : ∀ v' w', w'.ownsRow base e size v' (n + m) (xs ++ news) → w.grownBy w' v.ownBlock → K (a.put o.dst v') w') : Oper.wp P o a w K Q := by
  have hw : Region.wanted o (yielded #[] a.tmps) = true := by simp [Region.wanted, hgd]
  have := step_append_row (ops := #[]) (E := False) (Q := Q) w hgd s x t ho base e i z size bytes ht hi hz hsize hby hzs hsz v n xs hs hown B A m c news hx hr hl h1 h63 hbytes hbase h
  rwa [if_pos hw] at this
/-- A row of numbers is not touched where an empty block grows. -/
theorem row_far_nil {w w' : World} {g : Nat} {T : TypeId} {fr : Nat × Nat} {A : Option Addr} {zs : List Int} (h : Row w w.heap.size A (ints zs)) (hn : w.heap[g]? = some (.cells #[] T fr)) (hg : w.grownBy w' (some g)) : Row w' w'.heap.size A (ints zs) := by
  rcases h with h | ⟨ad, e, hb, hc⟩
  · exact .inl h
  · cases zs with
    | nil => exact .inl rfl
    | cons z zs =>
      have hne : ad.block ≠ g := fun e2 => by
        have h0 := hc 0 (.int .i64 z) rfl
        rw [add_zero] at h0
        unfold World.cell? at h0
        rw [e2, hn] at h0
        simp only at h0
        split at h0
        · cases h0
        · simp at h0
      refine .inr ⟨ad, e, Nat.lt_of_lt_of_le hb hg.size, fun j v hj => ?_⟩
      rw [← hc j v hj]
      exact World.cell?_of_block (by rw [add_block]; exact hg.block ad.block hb fun e2 => hne (by injection e2))
/- An empty slice is made. -/
/- The row at PA is appended to the empty slice of PX's block PG. -/
/- The state is stored as the answer. -/
/- The second append, where the first row lies in wc and the empty slice is of block PG. -/
/- Both empty slices lie in wb: those of the refs in block PG, those of the locks in PH. -/
end Go.Proofs.YteaibflloeipaaaGreatDoor
namespace Go.Proofs.YteaibflloeipaaaGreatDoor
open Go.RowKit Wo Pu Rf Lk Sh

end Go.Proofs.YteaibflloeipaaaGreatDoor
namespace Go.Proofs.YteaibflloeipaaaGreatDoor
open Go.RowKit Wo Pu Rf Lk Sh

def partSzR (rs : List Rec) (k : Nat) : Nat := ((rs.take k).map fun r => r.us.length).sum
def allSzR (rs : List Rec) : Nat := rs.length + partSzR rs rs.length
theorem partSzR_succ {rs : List Rec} {k : Nat} (hk : k < rs.length) : partSzR rs (k + 1) = partSzR rs k + rs[k].us.length := by
  unfold partSzR
  rw [List.take_succ_eq_append_getElem hk, List.map_append, List.sum_append]
  simp
theorem partSzR_ge {rs : List Rec} {i : Nat} (hi : i < rs.length) : ∀ k, i < k → k ≤ rs.length → rs[i].us.length ≤ partSzR rs k := by
  intro k
  induction k with
  | zero => intro h; omega
  | succ k ih =>
    intro h1 h2
    rw [partSzR_succ (by omega)]
    by_cases e : i = k
    · subst e; omega
    · have := ih (by omega) (by omega)
      omega
theorem allSzR_fit {rs : List Rec} {m : Nat} (h : allSzR rs ≤ m) (hm : m ≤ 1048576) : FitR rs := by
  unfold allSzR at h
  refine ⟨by omega, fun a ha => ?_⟩
  obtain ⟨i, hi, rfl⟩ := List.mem_iff_getElem.1 ha
  have := partSzR_ge hi rs.length hi (Nat.le_refl _)
  omega
theorem allSzR_snoc (rs : List Rec) (r : Rec) : allSzR (rs ++ [r]) = allSzR rs + 1 + r.us.length := by
  unfold allSzR partSzR
  rw [List.take_length, List.take_length, List.map_append, List.sum_append, List.length_append]
  simp
  omega
theorem allSzR_nil : allSzR [] = 0 := rfl
/-- The sizes: all fit, or not. -/
def SizedR (tot : Nat) (left : Int) (w : World) (e : Ending) (w' : World) : Prop := ∃ r : Int, e = .returned (.int .i64 r) ∧ (r = -1 ∨ (0 ≤ r ∧ r = left - tot)) ∧ Below w.heap.size w w'
set_option maxHeartbeats 2000000 in
theorem szRecord_any (A : Option Addr) (c : Nat) (r : Rec) (left : Int) (w : World) (hn : r.us.length ≤ maxLen) (h0 : 0 ≤ left) (h1 : left ≤ 1048576) :
    Calls Tryz.prog 116 #[.agg #[.int .i64 r.k, .int .i64 r.t, .slice A r.us.length c], .int .i64 left] w (SizedR r.us.length left w) := by
  have b0 := (Below.refl w.heap.size w).alloc (Nat.le_refl _) (.cells #[.int .i64 r.k, .int .i64 r.t, .slice A r.us.length c] 182)
  by_cases h2 : left < r.us.length
  · have CN := hid fun x => szUpdateS_no A r.us.length c left x hn h0 h1 h2
    clear h2
    go_enter Tryz.func116, Tryz.ntmps116
    go_wp2_with fail
    refine (CN.out _).mono ?_
    rintro e w1 ⟨rfl, rfl⟩
    go_wp2
    go_ret
    exact ⟨-1, rfl, .inl rfl, b0⟩
  · have CY := hid fun x => szUpdateS_yes A r.us.length c left x hn h0 h1 (by omega)
    have h3 : ¬ (left - (r.us.length : Int) < 0) := by omega
    have h4 : 0 ≤ left - (r.us.length : Int) := by omega
    go_enter Tryz.func116, Tryz.ntmps116
    go_wp2_with fail
    refine (CY.out _).mono ?_
    rintro e w1 ⟨rfl, rfl⟩
    go_wp2
    go_ret
    exact ⟨_, rfl, .inr ⟨h4, rfl⟩, b0⟩
set_option maxHeartbeats 2000000 in
theorem szRecordS_any (A : Option Addr) (c : Nat) (rs : List Rec) (left : Int) (w : World) (h : Recs w w.heap.size A rs) (hf : WideR rs) (h0 : 0 ≤ left) (h1 : left ≤ 1048576) :
    Calls Tryz.prog 90 #[.slice A rs.length c, .int .i64 left] w (SizedR (allSzR rs) left w) := by
  obtain ⟨hn, hf⟩ := hf
  unfold maxLen at hn
  by_cases h2 : left < rs.length
  · go_enter Tryz.func90, Tryz.ntmps90
    go_wp2
    go_ret
    exact ⟨-1, rfl, .inl rfl, Below.refl _ _⟩
  · go_enter Tryz.func90, Tryz.ntmps90
    go_wp2_with fail
    go_loopw [1, 5] (fun l i wr => ∃ k : Nat, k ≤ rs.length ∧ i = .int .i64 k ∧ l = .int .i64 (left - rs.length - partSzR rs k) ∧ 0 ≤ left - rs.length - partSzR rs k ∧ Below w.heap.size w wr) (fun _ i _ => rs.length - (intOf i).toNat)
    case atStart => exact ⟨0, Nat.zero_le _, rfl, by simp [partSzR], by simp [partSzR]; omega, Below.refl _ _⟩
    case round =>
      obtain ⟨k, hk, rfl, rfl, hp, hb⟩ := hrel
      by_cases hlt : k < rs.length
      · have hsucc := hid (partSzR_succ hlt)
        obtain ⟨r, ad, A', c', hre, rfl, ha, g0, g1, g2, -, -⟩ := ((h.below hb (Nat.le_refl _)).more hb.size).rec hlt
        have hfk := hf r (by rw [← hre]; exact List.getElem_mem hlt)
        have k0 : 0 ≤ (k : Int) := by omega
        have k1 : (k : Int) < (rs.length : Int) := by omega
        have HSU : Hid (partSzR rs (k + 1) = partSzR rs k + r.us.length) := by rw [← hre]; exact hsucc.out
        clear hre hsucc
        go_wp2_with fail
        refine (szRecord_any A' c' r _ wr hfk hp (by omega)).mono ?_
        rintro e w1 ⟨q, rfl, hr, hb1⟩
        rcases hr with rfl | ⟨r0, hr⟩
        · go_wp2
          go_ret
          exact ⟨-1, rfl, .inl rfl, hb.trans (hb1.mono hb.size)⟩
        · have HR := hid hr
          clear hr
          go_wp2
          go_roundw
          case rel => exact ⟨k + 1, by omega, by go_num, by have := HR.out; have := HSU.out; congr 1; omega, by have := HR.out; have := HSU.out; omega, hb.trans (hb1.mono hb.size)⟩
          case measure => simp [intOf]; omega
      · have hk' : k = rs.length := by omega
        subst hk'
        go_wp2
        go_ret
        exact ⟨_, rfl, .inr ⟨hp, by unfold allSzR; omega⟩, hb⟩
set_option maxHeartbeats 2000000 in
theorem szShard_any (v : Value) (rs : List Rec) (left : Int) (w : World) (h : Shd w w.heap.size v rs) (hf : WideR rs) (h0 : 0 ≤ left) (h1 : left ≤ 1048576) :
    Calls Tryz.prog 48 #[v, .int .i64 left] w (SizedR (allSzR rs) left w) := by
  obtain ⟨A, c, rfl, hr, -⟩ := h
  unfold shV
  have x0 := Blk1.new_ w 102 (.slice A rs.length c)
  have b0 := (Below.refl w.heap.size w).alloc (Nat.le_refl _) (.cells #[.slice A rs.length c] 102)
  go_enter Tryz.func48, Tryz.ntmps48
  go_wp2_with fail
  refine (szRecordS_any A c rs left _ (hr.on b0) hf h0 h1).mono ?_
  rintro e w1 ⟨r, rfl, hr, d⟩
  have b1 := b0.trans (d.mono b0.size)
  rcases hr with rfl | ⟨r0, hr⟩
  · go_wp2
    go_ret
    exact ⟨-1, rfl, .inl rfl, b1⟩
  · have HR := hid hr
    clear hr
    go_wp2
    go_ret
    exact ⟨r, rfl, .inr ⟨r0, HR.out⟩, b1⟩

/-! ### Copies. -/
def NewRecM (r : Rec) (w : World) (e : Ending) (w' : World) : Prop := ∃ g, e = .returned (.agg #[.int .i64 r.k, .int .i64 r.t, .slice (some ⟨g, 0, none⟩) r.us.length r.us.length]) ∧ OwnUps w' w.heap.size (.slice (some ⟨g, 0, none⟩) r.us.length r.us.length) r.us ∧ Below w.heap.size w w'
set_option maxHeartbeats 4000000 in
theorem toRecord_any (A : Option Addr) (c : Nat) (r : Rec) (w : World) (h : Row w w.heap.size A (upsV r.us)) (hn : r.us.length ≤ 1048576) :
    Calls Tryz.prog 118 #[.agg #[.int .i64 r.k, .int .i64 r.t, .slice A r.us.length c]] w (NewRecM r w) := by
  have b1 := (Below.refl w.heap.size w).alloc (Nat.le_refl _) (.cells #[.int .i64 r.k, .int .i64 r.t, .slice A r.us.length c] 182)
  have b2 := b1.alloc (by simp) (.cells #[.int .i64 0, .int .i64 0, .slice none 0 0] 128)
  have b3 := b2.alloc (by simp; omega) (.cells #[.int .i64 r.k, .int .i64 r.t, .slice none 0 0] 128)
  have X3 := ((Blk3s.new_ w 182 (.int .i64 r.k) (.int .i64 r.t) (.slice A r.us.length c)).alloc (.cells #[.int .i64 0, .int .i64 0, .slice none 0 0] 128)).alloc (.cells #[.int .i64 r.k, .int .i64 r.t, .slice none 0 0] 128)
  have R3 := (Blk3s.new_ (w.alloc (.cells #[.int .i64 r.k, .int .i64 r.t, .slice A r.us.length c] 182)) 128 (.int .i64 0) (.int .i64 0) (.slice none 0 0)).alloc (.cells #[.int .i64 r.k, .int .i64 r.t, .slice none 0 0] 128)
  have O3 := Blk3s.new_ ((w.alloc (.cells #[.int .i64 r.k, .int .i64 r.t, .slice A r.us.length c] 182)).alloc (.cells #[.int .i64 0, .int .i64 0, .slice none 0 0] 128)) 128 (.int .i64 r.k) (.int .i64 r.t) (.slice none 0 0)
  simp only [World.size_alloc] at R3 O3
  clear b1 b2
  go_enter Tryz.func118, Tryz.ntmps118
  go_wp2_with fail
  refine (toUpdateS_any A c r.us _ ((h.below b3 (Nat.le_refl _)).more b3.size) hn).mono ?_
  rintro e w4 ⟨g1, rfl, m4, hb4⟩
  have b4 := b3.trans (hb4.mono b3.size)
  have R4 := R3.later hb4
  have O4 := O3.later hb4
  have m5 : OwnUps w4 w.heap.size (.slice (some ⟨g1, 0, none⟩) r.us.length r.us.length) r.us := (show OwnUps w4 _ _ _ from m4).base b3.size
  clear R3 O3 X3 b3 hb4 m4
  obtain ⟨o0, o1, o2, of⟩ := id O4.reads
  obtain ⟨r0, r1, r2, rf⟩ := id R4.reads
  have of2 := of 2
  have rf0 := rf 0
  have rf1 := rf 1
  have rf2 := rf 2
  clear of rf
  go_wp2_with fail
  have T9 := (((R4.far (p := ⟨w.heap.size + 1 + 1, 2, none⟩) (by simp) (.slice (some ⟨g1, 0, none⟩) r.us.length r.us.length)).set0 (.int .i64 r.k)).set1 (.int .i64 r.t)).set2 (.slice (some ⟨g1, 0, none⟩) r.us.length r.us.length)
  obtain ⟨t0, t1, t2, -⟩ := T9.reads
  have q1 := m5.keptT (by decide) (but_set w4 (w.heap.size + 1 + 1) 2 (.slice (some ⟨g1, 0, none⟩) r.us.length r.us.length)) (blk_type O4)
  have R5 := R4.far (p := ⟨w.heap.size + 1 + 1, 2, none⟩) (by simp) (.slice (some ⟨g1, 0, none⟩) r.us.length r.us.length)
  have q2 := q1.keptT (by decide) (but_set _ (w.heap.size + 1) 0 (.int .i64 r.k)) (blk_type R5)
  have q3 := q2.keptT (by decide) (but_set _ (w.heap.size + 1) 1 (.int .i64 r.t)) (blk_type (R5.set0 _))
  have q4 := q3.keptT (by decide) (but_set _ (w.heap.size + 1) 2 (.slice (some ⟨g1, 0, none⟩) r.us.length r.us.length)) (blk_type ((R5.set0 _).set1 _))
  have b9 := (((b4.setCell (p := ⟨w.heap.size + 1 + 1, 2, none⟩) (by show w.heap.size ≤ w.heap.size + 1 + 1; omega) (.slice (some ⟨g1, 0, none⟩) r.us.length r.us.length)).setCell (p := ⟨w.heap.size + 1, 0, none⟩) (Nat.le_succ _) (.int .i64 r.k)).setCell (p := ⟨w.heap.size + 1, 1, none⟩) (Nat.le_succ _) (.int .i64 r.t)).setCell (p := ⟨w.heap.size + 1, 2, none⟩) (Nat.le_succ _) (.slice (some ⟨g1, 0, none⟩) r.us.length r.us.length)
  exact bodyPost_ret (v := .agg #[.int .i64 r.k, .int .i64 r.t, .slice (some ⟨g1, 0, none⟩) r.us.length r.us.length]) (by simp [results, Tryz.results118, go_sem, t0, t1, t2]) rfl ⟨g1, rfl, q4, b9⟩
/-- The new list so far: n places in block g, the first k filled with the first of rs. -/
def FilR (w : World) (B g : Nat) (rs : List Rec) (k : Nat) : Prop := ∃ xs : List Value, w.ownsRow B 128 3 (.slice (some ⟨g, 0, none⟩) rs.length rs.length) rs.length xs ∧ (∀ j (hj : j < rs.length), j < k → RecIs w B xs j rs[j]) ∧ AptR xs k
theorem FilR.below {w w' : World} {B g k : Nat} {rs : List Rec} (h : FilR w B g rs k) (hb : Below w.heap.size w w') : FilR w' B g rs k := by
  obtain ⟨xs, h1, h2, h3⟩ := h
  refine ⟨xs, own_below h1 hb (Nat.le_refl _), fun j hj hk => ?_, h3⟩
  obtain ⟨A, c, q0, q1, q2, q3, q4⟩ := h2 j hj hk
  exact ⟨A, c, q0, q1, q2, q3, q4.below hb⟩
theorem FilR.cells3 {w : World} {B g k k' : Nat} {rs : List Rec} (h : FilR w B g rs k') (hk : k < rs.length) :
    (∃ v, w.cell? ⟨g, k * 3, none⟩ = some v) ∧ (∃ v, w.cell? ⟨g, k * 3 + 1, none⟩ = some v) ∧ (∃ v, w.cell? ⟨g, k * 3 + 2, none⟩ = some v) ∧ (∀ o, w.frozen? ⟨g, o, none⟩ = false) ∧ B ≤ g := by
  obtain ⟨xs, hm, _⟩ := h
  have hlen := hm.1
  have rd : ∀ j, j < rs.length * 3 → ∃ v, w.cell? ⟨g, j, none⟩ = some v := fun j hj =>
    ⟨_, (World.ownsRow.cellAt hm j hj).trans (List.getElem?_eq_getElem (by omega))⟩
  exact ⟨rd _ (by omega), rd _ (by omega), rd _ (by omega), fun o => World.ownsRow.frozenAt hm o, (World.ownsRow.lt hm g rfl).1⟩
theorem FilR.step {w : World} {B D g k g' : Nat} {rs : List Rec} (hk : k < rs.length) (h : FilR w B g rs k) (hold : ∀ xs : List Value, w.ownsRow B 128 3 (.slice (some ⟨g, 0, none⟩) rs.length rs.length) rs.length xs → (∀ j (hj : j < rs.length), j < k → RecIs w B xs j rs[j]) → ∀ j u q, j < k → xs[j * 3 + 2]? = some u → u.ownBlock = some q → q < D)
    (hnew : D ≤ g') (hl : OwnUps w B (.slice (some ⟨g', 0, none⟩) rs[k].us.length rs[k].us.length) rs[k].us) :
    FilR (((w.setCell ⟨g, k * 3, none⟩ (.int .i64 rs[k].k)).setCell ⟨g, k * 3 + 1, none⟩ (.int .i64 rs[k].t)).setCell ⟨g, k * 3 + 2, none⟩ (.slice (some ⟨g', 0, none⟩) rs[k].us.length rs[k].us.length)) B g rs (k + 1) := by
  obtain ⟨xs, h1, h2, h3⟩ := h
  have hlen := h1.1
  have hold' := hold xs h1 h2
  have s1 := (World.ownsRow.stored h1 (k * 3) (.int .i64 rs[k].k)).1
  have s2 := (World.ownsRow.stored s1 (k * 3 + 1) (.int .i64 rs[k].t)).1
  have s3 := (World.ownsRow.stored s2 (k * 3 + 2) (.slice (some ⟨g', 0, none⟩) rs[k].us.length rs[k].us.length)).1
  have keep : ∀ {u : Value} {us : List Up}, OwnUps w B u us → OwnUps (((w.setCell ⟨g, k * 3, none⟩ (.int .i64 rs[k].k)).setCell ⟨g, k * 3 + 1, none⟩ (.int .i64 rs[k].t)).setCell ⟨g, k * 3 + 2, none⟩ (.slice (some ⟨g', 0, none⟩) rs[k].us.length rs[k].us.length)) B u us := fun {u us} h =>
    ((h.keptT (by decide) (but_set w g (k * 3) _) (fun q hq => row_typed h1 q (by injection hq with hq; rw [← hq]; rfl))).keptT (by decide) (but_set _ g (k * 3 + 1) _) (fun q hq => row_typed s1 q (by injection hq with hq; rw [← hq]; rfl))).keptT (by decide) (but_set _ g (k * 3 + 2) _) (fun q hq => row_typed s2 q (by injection hq with hq; rw [← hq]; rfl))
  have t : ∀ j d, j < rs.length → d < 3 → j ≠ k → (((xs.set (k * 3) (.int .i64 rs[k].k)).set (k * 3 + 1) (.int .i64 rs[k].t)).set (k * 3 + 2) (.slice (some ⟨g', 0, none⟩) rs[k].us.length rs[k].us.length))[j * 3 + d]? = xs[j * 3 + d]? := fun j d hj hd hne => by
    rw [List.getElem?_set_ne (by omega), List.getElem?_set_ne (by omega), List.getElem?_set_ne (by omega)]
  have tk : (((xs.set (k * 3) (.int .i64 rs[k].k)).set (k * 3 + 1) (.int .i64 rs[k].t)).set (k * 3 + 2) (.slice (some ⟨g', 0, none⟩) rs[k].us.length rs[k].us.length))[k * 3 + 2]? = some (.slice (some ⟨g', 0, none⟩) rs[k].us.length rs[k].us.length) := by
    rw [List.getElem?_set_self (by simp; omega)]
  refine ⟨_, s3, fun j hj hjk => ?_, fun i j a b hi hj hij ha hb => ?_⟩
  · by_cases e : j = k
    · subst e
      refine ⟨some ⟨g', 0, none⟩, rs[j].us.length, ?_, ?_, tk, Nat.le_refl _, keep hl⟩
      · rw [List.getElem?_set_ne (by omega), List.getElem?_set_ne (by omega), List.getElem?_set_self (by omega)]
      · rw [List.getElem?_set_ne (by omega), List.getElem?_set_self (by simp; omega)]
    · obtain ⟨A, c, q0, q1, q2, q3, q4⟩ := h2 j hj (by omega)
      exact ⟨A, c, by rw [show j * 3 = j * 3 + 0 from rfl, t j 0 hj (by omega) e]; exact q0, by rw [t j 1 hj (by omega) e]; exact q1, by rw [t j 2 hj (by omega) e]; exact q2, q3, keep q4⟩
  · have low : ∀ j x, j < k → xs[j * 3 + 2]? = some x → Ap2R x (.slice (some ⟨g', 0, none⟩) rs[k].us.length rs[k].us.length) := fun j x hj hx q h1 h2 => by
      have := hold' j x q hj hx h1
      have e : g' = q := by simpa [Value.ownBlock] using h2
      omega
    by_cases ei : i = k
    · subst ei
      rw [tk] at ha
      injection ha with ha
      subst ha
      rw [t j 2 (by omega) (by omega) (by omega)] at hb
      exact (low j b (by omega) hb).symm
    · rw [t i 2 (by omega) (by omega) ei] at ha
      by_cases ej : j = k
      · subst ej
        rw [tk] at hb
        injection hb with hb
        subst hb
        exact low i a (by omega) ha
      · rw [t j 2 (by omega) (by omega) ej] at hb
        exact h3 i j a b (by omega) (by omega) hij ha hb
theorem info_recI : (Tryz.prog.info? 128).map (fun i => (i.zero, i.size, i.bytes)) = some (some (.agg #[.int .i64 0, .int .i64 0, .slice none 0 0]), 3, 40) := by kernel_rfl
set_option maxHeartbeats 4000000 in
theorem toRecordS_any (A : Option Addr) (c : Nat) (rs : List Rec) (w : World) (h : Recs w w.heap.size A rs) (hs : FitR rs) :
    Calls Tryz.prog 92 #[.slice A rs.length c] w (fun e w' => ∃ g, e = .returned (.slice (some ⟨g, 0, none⟩) rs.length rs.length) ∧ OwnRecF w' w.heap.size (.slice (some ⟨g, 0, none⟩) rs.length rs.length) rs ∧ Below w.heap.size w w') := by
  obtain ⟨i0, hi, hz0, hz1, hz2⟩ := info_of info_recI
  obtain ⟨hn, hs⟩ := hs
  go_enter Tryz.func92, Tryz.ntmps92
  go_wp2_with (at_make; go_must (refine wpList_make_full _ rfl (.tmp 6) (.tmp 6) 35 rfl w.heap.size 128 i0 (.agg #[.int .i64 0, .int .i64 0, .slice none 0 0]) 3 Tryz.underlying35 hi hz0 hz1 .i64 .i64 rs.length rs.length rs.length rfl rfl rfl rfl (by rw [hz2]; omega) (by unfold maxLen; omega) (Nat.le_refl _) ?_); intro w1 hown hg)
  have hb1 : Below w.heap.size w w1 := (Below.refl _ _).grown hg (Nat.le_refl _) (by simp)
  have f1 : FilR w1 w.heap.size w.heap.size rs 0 := ⟨_, hown, fun j _ hj => absurd hj (by omega), fun i _ _ _ hi => absurd hi (by omega)⟩
  clear hown hg
  go_loopw [4] (fun i wr => ∃ k : Nat, k ≤ rs.length ∧ i = .int .i64 k ∧ FilR wr w.heap.size w.heap.size rs k ∧ Below w.heap.size w wr) (fun i _ => rs.length - (intOf i).toNat)
  case atStart => exact ⟨0, Nat.zero_le _, rfl, f1, hb1⟩
  case round =>
    clear f1 hb1
    obtain ⟨k, hk, rfl, hf, hb⟩ := hrel
    by_cases hlt : k < rs.length
    · obtain ⟨r, ad, A', c', hre, rfl, ha, g0, g1, g2, -, g4⟩ := (h.below hb (Nat.le_refl _)).rec hlt
      have hsk := hs r (by rw [← hre]; exact List.getElem_mem hlt)
      have k0 : 0 ≤ (k : Int) := by omega
      have k1 : (k : Int) < (rs.length : Int) := by omega
      have HRE := hid hre
      clear hre
      go_wp2_with fail
      refine (toRecord_any A' c' r wr (g4.more hb.size) hsk).mono ?_
      rintro e w2 ⟨g', rfl, o2, d2⟩
      have hf2 := hf.below d2
      have hb2 := hb.trans (d2.mono hb.size)
      have hg' : wr.heap.size ≤ g' := (OwnUps.lt o2 g' rfl)
      have o2' := OwnUps.base (B' := w.heap.size) o2 hb.size
      obtain ⟨⟨u0, c0⟩, ⟨u1, c1⟩, ⟨u2, c2⟩, cf, hBg⟩ := hf2.cells3 hlt
      have cf0 := cf (k * 3)
      have cf1 := cf (k * 3 + 1)
      have cf2 := cf (k * 3 + 2)
      have hst : Hid (FilR (((w2.setCell ⟨w.heap.size, k * 3, none⟩ (.int .i64 r.k)).setCell ⟨w.heap.size, k * 3 + 1, none⟩ (.int .i64 r.t)).setCell ⟨w.heap.size, k * 3 + 2, none⟩ (.slice (some ⟨g', 0, none⟩) r.us.length r.us.length)) w.heap.size w.heap.size rs (k + 1)) := by
        have e := HRE.out
        subst e
        obtain ⟨xs, h1, h2, h3⟩ := hf
        refine FilR.step (D := wr.heap.size) hlt ⟨xs, own_below h1 d2 (Nat.le_refl _), fun j hj hjk => ?_, h3⟩ ?_ hg' o2'
        · obtain ⟨A, c, q0, q1, q2, q3, q4⟩ := h2 j hj hjk
          exact ⟨A, c, q0, q1, q2, q3, q4.below d2⟩
        · intro ys hy1 _ j u q hj hu hq
          have h1' := own_below h1 d2 (Nat.le_refl _)
          have c1 := World.ownsRow.cells hy1 (g := w.heap.size) rfl _ _ hu
          have lx := h1.1
          have hjx : j * 3 + 2 < xs.length := by omega
          have c2 := World.ownsRow.cells h1' (g := w.heap.size) rfl _ _ (List.getElem?_eq_getElem hjx)
          rw [c1] at c2
          injection c2 with c2
          exact ((h2 j (by omega) hj).lt u q (by rw [List.getElem?_eq_getElem hjx, c2]) hq).2
      clear hf hf2 o2 o2' d2 hg' cf g0 g1 g2 g4
      go_wp2_with fail
      go_roundw
      case rel => exact ⟨k + 1, by omega, by go_num, hst.out, ((hb2.setCell (Nat.le_refl _) _).setCell (Nat.le_refl _) _).setCell (Nat.le_refl _) _⟩
      case measure => simp [intOf]; omega
    · have hk' : k = rs.length := by omega
      subst hk'
      obtain ⟨xs, h1, h2, h3⟩ := hf
      go_wp2
      go_ret
      exact ⟨_, rfl, ⟨xs, h1, fun j hj => h2 j hj hj, h3⟩, hb⟩
set_option maxHeartbeats 4000000 in
theorem toShard_any (v : Value) (rs : List Rec) (w : World) (h : Shd w w.heap.size v rs) (hs : FitR rs) :
    Calls Tryz.prog 51 #[v] w (NewShF rs w) := by
  obtain ⟨A, c, rfl, h0, -⟩ := h
  unfold shV
  have b3 := (((Below.refl w.heap.size w).alloc (Nat.le_refl _) (.cells #[.slice A rs.length c] 102)).alloc (by simp) (.cells #[.slice none 0 0] 37)).alloc (by simp; omega) (.cells #[.slice none 0 0] 37)
  have R3 := (Blk1.new_ (w.alloc (.cells #[.slice A rs.length c] 102)) 37 (.slice none 0 0)).alloc (.cells #[.slice none 0 0] 37)
  have O3 := Blk1.new_ ((w.alloc (.cells #[.slice A rs.length c] 102)).alloc (.cells #[.slice none 0 0] 37)) 37 (.slice none 0 0)
  simp only [World.size_alloc] at R3 O3
  go_enter Tryz.func51, Tryz.ntmps51
  go_wp2_with fail
  refine (toRecordS_any A c rs _ (h0.on b3) hs).mono ?_
  rintro e w4 ⟨g1, rfl, m4, hb4⟩
  have b4 := b3.trans (hb4.mono b3.size)
  have R4 := R3.later hb4
  have O4 := O3.later hb4
  have m5 := m4.base (B' := w.heap.size) b3.size
  clear R3 O3 b3 hb4 m4
  obtain ⟨o0, of⟩ := id O4.reads
  obtain ⟨r0, rf⟩ := id R4.reads
  have of0 := of 0
  have rf0 := rf 0
  clear of rf
  go_wp2_with fail
  have R5 := R4.far (p := ⟨w.heap.size + 1 + 1, 0, none⟩) (by simp) (.slice (some ⟨g1, 0, none⟩) rs.length rs.length)
  obtain ⟨t0, -⟩ := (R5.set0 (.slice (some ⟨g1, 0, none⟩) rs.length rs.length)).reads
  have q1 := m5.keptT (by decide) (by decide) (but_set w4 (w.heap.size + 1 + 1) 0 (.slice (some ⟨g1, 0, none⟩) rs.length rs.length)) (blk_type O4)
  have q2 := q1.keptT (by decide) (by decide) (but_set _ (w.heap.size + 1) 0 (.slice (some ⟨g1, 0, none⟩) rs.length rs.length)) (blk_type R5)
  have b9 := (b4.setCell (p := ⟨w.heap.size + 1 + 1, 0, none⟩) (by show w.heap.size ≤ w.heap.size + 1 + 1; omega) (.slice (some ⟨g1, 0, none⟩) rs.length rs.length)).setCell (p := ⟨w.heap.size + 1, 0, none⟩) (Nat.le_succ _) (.slice (some ⟨g1, 0, none⟩) rs.length rs.length)
  exact bodyPost_ret (v := .agg #[.slice (some ⟨g1, 0, none⟩) rs.length rs.length]) (by simp [results, Tryz.results51, go_sem, t0]) rfl ⟨_, rfl, OwnShF.mk_ q2, b9⟩
end Go.Proofs.YteaibflloeipaaaGreatDoor
/- Laws on coordinators: a coordinator is boxed. -/
/- On to the world behind D. -/
/- An exact law begins: the argument's box, its size, a copy for the model. -/
/- The program's own copy of the argument is boxed. -/
/- The program's copy is as the argument; the region draws. -/
/- Laws on functions that answer numbers. -/
/- What the boxes hold is read again. -/
/- The coordinator with the slices P4 and P5 is boxed as P6, in block P7, behind it the world P3; ahead of region P1. -/
/- The draw, the program's answer, the model's, and that they are the same: behind it w5, all facts on it by way of dx. -/
/-
  Walks: records, shards and states compared by the laws' own helpers.
-/
namespace Go.Proofs.YteaibflloeipaaaGreatDoor
open Go.RowKit Wo Pu Rf Lk Sh

set_option linter.unusedSimpArgs false in
set_option maxHeartbeats 2000000 in
theorem eqRecord_is (A A' : Option Addr) (c c' : Nat) (r : Rec) (w : World) (B : Nat) (hr : Row w B A (upsV r.us)) (hr' : Row w B A' (upsV r.us)) (hB : B ≤ w.heap.size) (hm : r.us.length ≤ 1048576) :
    Calls Tryz.prog 120 #[.agg #[.int .i64 r.k, .int .i64 r.t, .slice A r.us.length c], .agg #[.int .i64 r.k, .int .i64 r.t, .slice A' r.us.length c']] w (Ret (.bool true) w) := by
  go_enter Tryz.func120, Tryz.ntmps120
  have al := ((Below.refl w.heap.size w).alloc (Nat.le_refl _) (.cells #[.int .i64 r.k, .int .i64 r.t, .slice A r.us.length c] 128)).alloc (by simp) (.cells #[.int .i64 r.k, .int .i64 r.t, .slice A' r.us.length c'] 128)
  have CU := hid (fun x (hx : Below w.heap.size w x) => eqUpdateS_same A A' c c' r.us x ((hr.below hx hB).more (Nat.le_trans hB hx.size)) ((hr'.below hx hB).more (Nat.le_trans hB hx.size)) hm)
  obtain ⟨w1, hw1⟩ : ∃ w1, (w.alloc (.cells #[.int .i64 r.k, .int .i64 r.t, .slice A r.us.length c] 128)).alloc (.cells #[.int .i64 r.k, .int .i64 r.t, .slice A' r.us.length c'] 128) = w1 := ⟨_, rfl⟩
  have x0 := (Blk3s.new_ w 128 (.int .i64 r.k) (.int .i64 r.t) (.slice A r.us.length c)).alloc (.cells #[.int .i64 r.k, .int .i64 r.t, .slice A' r.us.length c'] 128)
  have x1 := Blk3s.new_ (w.alloc (.cells #[.int .i64 r.k, .int .i64 r.t, .slice A r.us.length c] 128)) 128 (.int .i64 r.k) (.int .i64 r.t) (.slice A' r.us.length c')
  rw [World.size_alloc] at x1
  rw [hw1] at al x0 x1
  obtain ⟨y0, y1, y2, -⟩ := id x0.reads
  obtain ⟨z0, z1, z2, -⟩ := id x1.reads
  go_wp2_with fail
  refine (CU.out w1 al).mono ?_
  rintro e w2 ⟨rfl, d2⟩
  clear y0 y1 y2 z0 z1 z2 hw1
  go_wp2
  go_ret
  exact ⟨rfl, al.trans (d2.mono al.size)⟩
set_option linter.unusedSimpArgs false in
set_option maxRecDepth 100000 in
set_option maxHeartbeats 4000000 in
theorem eqRecordS_is (A A' : Option Addr) (c c' : Nat) (rs : List Rec) (w : World) (h0 : Recs w w.heap.size A rs) (h0' : Recs w w.heap.size A' rs) (hf : FitR rs) :
    Calls Tryz.prog 94 #[.slice A rs.length c, .slice A' rs.length c'] w (Ret (.bool true) w) := by
  go_enter Tryz.func94, Tryz.ntmps94
  go_wp2_with fail
  go_loopw [5] (fun i wr => ∃ k : Nat, k ≤ rs.length ∧ i = .int .i64 k ∧ Below w.heap.size w wr) (fun i _ => rs.length - (intOf i).toNat)
  case atStart => exact ⟨0, Nat.zero_le _, rfl, Below.refl _ _⟩
  case round =>
    obtain ⟨k, hk, rfl, hbw⟩ := hrel
    by_cases hlt : k < rs.length
    · obtain ⟨r, ad, A1, c1, ho, rfl, ha1, g0, g1, g2, -, g3⟩ := (h0.below hbw (Nat.le_refl _)).rec hlt
      obtain ⟨r2, ad2, A2, c2, ho2, rfl, ha2, g20, g21, g22, -, g23⟩ := (h0'.below hbw (Nat.le_refl _)).rec hlt
      obtain rfl : r = r2 := by rw [← ho, ← ho2]
      have hmk : r.us.length ≤ 1048576 := by rw [← ho]; exact hf.2 _ (List.getElem_mem hlt)
      have k0 : 0 ≤ (k : Int) := by omega
      have k1 : (k : Int) < (rs.length : Int) := by omega
      have hz := hbw.size
      have HKP : Hid (∀ x, Below wr.heap.size wr x → x.cell? (ad.add (k * 3)) = some (.int .i64 r.k) ∧ x.cell? ⟨(ad.add (k * 3)).block, (ad.add (k * 3)).off + 1, none⟩ = some (.int .i64 r.t) ∧ x.cell? ⟨(ad.add (k * 3)).block, (ad.add (k * 3)).off + 2, none⟩ = some (.slice A1 r.us.length c1) ∧
          x.cell? (ad2.add (k * 3)) = some (.int .i64 r.k) ∧ x.cell? ⟨(ad2.add (k * 3)).block, (ad2.add (k * 3)).off + 1, none⟩ = some (.int .i64 r.t) ∧ x.cell? ⟨(ad2.add (k * 3)).block, (ad2.add (k * 3)).off + 2, none⟩ = some (.slice A2 r.us.length c2)) := fun x hx =>
        ⟨(hx.cell (Nat.lt_of_lt_of_le ha1 hz)).trans g0, (hx.cell (p := ⟨(ad.add (k * 3)).block, (ad.add (k * 3)).off + 1, none⟩) (Nat.lt_of_lt_of_le ha1 hz)).trans g1, (hx.cell (p := ⟨(ad.add (k * 3)).block, (ad.add (k * 3)).off + 2, none⟩) (Nat.lt_of_lt_of_le ha1 hz)).trans g2,
          (hx.cell (Nat.lt_of_lt_of_le ha2 hz)).trans g20, (hx.cell (p := ⟨(ad2.add (k * 3)).block, (ad2.add (k * 3)).off + 1, none⟩) (Nat.lt_of_lt_of_le ha2 hz)).trans g21, (hx.cell (p := ⟨(ad2.add (k * 3)).block, (ad2.add (k * 3)).off + 2, none⟩) (Nat.lt_of_lt_of_le ha2 hz)).trans g22⟩
      clear ho ho2 g0 g1 g2 g20 g21 g22
      go_wp2_with fail
      have Dwd := (Below.refl wr.heap.size wr).drew
      refine wp_region_held_drew (S := fun x => x.cell? (ad.add (k * 3)) = some (.int .i64 r.k) ∧ x.cell? ⟨(ad.add (k * 3)).block, (ad.add (k * 3)).off + 1, none⟩ = some (.int .i64 r.t) ∧ x.cell? ⟨(ad.add (k * 3)).block, (ad.add (k * 3)).off + 2, none⟩ = some (.slice A1 r.us.length c1) ∧
          x.cell? (ad2.add (k * 3)) = some (.int .i64 r.k) ∧ x.cell? ⟨(ad2.add (k * 3)).block, (ad2.add (k * 3)).off + 1, none⟩ = some (.int .i64 r.t) ∧ x.cell? ⟨(ad2.add (k * 3)).block, (ad2.add (k * 3)).off + 2, none⟩ = some (.slice A2 r.us.length c2)) (by kernel_rfl) (HKP.out _ Dwd) (fun hHeld => ?_)
      obtain ⟨wd, hwd⟩ : ∃ wd, wr.drew = wd := ⟨_, rfl⟩
      rw [hwd] at hHeld Dwd ⊢
      clear hwd
      refine wpAnyH_take (i := 0) (oi := _) (v := ?_) rfl (by kernel_rfl) (by kernel_rfl) (by kernel_rfl) (fun _ _ _ h => h) (Or.inl ⟨by rfl, ?_⟩) hHeld ?_
      rotate_left
      · (intro w' hSw; (try dsimp only at hSw); go_simp <;> with_reducible rfl)
      try simp only [Act.put, List.getElem_toArray, List.getElem_cons_succ, List.getElem_cons_zero, List.setIfInBounds_toArray, List.set_cons_zero, List.set_cons_succ]
      refine wpAnyH_take (i := 1) (oi := _) (v := ?_) rfl (by kernel_rfl) (by kernel_rfl) (by kernel_rfl) (fun _ _ _ h => h) (Or.inl ⟨by rfl, ?_⟩) hHeld ?_
      rotate_left
      · (intro w' hSw; (try dsimp only at hSw); go_simp <;> with_reducible rfl)
      try simp only [Act.put, List.getElem_toArray, List.getElem_cons_succ, List.getElem_cons_zero, List.setIfInBounds_toArray, List.set_cons_zero, List.set_cons_succ]
      refine wpAnyH_take (i := 2) (oi := _) (v := ?_) rfl (by kernel_rfl) (by kernel_rfl) (by kernel_rfl) (fun _ _ _ h => h) (Or.inl ⟨by rfl, ?_⟩) hHeld ?_
      rotate_left
      · (intro w' hSw; (try dsimp only at hSw); go_simp <;> with_reducible rfl)
      try simp only [Act.put, List.getElem_toArray, List.getElem_cons_succ, List.getElem_cons_zero, List.setIfInBounds_toArray, List.set_cons_zero, List.set_cons_succ]
      refine wpAnyH_take (i := 3) (oi := _) (v := ?_) rfl (by kernel_rfl) (by kernel_rfl) (by kernel_rfl) (fun _ _ _ h => h) (Or.inl ⟨by rfl, ?_⟩) hHeld ?_
      rotate_left
      · (intro w' hSw; (try dsimp only at hSw); go_simp <;> with_reducible rfl)
      try simp only [Act.put, List.getElem_toArray, List.getElem_cons_succ, List.getElem_cons_zero, List.setIfInBounds_toArray, List.set_cons_zero, List.set_cons_succ]
      refine wpAnyH_take (i := 4) (oi := _) (v := ?_) rfl (by kernel_rfl) (by kernel_rfl) (by kernel_rfl) (fun _ _ _ h => h) (Or.inl ⟨by rfl, ?_⟩) hHeld ?_
      rotate_left
      · (intro w' hSw; (try dsimp only at hSw); go_simp <;> with_reducible rfl)
      try simp only [Act.put, List.getElem_toArray, List.getElem_cons_succ, List.getElem_cons_zero, List.setIfInBounds_toArray, List.set_cons_zero, List.set_cons_succ]
      refine wpAnyH_take (i := 5) (oi := _) (v := ?_) rfl (by kernel_rfl) (by kernel_rfl) (by kernel_rfl) (fun _ _ _ h => h) (Or.inl ⟨by rfl, ?_⟩) hHeld ?_
      rotate_left
      · (intro w' hSw; (try dsimp only at hSw); go_simp <;> with_reducible rfl)
      try simp only [Act.put, List.getElem_toArray, List.getElem_cons_succ, List.getElem_cons_zero, List.setIfInBounds_toArray, List.set_cons_zero, List.set_cons_succ]
      refine wpAnyH_take (i := 6) (oi := _) (v := ?_) rfl (by kernel_rfl) (by kernel_rfl) (by kernel_rfl) (fun _ _ _ h => h) (Or.inl ⟨by rfl, ?_⟩) hHeld ?_
      rotate_left
      · (intro w' hSw; (try dsimp only at hSw); go_simp <;> with_reducible rfl)
      try simp only [Act.put, List.getElem_toArray, List.getElem_cons_succ, List.getElem_cons_zero, List.setIfInBounds_toArray, List.set_cons_zero, List.set_cons_succ]
      refine wpAnyH_take (i := 7) (oi := _) (v := ?_) rfl (by kernel_rfl) (by kernel_rfl) (by kernel_rfl) (fun _ _ _ h => h) (Or.inl ⟨by rfl, ?_⟩) hHeld ?_
      rotate_left
      · (intro w' hSw; (try dsimp only at hSw); go_simp <;> with_reducible rfl)
      try simp only [Act.put, List.getElem_toArray, List.getElem_cons_succ, List.getElem_cons_zero, List.setIfInBounds_toArray, List.set_cons_zero, List.set_cons_succ]
      refine wpAnyH_ready (rs := [8]) (by kernel_rfl) (by simp) (AllReadyH.cons (o := _) rfl (fun K hK => ?_) AllReadyH.nil)
      try simp only [Act.put, List.getElem_toArray, List.getElem_cons_succ, List.getElem_cons_zero, List.setIfInBounds_toArray, List.set_cons_zero, List.set_cons_succ]
      go_simp
      go_at_call 120
      refine (eqRecord_is A1 A2 c1 c2 r wd w.heap.size (g3.below Dwd hz) (g23.below Dwd hz) (Nat.le_trans hz Dwd.size) hmk).mono ?_
      rintro e we ⟨rfl, de⟩
      have De := Dwd.trans (de.mono Dwd.size)
      have hb9 := hbw.trans (De.mono hz)
      refine hK.out _ _ (HKP.out _ De) (fun hHeld => ?_)
      clear hK K
      try simp only [Act.put, List.getElem_toArray, List.getElem_cons_succ, List.getElem_cons_zero, List.setIfInBounds_toArray, List.set_cons_zero, List.set_cons_succ]
      refine wpAnyH_take (i := 9) (oi := _) (v := ?_) rfl (by kernel_rfl) (by kernel_rfl) (by kernel_rfl) (fun _ _ _ h => h) (Or.inl ⟨by rfl, ?_⟩) hHeld ?_
      rotate_left
      · (intro w' hSw; (try dsimp only at hSw); go_simp <;> with_reducible rfl)
      try simp only [Act.put, List.getElem_toArray, List.getElem_cons_succ, List.getElem_cons_zero, List.setIfInBounds_toArray, List.set_cons_zero, List.set_cons_succ]
      refine wpAnyH_done (by kernel_rfl) ?_ _
      have hf1 := hf.1
      clear hHeld HKP Dwd de De
      go_wp2
      go_roundw
      case rel => exact ⟨k + 1, by omega, by go_num, hb9⟩
      case measure => simp [intOf]; omega
    · have hk' : k = rs.length := by omega
      subst hk'
      go_wp2
      go_ret
      exact ⟨rfl, hbw⟩
set_option maxHeartbeats 2000000 in
theorem eqShard_is (v v' : Value) (rs : List Rec) (w : World) (h : Shd w w.heap.size v rs) (h' : Shd w w.heap.size v' rs) (hf : FitR rs) :
    Calls Tryz.prog 54 #[v, v'] w (Ret (.bool true) w) := by
  obtain ⟨A, c, rfl, h0, hc⟩ := h
  obtain ⟨A', c', rfl, h0', hc'⟩ := h'
  unfold shV
  go_enter Tryz.func54, Tryz.ntmps54
  have al := ((Below.refl w.heap.size w).alloc (Nat.le_refl _) (.cells #[.slice A rs.length c] 37)).alloc (by simp) (.cells #[.slice A' rs.length c'] 37)
  have x0 := (Blk1.new_ w 37 (.slice A rs.length c)).alloc (.cells #[.slice A' rs.length c'] 37)
  have x1 := Blk1.new_ (w.alloc (.cells #[.slice A rs.length c] 37)) 37 (.slice A' rs.length c')
  rw [World.size_alloc] at x1
  obtain ⟨w1, hw1⟩ : ∃ w1, (w.alloc (.cells #[.slice A rs.length c] 37)).alloc (.cells #[.slice A' rs.length c'] 37) = w1 := ⟨_, rfl⟩
  rw [hw1] at al x0 x1
  obtain ⟨y0, -⟩ := id x0.reads
  obtain ⟨z0, -⟩ := id x1.reads
  go_wp2_with fail
  refine (eqRecordS_is A A' c c' rs w1 (h0.on al) (h0'.on al) hf).mono ?_
  rintro e w2 ⟨rfl, d2⟩
  clear y0 z0 hw1
  go_wp2
  go_ret
  exact ⟨rfl, al.trans (d2.mono al.size)⟩
end Go.Proofs.YteaibflloeipaaaGreatDoor
/- Laws on coordinators: a coordinator is boxed. -/
/- On to the world behind D. -/
/- An exact law begins: the argument's box, its size, a copy for the model. -/
/- The program's own copy of the argument is boxed. -/
/- The program's copy is as the argument; the region draws. -/
/- Laws on functions that answer numbers. -/
/- What the boxes hold is read again. -/
/- The coordinator with the slices P4 and P5 is boxed as P6, in block P7, behind it the world P3; ahead of region P1. -/
/- The draw, the program's answer, the model's, and that they are the same: behind it w5, all facts on it by way of dx. -/
/-
  Walks: sizes, copies and comparisons of lists of shards by the laws' own helpers.
-/
namespace Go.Proofs.YteaibflloeipaaaGreatDoor
open Go.RowKit Wo Pu Rf Lk Sh
set_option linter.unusedVariables false
set_option linter.unusedSimpArgs false

def partSzL (ss : List (List Rec)) (k : Nat) : Nat := ((ss.take k).map allSzR).sum
def allSzL (ss : List (List Rec)) : Nat := ss.length + partSzL ss ss.length
theorem partSzL_succ {ss : List (List Rec)} {k : Nat} (hk : k < ss.length) : partSzL ss (k + 1) = partSzL ss k + allSzR ss[k] := by
  unfold partSzL
  rw [List.take_succ_eq_append_getElem hk, List.map_append, List.sum_append]
  simp
theorem partSzL_ge {ss : List (List Rec)} {i : Nat} (hi : i < ss.length) : ∀ k, i < k → k ≤ ss.length → allSzR ss[i] ≤ partSzL ss k := by
  intro k
  induction k with
  | zero => intro h; omega
  | succ k ih =>
    intro h1 h2
    rw [partSzL_succ (by omega)]
    by_cases e : i = k
    · subst e; omega
    · have := ih (by omega) (by omega)
      omega
theorem allSzL_fit {ss : List (List Rec)} {m : Nat} (h : allSzL ss ≤ m) (hm : m ≤ 1048576) : ss.length ≤ 1048576 ∧ ∀ rs ∈ ss, FitR rs := by
  unfold allSzL at h
  refine ⟨by omega, fun a ha => ?_⟩
  obtain ⟨i, hi, rfl⟩ := List.mem_iff_getElem.1 ha
  have := partSzL_ge hi ss.length hi (Nat.le_refl _)
  exact allSzR_fit (m := m) (by omega) hm
set_option maxHeartbeats 4000000 in
theorem szShardS_any (A : Option Addr) (c : Nat) (ss : List (List Rec)) (left : Int) (w : World) (h : ShL w w.heap.size A ss) (hf : WideL ss) (h0 : 0 ≤ left) (h1 : left ≤ 1048576) :
    Calls Tryz.prog 19 #[.slice A ss.length c, .int .i64 left] w (SizedR (allSzL ss) left w) := by
  obtain ⟨hn, hf⟩ := hf
  unfold maxLen at hn
  by_cases h2 : left < ss.length
  · go_enter Tryz.func19, Tryz.ntmps19
    go_wp2
    go_ret
    exact ⟨-1, rfl, .inl rfl, Below.refl _ _⟩
  · go_enter Tryz.func19, Tryz.ntmps19
    go_wp2_with fail
    go_loopw [1, 5] (fun l i wr => ∃ k : Nat, k ≤ ss.length ∧ i = .int .i64 k ∧ l = .int .i64 (left - ss.length - partSzL ss k) ∧ 0 ≤ left - ss.length - partSzL ss k ∧ Below w.heap.size w wr) (fun _ i _ => ss.length - (intOf i).toNat)
    case atStart => exact ⟨0, Nat.zero_le _, rfl, by simp [partSzL], by simp [partSzL]; omega, Below.refl _ _⟩
    case round =>
      obtain ⟨k, hk, rfl, rfl, hp, hb⟩ := hrel
      by_cases hlt : k < ss.length
      · have hsucc := hid (partSzL_succ hlt)
        obtain ⟨rs, ad, A', c', hre, rfl, ha, g0, hcc, hrec⟩ := (h.below hb (Nat.le_refl _)).at_ hlt
        have hfk := hf rs (by rw [← hre]; exact List.getElem_mem hlt)
        have k0 : 0 ≤ (k : Int) := by omega
        have k1 : (k : Int) < (ss.length : Int) := by omega
        have HSU : Hid (partSzL ss (k + 1) = partSzL ss k + allSzR rs) := by rw [← hre]; exact hsucc.out
        have CX := hid (szShard_any (shV A' rs.length c') rs (left - ss.length - partSzL ss k) wr ⟨A', c', rfl, hrec.more hb.size, hcc⟩ hfk hp (by omega))
        unfold shV at CX
        clear hre hsucc
        go_wp2_with fail
        refine CX.out.mono ?_
        rintro e w1 ⟨q, rfl, hr, hb1⟩
        clear CX
        rcases hr with rfl | ⟨r0, hr⟩
        · go_wp2
          go_ret
          exact ⟨-1, rfl, .inl rfl, hb.trans (hb1.mono hb.size)⟩
        · have HR := hid hr
          clear hr
          go_wp2
          go_roundw
          case rel => exact ⟨k + 1, by omega, by go_num, by have := HR.out; have := HSU.out; congr 1; omega, by have := HR.out; have := HSU.out; omega, hb.trans (hb1.mono hb.size)⟩
          case measure => simp [intOf]; omega
      · have hk' : k = ss.length := by omega
        subst hk'
        go_wp2
        go_ret
        exact ⟨_, rfl, .inr ⟨hp, by unfold allSzL; omega⟩, hb⟩
/-- The new list so far: n places in block g, the first k filled with copies of the first of ss. -/
def FilS (w : World) (B g : Nat) (ss : List (List Rec)) (k : Nat) : Prop := ∃ xs : List Value, w.ownsRow B 37 1 (.slice (some ⟨g, 0, none⟩) ss.length ss.length) ss.length xs ∧ ∀ j (hj : j < ss.length), j < k → ∃ (A : Option Addr) (c : Nat), xs[j]? = some (.slice A ss[j].length c) ∧ ss[j].length ≤ c ∧ OwnRecF w B (.slice A ss[j].length c) ss[j]
theorem FilS.below {w w' : World} {B g k : Nat} {ss : List (List Rec)} (h : FilS w B g ss k) (hb : Below w.heap.size w w') : FilS w' B g ss k := by
  obtain ⟨xs, h1, h2⟩ := h
  refine ⟨xs, own_below h1 hb (Nat.le_refl _), fun j hj hk => ?_⟩
  obtain ⟨A, c, q0, q1, q2⟩ := h2 j hj hk
  exact ⟨A, c, q0, q1, q2.below hb⟩
theorem FilS.cell1 {w : World} {B g k k' : Nat} {ss : List (List Rec)} (h : FilS w B g ss k') (hk : k < ss.length) : (∃ v, w.cell? ⟨g, k, none⟩ = some v) ∧ w.frozen? ⟨g, k, none⟩ = false ∧ B ≤ g := by
  obtain ⟨xs, hm, _⟩ := h
  have hlen := hm.1
  exact ⟨⟨_, (World.ownsRow.cellAt hm k (by omega)).trans (List.getElem?_eq_getElem (by omega))⟩, World.ownsRow.frozenAt hm k, (World.ownsRow.lt hm g rfl).1⟩
theorem FilS.step {w : World} {B g k : Nat} {A : Option Addr} {c : Nat} {ss : List (List Rec)} (hk : k < ss.length) (h : FilS w B g ss k) (hc : ss[k].length ≤ c) (hl : OwnRecF w B (.slice A ss[k].length c) ss[k]) : FilS (w.setCell ⟨g, k, none⟩ (.slice A ss[k].length c)) B g ss (k + 1) := by
  obtain ⟨xs, h1, h2⟩ := h
  have hlen := h1.1
  have s1 := (World.ownsRow.stored h1 k (.slice A ss[k].length c)).1
  have keep : ∀ {u : Value} {rs : List Rec}, OwnRecF w B u rs → OwnRecF (w.setCell ⟨g, k, none⟩ (.slice A ss[k].length c)) B u rs := fun {u rs} h => h.keptT (by decide) (by decide) (but_set w g k _) (fun q hq => row_typed h1 q (by injection hq with hq; rw [← hq]; rfl))
  refine ⟨_, s1, fun j hj hjk => ?_⟩
  by_cases e : j = k
  · subst e
    exact ⟨A, c, by rw [List.getElem?_set_self (by omega)], hc, keep hl⟩
  · obtain ⟨A2, c2, q0, q1, q2⟩ := h2 j hj (by omega)
    exact ⟨A2, c2, by rw [List.getElem?_set_ne (by omega)]; exact q0, q1, keep q2⟩
theorem FilS.shl {w : World} {B g : Nat} {ss : List (List Rec)} (h : FilS w B g ss ss.length) : ShL w w.heap.size (some ⟨g, 0, none⟩) ss := by
  obtain ⟨xs, h1, h2⟩ := h
  have hg := (World.ownsRow.lt h1 g rfl).2
  refine .inr ⟨_, rfl, hg, fun i hi => ?_⟩
  obtain ⟨A, c, q0, q1, q2⟩ := h2 i hi hi
  have hx : i < xs.length := by have := h1.1; omega
  have c1 := World.ownsRow.cells h1 (g := g) rfl i _ q0
  obtain ⟨A', c', e, q3, q4⟩ := (OwnShF.mk_ q2).own.shd
  refine ⟨A, c, ?_, q1, ?_⟩
  · exact c1
  · unfold shV at e
    injection e with e
    have e2 : (.slice A ss[i].length c : Value) = .slice A' ss[i].length c' := by simpa using e
    injection e2 with e2
    rw [e2]; exact q3
/-- Behind it: a new list of shards. -/
def NewL (ss : List (List Rec)) (w : World) (e : Ending) (w' : World) : Prop := ∃ g, e = .returned (.slice (some ⟨g, 0, none⟩) ss.length ss.length) ∧ FilS w' w.heap.size g ss ss.length ∧ Below w.heap.size w w'
set_option maxHeartbeats 4000000 in
theorem toShardS_any (A : Option Addr) (c : Nat) (ss : List (List Rec)) (w : World) (h : ShL w w.heap.size A ss) (hn : ss.length ≤ 1048576) (hs : ∀ rs ∈ ss, FitR rs) :
    Calls Tryz.prog 21 #[.slice A ss.length c] w (NewL ss w) := by
  obtain ⟨i0, hi, hz0, hz1, hz2⟩ := info_of info_shard
  go_enter Tryz.func21, Tryz.ntmps21
  go_wp2_with (at_make; go_must (refine wpList_make_full _ rfl (.tmp 6) (.tmp 6) 27 rfl w.heap.size 37 i0 (.agg #[.slice none 0 0]) 1 Tryz.underlying27 hi hz0 hz1 .i64 .i64 ss.length ss.length ss.length rfl rfl rfl rfl (by rw [hz2]; omega) (by unfold maxLen; omega) (Nat.le_refl _) ?_); intro w1 hown hg)
  have hb1 : Below w.heap.size w w1 := (Below.refl _ _).grown hg (Nat.le_refl _) (by simp)
  have f1 : FilS w1 w.heap.size w.heap.size ss 0 := ⟨_, hown, fun j _ hj => absurd hj (by omega)⟩
  clear hown hg
  go_loopw [4] (fun i wr => ∃ k : Nat, k ≤ ss.length ∧ i = .int .i64 k ∧ FilS wr w.heap.size w.heap.size ss k ∧ Below w.heap.size w wr) (fun i _ => ss.length - (intOf i).toNat)
  case atStart => exact ⟨0, Nat.zero_le _, rfl, f1, hb1⟩
  case round =>
    clear f1 hb1
    obtain ⟨k, hk, rfl, hf, hb⟩ := hrel
    by_cases hlt : k < ss.length
    · obtain ⟨rs, ad, A', c', hre, rfl, ha, g0, hcc, hrec⟩ := (h.below hb (Nat.le_refl _)).at_ hlt
      have hsk := hs rs (by rw [← hre]; exact List.getElem_mem hlt)
      have k0 : 0 ≤ (k : Int) := by omega
      have k1 : (k : Int) < (ss.length : Int) := by omega
      have CX := hid (toShard_any (shV A' rs.length c') rs wr ⟨A', c', rfl, hrec.more hb.size, hcc⟩ hsk)
      unfold shV at CX
      have HRE := hid hre
      clear hre hrec
      go_wp2_with fail
      refine CX.out.mono ?_
      rintro e w2 ⟨v2, rfl, o2, d2⟩
      have hf2 := hf.below d2
      have hb2 := hb.trans (d2.mono hb.size)
      obtain ⟨A2, c2, rfl, o3, hc2⟩ := o2.base (B' := w.heap.size) hb.size
      unfold shV
      obtain ⟨⟨u0, y0⟩, y1, hBg⟩ := hf2.cell1 hlt
      have hst : Hid (FilS (w2.setCell ⟨w.heap.size, k, none⟩ (.slice A2 rs.length c2)) w.heap.size w.heap.size ss (k + 1)) := by
        have e := HRE.out
        subst e
        exact hf2.step hlt hc2 o3
      clear hf hf2 o2 o3 d2 CX HRE g0
      go_wp2_with fail
      go_roundw
      case rel => exact ⟨k + 1, by omega, by go_num, hst.out, hb2.setCell (Nat.le_refl _) _⟩
      case measure => simp [intOf]; omega
    · have hk' : k = ss.length := by omega
      subst hk'
      go_wp2
      go_ret
      exact ⟨_, rfl, hf, hb⟩
set_option maxRecDepth 100000 in
set_option maxHeartbeats 4000000 in
theorem eqShardS_is (A A' : Option Addr) (c c' : Nat) (ss : List (List Rec)) (w : World) (h0 : ShL w w.heap.size A ss) (h0' : ShL w w.heap.size A' ss) (hn : ss.length ≤ 1048576) (hf : ∀ rs ∈ ss, FitR rs) :
    Calls Tryz.prog 23 #[.slice A ss.length c, .slice A' ss.length c'] w (Ret (.bool true) w) := by
  go_enter Tryz.func23, Tryz.ntmps23
  go_wp2_with fail
  go_loopw [5] (fun i wr => ∃ k : Nat, k ≤ ss.length ∧ i = .int .i64 k ∧ Below w.heap.size w wr) (fun i _ => ss.length - (intOf i).toNat)
  case atStart => exact ⟨0, Nat.zero_le _, rfl, Below.refl _ _⟩
  case round =>
    obtain ⟨k, hk, rfl, hbw⟩ := hrel
    by_cases hlt : k < ss.length
    · obtain ⟨rs, ad, A1, c1, ho, rfl, ha1, g0, hc1, r1⟩ := (h0.below hbw (Nat.le_refl _)).at_ hlt
      obtain ⟨rs2, ad2, A2, c2, ho2, rfl, ha2, g20, hc2, r2⟩ := (h0'.below hbw (Nat.le_refl _)).at_ hlt
      obtain rfl : rs = rs2 := by rw [← ho, ← ho2]
      have hmk := hf rs (by rw [← ho]; exact List.getElem_mem hlt)
      have k0 : 0 ≤ (k : Int) := by omega
      have k1 : (k : Int) < (ss.length : Int) := by omega
      have hz := hbw.size
      have HKP : Hid (∀ x, Below wr.heap.size wr x → x.cell? (ad.add k) = some (.slice A1 rs.length c1) ∧ x.cell? (ad2.add k) = some (.slice A2 rs.length c2)) := fun x hx => ⟨(hx.cell (Nat.lt_of_lt_of_le ha1 hz)).trans g0, (hx.cell (Nat.lt_of_lt_of_le ha2 hz)).trans g20⟩
      clear ho ho2 g0 g20
      go_wp2_with fail
      have Dwd := (Below.refl wr.heap.size wr).drew
      refine wp_region_held_drew (S := fun x => x.cell? (ad.add k) = some (.slice A1 rs.length c1) ∧ x.cell? (ad2.add k) = some (.slice A2 rs.length c2)) (by kernel_rfl) (HKP.out _ Dwd) (fun hHeld => ?_)
      obtain ⟨wd, hwd⟩ : ∃ wd, wr.drew = wd := ⟨_, rfl⟩
      rw [hwd] at hHeld Dwd ⊢
      clear hwd
      refine wpAnyH_take (i := 0) (oi := _) (v := ?_) rfl (by kernel_rfl) (by kernel_rfl) (by kernel_rfl) (fun _ _ _ h => h) (Or.inl ⟨by rfl, ?_⟩) hHeld ?_
      rotate_left
      · (intro w' hSw; (try dsimp only at hSw); go_simp <;> with_reducible rfl)
      try simp only [Act.put, List.getElem_toArray, List.getElem_cons_succ, List.getElem_cons_zero, List.setIfInBounds_toArray, List.set_cons_zero, List.set_cons_succ]
      refine wpAnyH_take (i := 1) (oi := _) (v := ?_) rfl (by kernel_rfl) (by kernel_rfl) (by kernel_rfl) (fun _ _ _ h => h) (Or.inl ⟨by rfl, ?_⟩) hHeld ?_
      rotate_left
      · (intro w' hSw; (try dsimp only at hSw); go_simp <;> with_reducible rfl)
      try simp only [Act.put, List.getElem_toArray, List.getElem_cons_succ, List.getElem_cons_zero, List.setIfInBounds_toArray, List.set_cons_zero, List.set_cons_succ]
      refine wpAnyH_take (i := 2) (oi := _) (v := ?_) rfl (by kernel_rfl) (by kernel_rfl) (by kernel_rfl) (fun _ _ _ h => h) (Or.inl ⟨by rfl, ?_⟩) hHeld ?_
      rotate_left
      · (intro w' hSw; (try dsimp only at hSw); go_simp <;> with_reducible rfl)
      try simp only [Act.put, List.getElem_toArray, List.getElem_cons_succ, List.getElem_cons_zero, List.setIfInBounds_toArray, List.set_cons_zero, List.set_cons_succ]
      refine wpAnyH_take (i := 3) (oi := _) (v := ?_) rfl (by kernel_rfl) (by kernel_rfl) (by kernel_rfl) (fun _ _ _ h => h) (Or.inl ⟨by rfl, ?_⟩) hHeld ?_
      rotate_left
      · (intro w' hSw; (try dsimp only at hSw); go_simp <;> with_reducible rfl)
      try simp only [Act.put, List.getElem_toArray, List.getElem_cons_succ, List.getElem_cons_zero, List.setIfInBounds_toArray, List.set_cons_zero, List.set_cons_succ]
      refine wpAnyH_take (i := 4) (oi := _) (v := ?_) rfl (by kernel_rfl) (by kernel_rfl) (by kernel_rfl) (fun _ _ _ h => h) (Or.inl ⟨by rfl, ?_⟩) hHeld ?_
      rotate_left
      · (intro w' hSw; (try dsimp only at hSw); go_simp <;> with_reducible rfl)
      try simp only [Act.put, List.getElem_toArray, List.getElem_cons_succ, List.getElem_cons_zero, List.setIfInBounds_toArray, List.set_cons_zero, List.set_cons_succ]
      refine wpAnyH_take (i := 5) (oi := _) (v := ?_) rfl (by kernel_rfl) (by kernel_rfl) (by kernel_rfl) (fun _ _ _ h => h) (Or.inl ⟨by rfl, ?_⟩) hHeld ?_
      rotate_left
      · (intro w' hSw; (try dsimp only at hSw); go_simp <;> with_reducible rfl)
      try simp only [Act.put, List.getElem_toArray, List.getElem_cons_succ, List.getElem_cons_zero, List.setIfInBounds_toArray, List.set_cons_zero, List.set_cons_succ]
      refine wpAnyH_take (i := 6) (oi := _) (v := ?_) rfl (by kernel_rfl) (by kernel_rfl) (by kernel_rfl) (fun _ _ _ h => h) (Or.inl ⟨by rfl, ?_⟩) hHeld ?_
      rotate_left
      · (intro w' hSw; (try dsimp only at hSw); go_simp <;> with_reducible rfl)
      try simp only [Act.put, List.getElem_toArray, List.getElem_cons_succ, List.getElem_cons_zero, List.setIfInBounds_toArray, List.set_cons_zero, List.set_cons_succ]
      refine wpAnyH_take (i := 7) (oi := _) (v := ?_) rfl (by kernel_rfl) (by kernel_rfl) (by kernel_rfl) (fun _ _ _ h => h) (Or.inl ⟨by rfl, ?_⟩) hHeld ?_
      rotate_left
      · (intro w' hSw; (try dsimp only at hSw); go_simp <;> with_reducible rfl)
      try simp only [Act.put, List.getElem_toArray, List.getElem_cons_succ, List.getElem_cons_zero, List.setIfInBounds_toArray, List.set_cons_zero, List.set_cons_succ]
      refine wpAnyH_ready (rs := [8]) (by kernel_rfl) (by simp) (AllReadyH.cons (o := _) rfl (fun K hK => ?_) AllReadyH.nil)
      try simp only [Act.put, List.getElem_toArray, List.getElem_cons_succ, List.getElem_cons_zero, List.setIfInBounds_toArray, List.set_cons_zero, List.set_cons_succ]
      go_simp
      go_at_call 54
      refine (eqShard_is (shV A1 rs.length c1) (shV A2 rs.length c2) rs wd ⟨A1, c1, rfl, (r1.below Dwd hz).more (Nat.le_trans hz Dwd.size), hc1⟩ ⟨A2, c2, rfl, (r2.below Dwd hz).more (Nat.le_trans hz Dwd.size), hc2⟩ hmk).mono ?_
      rintro e we ⟨rfl, de⟩
      have De := Dwd.trans (de.mono Dwd.size)
      have hb9 := hbw.trans (De.mono hz)
      refine hK.out _ _ (HKP.out _ De) (fun hHeld => ?_)
      clear hK K
      try simp only [Act.put, List.getElem_toArray, List.getElem_cons_succ, List.getElem_cons_zero, List.setIfInBounds_toArray, List.set_cons_zero, List.set_cons_succ]
      refine wpAnyH_take (i := 9) (oi := _) (v := ?_) rfl (by kernel_rfl) (by kernel_rfl) (by kernel_rfl) (fun _ _ _ h => h) (Or.inl ⟨by rfl, ?_⟩) hHeld ?_
      rotate_left
      · (intro w' hSw; (try dsimp only at hSw); go_simp <;> with_reducible rfl)
      try simp only [Act.put, List.getElem_toArray, List.getElem_cons_succ, List.getElem_cons_zero, List.setIfInBounds_toArray, List.set_cons_zero, List.set_cons_succ]
      refine wpAnyH_done (by kernel_rfl) ?_ _
      clear hHeld HKP Dwd de De
      go_wp2
      go_roundw
      case rel => exact ⟨k + 1, by omega, by go_num, hb9⟩
      case measure => simp [intOf]; omega
    · have hk' : k = ss.length := by omega
      subst hk'
      go_wp2
      go_ret
      exact ⟨rfl, hbw⟩
end Go.Proofs.YteaibflloeipaaaGreatDoor
/- Laws on coordinators: a coordinator is boxed. -/
/- On to the world behind D. -/
/- An exact law begins: the argument's box, its size, a copy for the model. -/
/- The program's own copy of the argument is boxed. -/
/- The program's copy is as the argument; the region draws. -/
/- Laws on functions that answer numbers. -/
/- What the boxes hold is read again. -/
/- The coordinator with the slices P4 and P5 is boxed as P6, in block P7, behind it the world P3; ahead of region P1. -/
/- The draw, the program's answer, the model's, and that they are the same: behind it w5, all facts on it by way of dx. -/
/-
  Walks: comparisons of parts, transactions and coordinators by the laws' own helpers.
-/
namespace Go.Proofs.YteaibflloeipaaaGreatDoor
open Go.RowKit Wo Pu Rf Co
set_option linter.unusedVariables false
set_option linter.unusedSimpArgs false

set_option maxHeartbeats 4000000 in
theorem eqPart_is (A A' : Option Addr) (c c' : Nat) (p : Part) (w : World) (B : Nat) (hr : Row w B A (upsV p.us)) (hr' : Row w B A' (upsV p.us)) (hB : B ≤ w.heap.size) (hm : p.us.length ≤ 1048576) :
    Calls Tryz.prog 144 #[.agg #[.int .i64 p.s, .slice A p.us.length c], .agg #[.int .i64 p.s, .slice A' p.us.length c']] w (Ret (.bool true) w) := by
  go_enter Tryz.func144, Tryz.ntmps144
  have al := ((Below.refl w.heap.size w).alloc (Nat.le_refl _) (.cells #[.int .i64 p.s, .slice A p.us.length c] 40)).alloc (by simp) (.cells #[.int .i64 p.s, .slice A' p.us.length c'] 40)
  have CU := hid (fun x (hx : Below w.heap.size w x) => eqUpdateS_same A A' c c' p.us x ((hr.below hx hB).more (Nat.le_trans hB hx.size)) ((hr'.below hx hB).more (Nat.le_trans hB hx.size)) hm)
  obtain ⟨w1, hw1⟩ : ∃ w1, (w.alloc (.cells #[.int .i64 p.s, .slice A p.us.length c] 40)).alloc (.cells #[.int .i64 p.s, .slice A' p.us.length c'] 40) = w1 := ⟨_, rfl⟩
  have x0 := (Blk2s.new_ w 40 (.int .i64 p.s) (.slice A p.us.length c)).alloc (.cells #[.int .i64 p.s, .slice A' p.us.length c'] 40)
  have x1 := Blk2s.new_ (w.alloc (.cells #[.int .i64 p.s, .slice A p.us.length c] 40)) 40 (.int .i64 p.s) (.slice A' p.us.length c')
  rw [World.size_alloc] at x1
  rw [hw1] at al x0 x1
  obtain ⟨y0, y1, -⟩ := id x0.reads
  obtain ⟨z0, z1, -⟩ := id x1.reads
  go_wp2_with fail
  refine (CU.out w1 al).mono ?_
  rintro e w2 ⟨rfl, d2⟩
  clear y0 y1 z0 z1 hw1
  go_wp2
  go_ret
  exact ⟨rfl, al.trans (d2.mono al.size)⟩
set_option maxRecDepth 100000 in
set_option maxHeartbeats 4000000 in
theorem eqPartS_is (A A' : Option Addr) (c c' : Nat) (ps : List Part) (w : World) (h : Parts w w.heap.size A ps) (h' : Parts w w.heap.size A' ps) (hm : ps.length ≤ 1048600) (hu : ∀ p ∈ ps, p.us.length ≤ 1048576) :
    Calls Tryz.prog 119 #[.slice A ps.length c, .slice A' ps.length c'] w (Ret (.bool true) w) := by
  have HU := hid hu
  clear hu
  go_enter Tryz.func119, Tryz.ntmps119
  go_wp2_with fail
  go_loopw [5] (fun i wr => ∃ k : Nat, k ≤ ps.length ∧ i = .int .i64 k ∧ Below w.heap.size w wr) (fun i _ => ps.length - (intOf i).toNat)
  case atStart => exact ⟨0, Nat.zero_le _, rfl, Below.refl _ _⟩
  case round =>
    obtain ⟨k, hk, rfl, hb⟩ := hrel
    have hz := hb.size
    by_cases hlt : k < ps.length
    · obtain ⟨p, ad, A1, c1, ho, rfl, ha, g0, g1, -, g3⟩ := (h.on hb).part hlt
      obtain ⟨p', ad', A2, c2, ho', rfl, ha', g0', g1', -, g3'⟩ := (h'.on hb).part hlt
      obtain rfl : p' = p := ho'.symm.trans ho
      have hul := HU.out p' (by rw [← ho]; exact List.getElem_mem hlt)
      have k0 : (0 : Int) ≤ (k : Int) := by omega
      have k1 : (k : Int) < (ps.length : Int) := by omega
      have L0 := Later.cell g0 ha
      have L1 := Later.cell (p := ⟨(ad.add (k * 2)).block, (ad.add (k * 2)).off + 1, none⟩) g1 ha
      have L2 := Later.cell g0' ha'
      have L3 := Later.cell (p := ⟨(ad'.add (k * 2)).block, (ad'.add (k * 2)).off + 1, none⟩) g1' ha'
      have CU : Hid (∀ x, wr.heap.size ≤ x.heap.size → Row x wr.heap.size A1 (upsV p'.us) → Row x wr.heap.size A2 (upsV p'.us) → Calls Tryz.prog 144 #[.agg #[.int .i64 p'.s, .slice A1 p'.us.length c1], .agg #[.int .i64 p'.s, .slice A2 p'.us.length c2]] x (Ret (.bool true) x)) := fun x hx r1 r2 => eqPart_is A1 A2 c1 c2 p' x wr.heap.size r1 r2 hx hul
      clear g0 g1 g0' g1' ho ho'
      go_wp2_with fail
      refine wp_region_later wr.heap.size (by kernel_rfl) (by kernel_rfl) ?_
      repeat (go_big_quiet_step ((go_at_call 144; exact Later.call (Nat.le_refl _) _ (CU.out _ (Later.size (Nat.le_refl _) _) (RowC.later g3 _) (RowC.later g3' _)))))
      refine wpQuiet_nil ?_
      intro _ hw'
      obtain ⟨xx, hxx⟩ := hw'
      have hbx := xx.b
      subst hxx
      go_wp2
      go_roundw
      case rel => exact ⟨k + 1, by omega, by go_num, hb.trans (hbx.mono hz)⟩
      case measure => simp [intOf]; omega
    · have hk' : k = ps.length := by omega
      subst hk'
      go_wp2
      go_ret
      exact .mk_ hb
set_option maxRecDepth 100000 in
set_option maxHeartbeats 4000000 in
theorem eqTxn_is (A A' B B' : Option Addr) (c c' e e' : Nat) (t : Tx) (w : World) (h : Parts w w.heap.size A t.ps) (h' : Parts w w.heap.size A' t.ps) (r : Row w w.heap.size B (ints t.vs)) (r' : Row w w.heap.size B' (ints t.vs)) (hm : t.ps.length ≤ 1048576) (hu : ∀ p ∈ t.ps, p.us.length ≤ 1048576) (hv : t.vs.length ≤ 1048576) :
    Calls Tryz.prog 93 #[.agg #[.slice A t.ps.length c, .slice B t.vs.length e, .int .i64 t.d], .agg #[.slice A' t.ps.length c', .slice B' t.vs.length e', .int .i64 t.d]] w (Ret (.bool true) w) := by
  have al := ((Below.refl w.heap.size w).alloc (Nat.le_refl _) (.cells #[.slice A t.ps.length c, .slice B t.vs.length e, .int .i64 t.d] 33)).alloc (by simp) (.cells #[.slice A' t.ps.length c', .slice B' t.vs.length e', .int .i64 t.d] 33)
  have x0 := (Blk3s.new_ w 33 (.slice A t.ps.length c) (.slice B t.vs.length e) (.int .i64 t.d)).alloc (.cells #[.slice A' t.ps.length c', .slice B' t.vs.length e', .int .i64 t.d] 33)
  have x1 := Blk3s.new_ (w.alloc (.cells #[.slice A t.ps.length c, .slice B t.vs.length e, .int .i64 t.d] 33)) 33 (.slice A' t.ps.length c') (.slice B' t.vs.length e') (.int .i64 t.d)
  rw [World.size_alloc] at x1
  go_enter Tryz.func93, Tryz.ntmps93
  go_upto_region 1 with fail
  obtain ⟨w1, hw1⟩ : ∃ w1, (w.alloc (.cells #[.slice A t.ps.length c, .slice B t.vs.length e, .int .i64 t.d] 33)).alloc (.cells #[.slice A' t.ps.length c', .slice B' t.vs.length e', .int .i64 t.d] 33) = w1 := ⟨_, rfl⟩
  rw [hw1] at al x0 x1 ⊢
  clear hw1
  have CP := hid (eqPartS_is A A' c c' t.ps w1 (h.on al) (h'.on al) (by omega) hu)
  obtain ⟨y0, y1, y2, -⟩ := id x0.reads
  obtain ⟨z0, z1, z2, -⟩ := id x1.reads
  go_wp2_with fail
  refine CP.out.mono ?_
  rintro e2 w2 ⟨rfl, d⟩
  replace al := al.trans (d.mono al.size)
  replace x0 := x0.later d
  replace x1 := x1.later d
  clear CP y0 y1 y2 z0 z1 z2 d
  have CI := hid (eqIntS_ret B B' e e' t.vs w2 _ _ (r.below al (Nat.le_refl _)) (r'.below al (Nat.le_refl _)) (by unfold maxLen; omega))
  obtain ⟨y0, y1, y2, -⟩ := id x0.reads
  obtain ⟨z0, z1, z2, -⟩ := id x1.reads
  go_wp2_with fail
  refine CI.out.mono ?_
  rintro e2 w3 ⟨rfl, d⟩
  replace al := al.trans (d.mono al.size)
  replace x0 := x0.later d
  replace x1 := x1.later d
  clear CI y0 y1 y2 z0 z1 z2 d
  obtain ⟨y0, y1, y2, -⟩ := id x0.reads
  obtain ⟨z0, z1, z2, -⟩ := id x1.reads
  go_wp2
  go_ret
  exact .mk_ al
set_option maxRecDepth 100000 in
set_option maxHeartbeats 8000000 in
theorem eqTxnS_is (A A' : Option Addr) (c c' : Nat) (ts : List Tx) (w : World) (h : Txs w w.heap.size A ts) (h' : Txs w w.heap.size A' ts) (hm : ts.length ≤ 1048576) (hps : ∀ t ∈ ts, t.ps.length ≤ 1048576 ∧ t.vs.length ≤ 1048576) (hus : ∀ t ∈ ts, ∀ p ∈ t.ps, p.us.length ≤ 1048576) :
    Calls Tryz.prog 52 #[.slice A ts.length c, .slice A' ts.length c'] w (Ret (.bool true) w) := by
  have HP := hid hps
  have HU := hid hus
  clear hps hus
  go_enter Tryz.func52, Tryz.ntmps52
  go_wp2_with fail
  go_loopw [5] (fun i wr => ∃ k : Nat, k ≤ ts.length ∧ i = .int .i64 k ∧ Below w.heap.size w wr) (fun i _ => ts.length - (intOf i).toNat)
  case atStart => exact ⟨0, Nat.zero_le _, rfl, Below.refl _ _⟩
  case round =>
    obtain ⟨k, hk, rfl, hb⟩ := hrel
    have hz := hb.size
    by_cases hlt : k < ts.length
    · obtain ⟨t, ad, A1, c1, B1, e1, ho, rfl, ha, g0, g1, g2, -, -, g5, g6⟩ := (h.on hb).tx hlt
      obtain ⟨t', ad', A1', c1', B1', e1', ho', rfl, ha', g0', g1', g2', -, -, g5', g6'⟩ := (h'.on hb).tx hlt
      obtain rfl : t' = t := ho'.symm.trans ho
      have hps := HP.out t' (by rw [← ho]; exact List.getElem_mem hlt)
      have hus := HU.out t' (by rw [← ho]; exact List.getElem_mem hlt)
      have k0 : (0 : Int) ≤ (k : Int) := by omega
      have k1 : (k : Int) < (ts.length : Int) := by omega
      have L0 := Later.cell g0 ha
      have L1 := Later.cell (p := ⟨(ad.add (k * 3)).block, (ad.add (k * 3)).off + 1, none⟩) g1 ha
      have L2 := Later.cell (p := ⟨(ad.add (k * 3)).block, (ad.add (k * 3)).off + 2, none⟩) g2 ha
      have L3 := Later.cell g0' ha'
      have L4 := Later.cell (p := ⟨(ad'.add (k * 3)).block, (ad'.add (k * 3)).off + 1, none⟩) g1' ha'
      have L5 := Later.cell (p := ⟨(ad'.add (k * 3)).block, (ad'.add (k * 3)).off + 2, none⟩) g2' ha'
      have CE : Hid (∀ x, wr.heap.size ≤ x.heap.size → Parts x wr.heap.size A1 t'.ps → Parts x wr.heap.size A1' t'.ps → Row x wr.heap.size B1 (ints t'.vs) → Row x wr.heap.size B1' (ints t'.vs) → Calls Tryz.prog 93 #[.agg #[.slice A1 t'.ps.length c1, .slice B1 t'.vs.length e1, .int .i64 t'.d], .agg #[.slice A1' t'.ps.length c1', .slice B1' t'.vs.length e1', .int .i64 t'.d]] x (Ret (.bool true) x)) := fun x hx p1 p2 r1 r2 => eqTxn_is A1 A1' B1 B1' c1 c1' e1 e1' t' x (p1.more hx) (p2.more hx) (r1.more hx) (r2.more hx) hps.1 hus hps.2
      clear g0 g1 g2 g0' g1' g2' ho ho' hus hps
      go_wp2_with fail
      refine wp_region_later wr.heap.size (by kernel_rfl) (by kernel_rfl) ?_
      repeat (go_big_quiet_step ((go_at_call 93; exact Later.call (Nat.le_refl _) _ (CE.out _ (Later.size (Nat.le_refl _) _) (Parts.later_ g5 _) (Parts.later_ g5' _) (RowC.later g6 _) (RowC.later g6' _)))))
      refine wpQuiet_nil ?_
      intro _ hw'
      obtain ⟨xx, hxx⟩ := hw'
      have hbx := xx.b
      subst hxx
      go_wp2
      go_roundw
      case rel => exact ⟨k + 1, by omega, by go_num, hb.trans (hbx.mono hz)⟩
      case measure => simp [intOf]; omega
    · have hk' : k = ts.length := by omega
      subst hk'
      go_wp2
      go_ret
      exact .mk_ hb
set_option maxRecDepth 100000 in
set_option maxHeartbeats 8000000 in
theorem eqCoordinator_is (v v' : Value) (q : Crd) (w : World) (h : Crdd w w.heap.size v q) (h' : Crdd w w.heap.size v' q) (hf : FitC q) :
    Calls Tryz.prog 22 #[v, v'] w (Ret (.bool true) w) := by
  have f1 := hf.ts
  have f2 := hf.os
  obtain ⟨A, c, A2, c2, rfl, hT, hc, hO, hc2⟩ := h
  obtain ⟨A', c', A2', c2', rfl, hT', hc', hO', hc2'⟩ := h'
  unfold crV
  have al := ((Below.refl w.heap.size w).alloc (Nat.le_refl _) (.cells #[.slice A q.ts.length c, .slice A2 q.os.length c2] 26)).alloc (by simp) (.cells #[.slice A' q.ts.length c', .slice A2' q.os.length c2'] 26)
  have x0 := (Blk2s.new_ w 26 (.slice A q.ts.length c) (.slice A2 q.os.length c2)).alloc (.cells #[.slice A' q.ts.length c', .slice A2' q.os.length c2'] 26)
  have x1 := Blk2s.new_ (w.alloc (.cells #[.slice A q.ts.length c, .slice A2 q.os.length c2] 26)) 26 (.slice A' q.ts.length c') (.slice A2' q.os.length c2')
  rw [World.size_alloc] at x1
  go_enter Tryz.func22, Tryz.ntmps22
  go_upto_region 1 with fail
  obtain ⟨w1, hw1⟩ : ∃ w1, (w.alloc (.cells #[.slice A q.ts.length c, .slice A2 q.os.length c2] 26)).alloc (.cells #[.slice A' q.ts.length c', .slice A2' q.os.length c2'] 26) = w1 := ⟨_, rfl⟩
  rw [hw1] at al x0 x1 ⊢
  clear hw1
  have CT := hid (eqTxnS_is A A' c c' q.ts w1 (hT.on al) (hT'.on al) f1 hf.ps hf.us)
  obtain ⟨y0, y1, -⟩ := id x0.reads
  obtain ⟨z0, z1, -⟩ := id x1.reads
  go_wp2_with fail
  refine CT.out.mono ?_
  rintro e w2 ⟨rfl, d⟩
  replace al := al.trans (d.mono al.size)
  replace x0 := x0.later d
  replace x1 := x1.later d
  clear CT y0 y1 z0 z1 d
  have CO := hid (eqIntS_ret A2 A2' c2 c2' q.os w2 _ _ (hO.below al (Nat.le_refl _)) (hO'.below al (Nat.le_refl _)) (by unfold maxLen; omega))
  obtain ⟨y0, y1, -⟩ := id x0.reads
  obtain ⟨z0, z1, -⟩ := id x1.reads
  go_wp2_with fail
  refine CO.out.mono ?_
  rintro e w3 ⟨rfl, d⟩
  replace al := al.trans (d.mono al.size)
  go_wp2
  go_ret
  exact .mk_ al
end Go.Proofs.YteaibflloeipaaaGreatDoor
namespace Go.Proofs.YteaibflloeipaaaGreatDoor
open Go.RowKit Wo Pu Rf Co
set_option linter.unusedVariables false
set_option linter.unusedSimpArgs false

theorem OwnPs.len_ {col : Nat → Nat} {c l cc B : Nat} {w : World} {A : Option Addr} {ps : List Part} (h : OwnPs col c w B (.slice A l cc) ps) : l = ps.length := by
  obtain ⟨A', c', e, -, -⟩ := h.form
  injection e
theorem OwnTxs.len_ {col : Nat → Nat} {l cc B : Nat} {w : World} {A : Option Addr} {ts : List Tx} (h : OwnTxs col w B (.slice A l cc) ts) : l = ts.length := by
  obtain ⟨A', c', e, -, -⟩ := h.form
  injection e
/-! ### Lists as they are made. -/
def zP : Part := ⟨0, []⟩
def zT : Tx := ⟨[], [], 0⟩
theorem made_at (zs : Array Value) (n j d : Nat) (hj : j < n) (hd : d < zs.size) : (madeCells zs (n * zs.size)).toList[j * zs.size + d]? = some zs[d] := by
  have h : j * zs.size + d < n * zs.size := by
    have := Nat.mul_le_mul_right zs.size (show j + 1 ≤ n from hj)
    rw [Nat.add_mul, Nat.one_mul] at this
    omega
  unfold madeCells
  simp only [Array.toList_map, Array.toList_range, List.getElem?_map]
  rw [List.getElem?_range h]
  simp only [Option.map_some]
  rw [Nat.mul_comm, Nat.mul_add_mod, Nat.mod_eq_of_lt hd]
  simp [hd]
theorem made_parts {w : World} {B g n : Nat} (h : w.ownsRow B 40 2 (.slice (some ⟨g, 0, none⟩) n n) n (madeCells (Value.agg #[.int .i64 0, .slice none 0 0]).cells (n * 2)).toList) :
    OwnPs (fun _ => 0) 0 w B (.slice (some ⟨g, 0, none⟩) n n) (List.replicate n zP) := by
  have hl : (List.replicate n zP).length = n := List.length_replicate
  refine ⟨_, by rw [hl]; exact h, fun j hj => ?_, fun i j v u hi hj hij hv hu => ?_, fun _ _ _ _ _ _ => rfl, fun _ _ => rfl⟩
  · have hj' : j < n := by rw [hl] at hj; exact hj
    have e0 := made_at (Value.agg #[.int .i64 0, .slice none 0 0]).cells n j 0 hj' (by decide)
    have e1 := made_at (Value.agg #[.int .i64 0, .slice none 0 0]).cells n j 1 hj' (by decide)
    rw [List.getElem_replicate]
    exact ⟨none, 0, e0, e1, Nat.le_refl _, ⟨rfl, .inl ⟨rfl, rfl⟩⟩⟩
  · have hi' : i < n := by rw [hl] at hi; exact hi
    have e1 := made_at (Value.agg #[.int .i64 0, .slice none 0 0]).cells n i 1 hi' (by decide)
    have e2 : v = .slice none 0 0 := by
      have := hv.symm.trans e1
      injection this
    subst e2
    intro g hg
    cases hg
theorem made_txs {w : World} {B g n : Nat} (h : w.ownsRow B 33 3 (.slice (some ⟨g, 0, none⟩) n n) n (madeCells (Value.agg #[.slice none 0 0, .slice none 0 0, .int .i64 0]).cells (n * 3)).toList) :
    OwnTxs (fun _ => 1) w B (.slice (some ⟨g, 0, none⟩) n n) (List.replicate n zT) := by
  have hl : (List.replicate n zT).length = n := List.length_replicate
  refine ⟨_, by rw [hl]; exact h, fun j hj => ?_, fun _ _ => rfl⟩
  have hj' : j < n := by rw [hl] at hj; exact hj
  have e0 := made_at (Value.agg #[.slice none 0 0, .slice none 0 0, .int .i64 0]).cells n j 0 hj' (by decide)
  have e1 := made_at (Value.agg #[.slice none 0 0, .slice none 0 0, .int .i64 0]).cells n j 1 hj' (by decide)
  have e2 := made_at (Value.agg #[.slice none 0 0, .slice none 0 0, .int .i64 0]).cells n j 2 hj' (by decide)
  rw [List.getElem_replicate]
  exact ⟨.slice none 0 0, .slice none 0 0, e0, e1, e2, ⟨[], ⟨rfl, .inl ⟨rfl, rfl⟩⟩, (fun j hj => absurd hj (by simp [zT])), (fun i _ _ _ hi => absurd hi (by simp [zT])), (fun i _ hi => absurd hi (by simp [zT])), fun g hg => by cases hg⟩, ⟨rfl, .inl ⟨rfl, rfl⟩⟩, fun g hg => by cases hg⟩
/-- Part n is another one, whose updates are new. -/
theorem OwnPs.put {w3 w4 : World} {B g l c c' n : Nat} {A : Option Addr} {ps : List Part} {p : Part} (h : OwnPs (fun _ => 0) 0 w3 B (.slice (some ⟨g, 0, none⟩) l c) ps) (hn : n < ps.length) (d : Below w3.heap.size w3 w4) (hB : B ≤ w3.heap.size) (hu : OwnUps w4 w3.heap.size (.slice A p.us.length c') p.us) (hc : p.us.length ≤ c') :
    (∃ v, w4.cell? ⟨g, n * 2, none⟩ = some v) ∧ (∃ v, w4.cell? ⟨g, n * 2 + 1, none⟩ = some v) ∧ (∀ o, w4.frozen? ⟨g, o, none⟩ = false) ∧ B ≤ g ∧
      OwnPs (fun _ => 0) 0 ((w4.setCell ⟨g, n * 2, none⟩ (.int .i64 p.s)).setCell ⟨g, n * 2 + 1, none⟩ (.slice A p.us.length c')) B (.slice (some ⟨g, 0, none⟩) l c) (ps.set n p) := by
  obtain rfl := h.len_
  obtain ⟨xs, h1, h2, h3, h4, h5⟩ := h
  have hl : xs.length = ps.length * 2 := h1.1
  have hrow := own_below h1 d (Nat.le_refl _)
  have s1 := (World.ownsRow.stored hrow (n * 2) (.int .i64 p.s)).1
  have s2 := (World.ownsRow.stored s1 (n * 2 + 1) (.slice A p.us.length c')).1
  have keep : ∀ {u : Value} {us : List Up}, OwnUps w4 B u us → OwnUps ((w4.setCell ⟨g, n * 2, none⟩ (.int .i64 p.s)).setCell ⟨g, n * 2 + 1, none⟩ (.slice A p.us.length c')) B u us := fun h =>
    row_far_type (row_far_type h (by decide) (but_set _ g _ _) (row_typed hrow)) (by decide) (but_set _ g _ _) (row_typed s1)
  have t : ∀ j e, j < ps.length → e < 2 → j ≠ n → ((xs.set (n * 2) (.int .i64 p.s)).set (n * 2 + 1) (.slice A p.us.length c'))[j * 2 + e]? = xs[j * 2 + e]? := fun j e hj he hne => by
    rw [List.getElem?_set_ne (by omega), List.getElem?_set_ne (by omega)]
  have tn : ((xs.set (n * 2) (.int .i64 p.s)).set (n * 2 + 1) (.slice A p.us.length c'))[n * 2 + 1]? = some (.slice A p.us.length c') := by
    rw [List.getElem?_set_self (by simp; omega)]
  have low : ∀ j v, j < ps.length → xs[j * 2 + 1]? = some v → Ap2P v (.slice A p.us.length c') := fun j v hj hv q q1 q2 => by
    obtain ⟨A', c2, r0, r1, r2, r3⟩ := h2 j hj
    rw [r1] at hv
    injection hv with hv
    subst hv
    have := (World.ownsRow.lt r3 q q1).2
    have := hu.lt q q2
    omega
  refine ⟨⟨_, (World.ownsRow.cellAt hrow _ (by omega)).trans (List.getElem?_eq_getElem (by omega))⟩, ⟨_, (World.ownsRow.cellAt hrow _ (by omega)).trans (List.getElem?_eq_getElem (by omega))⟩, fun o => World.ownsRow.frozenAt hrow o, (World.ownsRow.lt h1 g rfl).1, _, by rw [List.length_set]; exact s2, fun j hj => ?_, fun i j v u hi hj hij hv hu' => ?_, fun _ _ _ _ _ _ => rfl, fun _ _ => rfl⟩
  · have hj' : j < ps.length := by rw [List.length_set] at hj; exact hj
    rw [List.getElem_set]
    by_cases e : n = j
    · subst e
      rw [if_pos rfl]
      refine ⟨A, c', ?_, tn, hc, keep (hu.base hB)⟩
      rw [List.getElem?_set_ne (by omega), List.getElem?_set_self (by omega)]
    · rw [if_neg e]
      obtain ⟨A', c2, r0, r1, r2, r3⟩ := h2 j hj'
      exact ⟨A', c2, by have := t j 0 hj' (by omega) (fun q => e q.symm); simp only [Nat.add_zero] at this; rw [this]; exact r0, by rw [t j 1 hj' (by omega) (fun q => e q.symm)]; exact r1, r2, keep (r3.below d)⟩
  · rw [List.length_set] at hi hj
    by_cases ei : i = n
    · subst ei
      rw [tn] at hv
      injection hv with hv
      subst hv
      rw [t j 1 hj (by omega) (fun q => hij q.symm)] at hu'
      exact (low j u hj hu').symm
    · rw [t i 1 hi (by omega) ei] at hv
      by_cases ej : j = n
      · subst ej
        rw [tn] at hu'
        injection hu' with hu'
        subst hu'
        exact low i v hi hv
      · rw [t j 1 hj (by omega) ej] at hu'
        exact h3 i j v u hi hj hij hv hu'

/-! ### Copies. -/
def NewPart (p : Part) (w : World) (e : Ending) (w' : World) : Prop := ∃ g, e = .returned (.agg #[.int .i64 p.s, .slice (some ⟨g, 0, none⟩) p.us.length p.us.length]) ∧ OwnUps w' w.heap.size (.slice (some ⟨g, 0, none⟩) p.us.length p.us.length) p.us ∧ Below w.heap.size w w'
set_option maxHeartbeats 4000000 in
theorem toPart_any (A : Option Addr) (c : Nat) (p : Part) (w : World) (h : Row w w.heap.size A (upsV p.us)) (hn : p.us.length ≤ 1048576) :
    Calls Tryz.prog 142 #[.agg #[.int .i64 p.s, .slice A p.us.length c]] w (NewPart p w) := by
  have b1 := (Below.refl w.heap.size w).alloc (Nat.le_refl _) (.cells #[.int .i64 p.s, .slice A p.us.length c] 207)
  have b2 := b1.alloc (by simp) (.cells #[.int .i64 0, .slice none 0 0] 40)
  have b3 := b2.alloc (by simp; omega) (.cells #[.int .i64 p.s, .slice none 0 0] 40)
  have R3 := (Blk2s.new_ (w.alloc (.cells #[.int .i64 p.s, .slice A p.us.length c] 207)) 40 (.int .i64 0) (.slice none 0 0)).alloc (.cells #[.int .i64 p.s, .slice none 0 0] 40)
  have O3 := Blk2s.new_ ((w.alloc (.cells #[.int .i64 p.s, .slice A p.us.length c] 207)).alloc (.cells #[.int .i64 0, .slice none 0 0] 40)) 40 (.int .i64 p.s) (.slice none 0 0)
  simp only [World.size_alloc] at R3 O3
  clear b1 b2
  go_enter Tryz.func142, Tryz.ntmps142
  go_wp2_with fail
  refine (toUpdateS_any A c p.us _ ((h.below b3 (Nat.le_refl _)).more b3.size) hn).mono ?_
  rintro e w4 ⟨g1, rfl, m4, hb4⟩
  have b4 := b3.trans (hb4.mono b3.size)
  have R4 := R3.later hb4
  have O4 := O3.later hb4
  have m5 : OwnUps w4 w.heap.size (.slice (some ⟨g1, 0, none⟩) p.us.length p.us.length) p.us := (show OwnUps w4 _ _ _ from m4).base b3.size
  clear R3 O3 b3 hb4 m4
  obtain ⟨o0, o1, of⟩ := id O4.reads
  obtain ⟨r0, r1, rf⟩ := id R4.reads
  have of1 := of 1
  have rf0 := rf 0
  have rf1 := rf 1
  clear of rf
  go_wp2_with fail
  have R5 := R4.far (p := ⟨w.heap.size + 1 + 1, 1, none⟩) (by simp) (.slice (some ⟨g1, 0, none⟩) p.us.length p.us.length)
  have T9 := (R5.set0 (.int .i64 p.s)).set1 (.slice (some ⟨g1, 0, none⟩) p.us.length p.us.length)
  obtain ⟨t0, t1, -⟩ := T9.reads
  have q1 := row_far_type m5 (by decide) (but_set w4 (w.heap.size + 1 + 1) 1 (.slice (some ⟨g1, 0, none⟩) p.us.length p.us.length)) (blk_type O4)
  have q2 := row_far_type q1 (by decide) (but_set _ (w.heap.size + 1) 0 (.int .i64 p.s)) (blk_type R5)
  have q3 := row_far_type q2 (by decide) (but_set _ (w.heap.size + 1) 1 (.slice (some ⟨g1, 0, none⟩) p.us.length p.us.length)) (blk_type (R5.set0 _))
  have b9 := ((b4.setCell (p := ⟨w.heap.size + 1 + 1, 1, none⟩) (by show w.heap.size ≤ w.heap.size + 1 + 1; omega) (.slice (some ⟨g1, 0, none⟩) p.us.length p.us.length)).setCell (p := ⟨w.heap.size + 1, 0, none⟩) (Nat.le_succ _) (.int .i64 p.s)).setCell (p := ⟨w.heap.size + 1, 1, none⟩) (Nat.le_succ _) (.slice (some ⟨g1, 0, none⟩) p.us.length p.us.length)
  exact bodyPost_ret (v := .agg #[.int .i64 p.s, .slice (some ⟨g1, 0, none⟩) p.us.length p.us.length]) (by simp [results, Tryz.results142, go_sem, t0, t1]) rfl ⟨g1, rfl, q3, b9⟩
set_option maxHeartbeats 4000000 in
theorem toPartS_any (A : Option Addr) (c : Nat) (ps : List Part) (w : World) (h : Parts w w.heap.size A ps) (hn : ps.length ≤ 1048576) (hs : ∀ p ∈ ps, p.us.length ≤ 1048576) :
    Calls Tryz.prog 117 #[.slice A ps.length c] w (NewPs ps w) := by
  obtain ⟨i0, hi, hz0, hz1, hz2⟩ := info_of info_part
  go_enter Tryz.func117, Tryz.ntmps117
  go_wp2_with (at_make; go_must (refine wpList_make_full _ rfl (.tmp 6) (.tmp 6) 31 rfl w.heap.size 40 i0 (.agg #[.int .i64 0, .slice none 0 0]) 2 Tryz.underlying31 hi hz0 hz1 .i64 .i64 ps.length ps.length ps.length rfl rfl rfl rfl (by rw [hz2]; omega) (by unfold maxLen; omega) (Nat.le_refl _) ?_); intro w1 hown hg)
  have hb1 : Below w.heap.size w w1 := (Below.refl _ _).grown hg (Nat.le_refl _) (by simp)
  have f1 : OwnPs (fun _ => 0) 0 w1 w.heap.size (.slice (some ⟨w.heap.size, 0, none⟩) ps.length ps.length) (mixL ps (List.replicate ps.length zP) 0) := by rw [mixL_zero]; exact made_parts hown
  have HL : Hid (ps.length = (List.replicate ps.length zP).length) := by show _ = _; rw [List.length_replicate]
  clear hown hg
  go_loopw [4] (fun i wr => ∃ k : Nat, k ≤ ps.length ∧ i = .int .i64 k ∧ OwnPs (fun _ => 0) 0 wr w.heap.size (.slice (some ⟨w.heap.size, 0, none⟩) ps.length ps.length) (mixL ps (List.replicate ps.length zP) k) ∧ Below w.heap.size w wr) (fun i _ => ps.length - (intOf i).toNat)
  case atStart => exact ⟨0, Nat.zero_le _, rfl, f1, hb1⟩
  case round =>
    clear f1 hb1
    obtain ⟨k, hk, rfl, hf, hb⟩ := hrel
    by_cases hlt : k < ps.length
    · obtain ⟨p, ad, A', c', hre, rfl, ha, g0, g1, -, g4⟩ := (h.on hb).part hlt
      have hsk := hs p (by rw [← hre]; exact List.getElem_mem hlt)
      have k0 : 0 ≤ (k : Int) := by omega
      have k1 : (k : Int) < (ps.length : Int) := by omega
      have HMS : Hid ((mixL ps (List.replicate ps.length zP) k).set k p = mixL ps (List.replicate ps.length zP) (k + 1)) := by
        have := mixL_set (m := k) HL.out (by rw [List.length_replicate]; exact hlt)
        rw [hre] at this
        exact this
      have HML : Hid (k < (mixL ps (List.replicate ps.length zP) k).length) := by
        show _ < _
        rw [mixL_len HL.out, List.length_replicate]
        exact hlt
      clear hre
      go_wp2_with fail
      refine (toPart_any A' c' p wr g4 hsk).mono ?_
      rintro e w2 ⟨g', rfl, o2, d2⟩
      have hb2 := hb.trans (d2.mono hb.size)
      obtain ⟨⟨u0, c0⟩, ⟨u1, c1⟩, cf, hBg, hst⟩ := hf.put HML.out d2 hb.size o2 (Nat.le_refl _)
      rw [HMS.out] at hst
      have cf0 := cf (k * 2)
      have cf1 := cf (k * 2 + 1)
      have HST := hid hst
      clear hf o2 d2 cf g0 g1 g4 hst
      go_wp2_with fail
      go_roundw
      case rel => exact ⟨k + 1, by omega, by go_num, HST.out, (hb2.setCell (Nat.le_refl _) _).setCell (Nat.le_refl _) _⟩
      case measure => simp [intOf]; omega
    · have hk' : k = ps.length := by omega
      subst hk'
      have e : mixL ps (List.replicate ps.length zP) ps.length = ps := by
        have := mixL_done HL.out
        rwa [List.length_replicate] at this
      rw [e] at hf
      go_wp2
      go_ret
      exact ⟨_, rfl, hf, hb⟩
set_option maxHeartbeats 4000000 in
theorem toTxn_any (A : Option Addr) (c : Nat) (A2 : Option Addr) (c2 : Nat) (t : Tx) (w : World) (h : Parts w w.heap.size A t.ps) (hv : Row w w.heap.size A2 (ints t.vs)) (hn : t.ps.length ≤ 1048576) (hs : ∀ p ∈ t.ps, p.us.length ≤ 1048576) (hm : t.vs.length ≤ 1048576) :
    Calls Tryz.prog 91 #[.agg #[.slice A t.ps.length c, .slice A2 t.vs.length c2, .int .i64 t.d]] w (NewTx t w) := by
  have b1 := (Below.refl w.heap.size w).alloc (Nat.le_refl _) (.cells #[.slice A t.ps.length c, .slice A2 t.vs.length c2, .int .i64 t.d] 152)
  have b2 := b1.alloc (by simp) (.cells #[.slice none 0 0, .slice none 0 0, .int .i64 0] 33)
  have b3 := b2.alloc (by simp; omega) (.cells #[.slice none 0 0, .slice none 0 0, .int .i64 0] 33)
  have X3 := ((Blk3s.new_ w 152 (.slice A t.ps.length c) (.slice A2 t.vs.length c2) (.int .i64 t.d)).alloc (.cells #[.slice none 0 0, .slice none 0 0, .int .i64 0] 33)).alloc (.cells #[.slice none 0 0, .slice none 0 0, .int .i64 0] 33)
  have R3 := (Blk3s.new_ (w.alloc (.cells #[.slice A t.ps.length c, .slice A2 t.vs.length c2, .int .i64 t.d] 152)) 33 (.slice none 0 0) (.slice none 0 0) (.int .i64 0)).alloc (.cells #[.slice none 0 0, .slice none 0 0, .int .i64 0] 33)
  have O3 := Blk3s.new_ ((w.alloc (.cells #[.slice A t.ps.length c, .slice A2 t.vs.length c2, .int .i64 t.d] 152)).alloc (.cells #[.slice none 0 0, .slice none 0 0, .int .i64 0] 33)) 33 (.slice none 0 0) (.slice none 0 0) (.int .i64 0)
  simp only [World.size_alloc] at R3 O3
  clear b1 b2
  go_enter Tryz.func91, Tryz.ntmps91
  go_wp2_with fail
  refine (toPartS_any A c t.ps _ (h.on b3) hn hs).mono ?_
  rintro e w4 ⟨v1, rfl, m4, hb4⟩
  obtain ⟨A1, c1, rfl, -, -⟩ := m4.form
  have b4 := b3.trans (hb4.mono b3.size)
  have R4 := R3.later hb4
  have O4 := O3.later hb4
  have X4 := X3.later hb4
  have m5 := m4.base (B' := w.heap.size) b3.size
  obtain ⟨o0, o1, o2, of⟩ := id O4.reads
  obtain ⟨x0, x1, x2, -⟩ := id X4.reads
  have of0 := of 0
  have O5 := O4.set0 (.slice A1 t.ps.length c1)
  have R5 := R4.far (p := ⟨w.heap.size + 1 + 1, 0, none⟩) (by simp) (.slice A1 t.ps.length c1)
  have X5 := X4.far (p := ⟨w.heap.size + 1 + 1, 0, none⟩) (by simp; omega) (.slice A1 t.ps.length c1)
  have m6 := m5.keptT (by decide) (by decide) (by decide) (but_set w4 (w.heap.size + 1 + 1) 0 (.slice A1 t.ps.length c1)) (blk_type O4)
  have b5 := b4.setCell (p := ⟨w.heap.size + 1 + 1, 0, none⟩) (by show w.heap.size ≤ w.heap.size + 1 + 1; omega) (.slice A1 t.ps.length c1)
  clear R3 O3 X3 b3 hb4 m4 of
  go_wp2_with fail
  obtain ⟨w5, hw5⟩ : ∃ x, w4.setCell ⟨w.heap.size + 1 + 1, 0, none⟩ (.slice A1 t.ps.length c1) = x := ⟨_, rfl⟩
  rw [hw5] at O5 R5 X5 m6 b5 ⊢
  clear hw5 o0 o1 o2 of0 x0 x1 x2 O4 R4 X4 m5 b4
  refine (toIntS_any w.heap.size A2 c2 t.vs w5 (hv.below b5 (Nat.le_refl _)) b5.size hm).mono ?_
  rintro e w6 ⟨g2, rfl, m7, d6⟩
  have b6 := b5.trans (d6.mono b5.size)
  have R6 := R5.later d6
  have O6 := O5.later d6
  have X6 := X5.later d6
  have m8 := m6.below d6
  have i8 : OwnI w6 w.heap.size (.slice (some ⟨g2, 0, none⟩) t.vs.length t.vs.length) t.vs := OwnI.base (show OwnI w6 w5.heap.size _ _ from m7) b5.size
  obtain ⟨o0, o1, o2, of⟩ := id O6.reads
  obtain ⟨x0, x1, x2, -⟩ := id X6.reads
  obtain ⟨r0, r1, r2, rf⟩ := id R6.reads
  have of1 := of 1
  have of2 := of 2
  have rf0 := rf 0
  have rf1 := rf 1
  have rf2 := rf 2
  clear of rf R5 O5 X5 m6 b5 m7 d6
  go_wp2_with fail
  have O7 := O6.set1 (.slice (some ⟨g2, 0, none⟩) t.vs.length t.vs.length)
  have R7 := (R6.far (p := ⟨w.heap.size + 1 + 1, 1, none⟩) (by simp) (.slice (some ⟨g2, 0, none⟩) t.vs.length t.vs.length)).far (p := ⟨w.heap.size + 1 + 1, 2, none⟩) (by simp) (.int .i64 t.d)
  have R8 := R7.set0 (.slice A1 t.ps.length c1)
  have R9 := R8.set1 (.slice (some ⟨g2, 0, none⟩) t.vs.length t.vs.length)
  obtain ⟨t0, t1, t2, -⟩ := (R9.set2 (.int .i64 t.d)).reads
  have q1 := m8.keptT (by decide) (by decide) (by decide) (but_set w6 (w.heap.size + 1 + 1) 1 (.slice (some ⟨g2, 0, none⟩) t.vs.length t.vs.length)) (blk_type O6)
  have q2 := q1.keptT (by decide) (by decide) (by decide) (but_set _ (w.heap.size + 1 + 1) 2 (.int .i64 t.d)) (blk_type O7)
  have q3 := q2.keptT (by decide) (by decide) (by decide) (but_set _ (w.heap.size + 1) 0 (.slice A1 t.ps.length c1)) (blk_type R7)
  have q4 := q3.keptT (by decide) (by decide) (by decide) (but_set _ (w.heap.size + 1) 1 (.slice (some ⟨g2, 0, none⟩) t.vs.length t.vs.length)) (blk_type R8)
  have q5 := q4.keptT (by decide) (by decide) (by decide) (but_set _ (w.heap.size + 1) 2 (.int .i64 t.d)) (blk_type R9)
  have j1 := row_far_type i8 (by decide) (but_set w6 (w.heap.size + 1 + 1) 1 (.slice (some ⟨g2, 0, none⟩) t.vs.length t.vs.length)) (blk_type O6)
  have j2 := row_far_type j1 (by decide) (but_set _ (w.heap.size + 1 + 1) 2 (.int .i64 t.d)) (blk_type O7)
  have j3 := row_far_type j2 (by decide) (but_set _ (w.heap.size + 1) 0 (.slice A1 t.ps.length c1)) (blk_type R7)
  have j4 := row_far_type j3 (by decide) (but_set _ (w.heap.size + 1) 1 (.slice (some ⟨g2, 0, none⟩) t.vs.length t.vs.length)) (blk_type R8)
  have j5 := row_far_type j4 (by decide) (but_set _ (w.heap.size + 1) 2 (.int .i64 t.d)) (blk_type R9)
  have b9 := ((((b6.setCell (p := ⟨w.heap.size + 1 + 1, 1, none⟩) (by show w.heap.size ≤ w.heap.size + 1 + 1; omega) (.slice (some ⟨g2, 0, none⟩) t.vs.length t.vs.length)).setCell (p := ⟨w.heap.size + 1 + 1, 2, none⟩) (by show w.heap.size ≤ w.heap.size + 1 + 1; omega) (.int .i64 t.d)).setCell (p := ⟨w.heap.size + 1, 0, none⟩) (Nat.le_succ _) (.slice A1 t.ps.length c1)).setCell (p := ⟨w.heap.size + 1, 1, none⟩) (Nat.le_succ _) (.slice (some ⟨g2, 0, none⟩) t.vs.length t.vs.length)).setCell (p := ⟨w.heap.size + 1, 2, none⟩) (Nat.le_succ _) (.int .i64 t.d)
  exact bodyPost_ret (v := .agg #[.slice A1 t.ps.length c1, .slice (some ⟨g2, 0, none⟩) t.vs.length t.vs.length, .int .i64 t.d]) (by simp [results, Tryz.results91, go_sem, t0, t1, t2]) rfl ⟨_, _, rfl, ⟨q5, j5, fun _ _ => rfl⟩, b9⟩
set_option maxHeartbeats 4000000 in
theorem toTxnS_any (A : Option Addr) (c : Nat) (ts : List Tx) (w : World) (h : Txs w w.heap.size A ts) (hn : ts.length ≤ 1048576) (hps : ∀ t ∈ ts, t.ps.length ≤ 1048576 ∧ t.vs.length ≤ 1048576) (hus : ∀ t ∈ ts, ∀ p ∈ t.ps, p.us.length ≤ 1048576) :
    Calls Tryz.prog 49 #[.slice A ts.length c] w (fun e w' => ∃ v col, e = .returned v ∧ OwnTxs col w' w.heap.size v ts ∧ Below w.heap.size w w') := by
  obtain ⟨i0, hi, hz0, hz1, hz2⟩ := info_of info_txn
  go_enter Tryz.func49, Tryz.ntmps49
  go_wp2_with (at_make; go_must (refine wpList_make_full _ rfl (.tmp 6) (.tmp 6) 23 rfl w.heap.size 33 i0 (.agg #[.slice none 0 0, .slice none 0 0, .int .i64 0]) 3 Tryz.underlying23 hi hz0 hz1 .i64 .i64 ts.length ts.length ts.length rfl rfl rfl rfl (by rw [hz2]; omega) (by unfold maxLen; omega) (Nat.le_refl _) ?_); intro w1 hown hg)
  have hb1 : Below w.heap.size w w1 := (Below.refl _ _).grown hg (Nat.le_refl _) (by simp)
  have f1 : OwnTxs (fun _ => 1) w1 w.heap.size (.slice (some ⟨w.heap.size, 0, none⟩) ts.length ts.length) (mixL ts (List.replicate ts.length zT) 0) := by rw [mixL_zero]; exact made_txs hown
  have HL : Hid (ts.length = (List.replicate ts.length zT).length) := by show _ = _; rw [List.length_replicate]
  clear hown hg
  go_loopw [4] (fun i wr => ∃ (k : Nat) (col : Nat → Nat), k ≤ ts.length ∧ i = .int .i64 k ∧ OwnTxs col wr w.heap.size (.slice (some ⟨w.heap.size, 0, none⟩) ts.length ts.length) (mixL ts (List.replicate ts.length zT) k) ∧ Below w.heap.size w wr) (fun i _ => ts.length - (intOf i).toNat)
  case atStart => exact ⟨0, _, Nat.zero_le _, rfl, f1, hb1⟩
  case round =>
    clear f1 hb1
    obtain ⟨k, col, hk, rfl, hf, hb⟩ := hrel
    by_cases hlt : k < ts.length
    · obtain ⟨t, ad, A1, c1, B1, e1, hre, rfl, ha, g0, g1, g2, -, -, g5, g6⟩ := (h.on hb).tx hlt
      have hps' := hps t (by rw [← hre]; exact List.getElem_mem hlt)
      have hus' := hus t (by rw [← hre]; exact List.getElem_mem hlt)
      have k0 : 0 ≤ (k : Int) := by omega
      have k1 : (k : Int) < (ts.length : Int) := by omega
      have HMS : Hid ((mixL ts (List.replicate ts.length zT) k).set k t = mixL ts (List.replicate ts.length zT) (k + 1)) := by
        have := mixL_set (m := k) HL.out (by rw [List.length_replicate]; exact hlt)
        rw [hre] at this
        exact this
      have hll : (mixL ts (List.replicate ts.length zT) k).length = ts.length := by rw [mixL_len HL.out, List.length_replicate]
      have HLL := hid hll
      clear hre hll
      go_wp2_with fail
      refine (toTxn_any A1 c1 B1 e1 t wr g5 g6 hps'.1 hus' hps'.2).mono ?_
      rintro e w2 ⟨a, b, rfl, o2, d2⟩
      have hb2 := hb.trans (d2.mono hb.size)
      have hf' : OwnTxs col wr w.heap.size (.slice (some ⟨w.heap.size, 0, none⟩) (mixL ts (List.replicate ts.length zT) k).length ts.length) (mixL ts (List.replicate ts.length zT) k) := by rw [HLL.out]; exact hf
      obtain ⟨⟨a0, b0, c0, c1, c2⟩, cf, hst⟩ := hf'.put (n := k) (by rw [HLL.out]; exact hlt) d2 hb.size o2
      rw [HMS.out, HLL.out] at hst
      have cf0 := cf (k * 3)
      have cf1 := cf (k * 3 + 1)
      have cf2 := cf (k * 3 + 2)
      obtain ⟨u2, cu2⟩ : ∃ u, w2.cell? ⟨w.heap.size, k * 3 + 2, none⟩ = some u := ⟨_, c2⟩
      have HST := hid hst
      obtain ⟨Aa, ca, Ab, cb, rfl, rfl, -⟩ := o2.form
      clear hf hf' o2 d2 cf g0 g1 g2 g5 g6 hst c2
      go_wp2_with fail
      go_roundw
      case rel => exact ⟨k + 1, _, by omega, by go_num, HST.out, ((hb2.setCell (Nat.le_refl _) _).setCell (Nat.le_refl _) _).setCell (Nat.le_refl _) _⟩
      case measure => simp [intOf]; omega
    · have hk' : k = ts.length := by omega
      subst hk'
      have e : mixL ts (List.replicate ts.length zT) ts.length = ts := by
        have := mixL_done HL.out
        rwa [List.length_replicate] at this
      rw [e] at hf
      go_wp2
      go_ret
      exact ⟨_, col, rfl, hf, hb⟩
set_option maxHeartbeats 4000000 in
theorem toCoordinator_any (v : Value) (q : Crd) (w : World) (h : Crdd w w.heap.size v q) (hf : FitC q) :
    Calls Tryz.prog 20 #[v] w (NewCr q w) := by
  obtain ⟨A, c, A2, c2, rfl, hT, hc, hO, hc2⟩ := h
  have f2 := hf.os
  unfold crV
  have b3 := (((Below.refl w.heap.size w).alloc (Nat.le_refl _) (.cells #[.slice A q.ts.length c, .slice A2 q.os.length c2] 51)).alloc (by simp) (.cells #[.slice none 0 0, .slice none 0 0] 26)).alloc (by simp; omega) (.cells #[.slice none 0 0, .slice none 0 0] 26)
  have X3 := ((Blk2s.new_ w 51 (.slice A q.ts.length c) (.slice A2 q.os.length c2)).alloc (.cells #[.slice none 0 0, .slice none 0 0] 26)).alloc (.cells #[.slice none 0 0, .slice none 0 0] 26)
  have R3 := (Blk2s.new_ (w.alloc (.cells #[.slice A q.ts.length c, .slice A2 q.os.length c2] 51)) 26 (.slice none 0 0) (.slice none 0 0)).alloc (.cells #[.slice none 0 0, .slice none 0 0] 26)
  have O3 := Blk2s.new_ ((w.alloc (.cells #[.slice A q.ts.length c, .slice A2 q.os.length c2] 51)).alloc (.cells #[.slice none 0 0, .slice none 0 0] 26)) 26 (.slice none 0 0) (.slice none 0 0)
  simp only [World.size_alloc] at R3 O3
  go_enter Tryz.func20, Tryz.ntmps20
  go_wp2_with fail
  refine (toTxnS_any A c q.ts _ (hT.on b3) hf.ts hf.ps hf.us).mono ?_
  rintro e w4 ⟨v1, col, rfl, m4, hb4⟩
  obtain ⟨A1, c1, rfl, -, -⟩ := m4.form
  have b4 := b3.trans (hb4.mono b3.size)
  have R4 := R3.later hb4
  have O4 := O3.later hb4
  have X4 := X3.later hb4
  have m5 := m4.base (B' := w.heap.size) b3.size
  obtain ⟨o0, o1, of⟩ := id O4.reads
  obtain ⟨x0, x1, -⟩ := id X4.reads
  have of0 := of 0
  have O5 := O4.set0 (.slice A1 q.ts.length c1)
  have R5 := R4.far (p := ⟨w.heap.size + 1 + 1, 0, none⟩) (by simp) (.slice A1 q.ts.length c1)
  have X5 := X4.far (p := ⟨w.heap.size + 1 + 1, 0, none⟩) (by simp; omega) (.slice A1 q.ts.length c1)
  have m6 := m5.keptT (by decide) (by decide) (by decide) (by decide) (but_set w4 (w.heap.size + 1 + 1) 0 (.slice A1 q.ts.length c1)) (blk_type O4)
  have b5 := b4.setCell (p := ⟨w.heap.size + 1 + 1, 0, none⟩) (by show w.heap.size ≤ w.heap.size + 1 + 1; omega) (.slice A1 q.ts.length c1)
  clear R3 O3 X3 b3 hb4 m4 of
  go_wp2_with fail
  obtain ⟨w5, hw5⟩ : ∃ x, w4.setCell ⟨w.heap.size + 1 + 1, 0, none⟩ (.slice A1 q.ts.length c1) = x := ⟨_, rfl⟩
  rw [hw5] at O5 R5 X5 m6 b5 ⊢
  clear hw5 o0 o1 of0 x0 x1 O4 R4 X4 m5 b4
  refine (toIntS_any w.heap.size A2 c2 q.os w5 (hO.below b5 (Nat.le_refl _)) b5.size f2).mono ?_
  rintro e w6 ⟨g2, rfl, m7, d6⟩
  have b6 := b5.trans (d6.mono b5.size)
  have R6 := R5.later d6
  have O6 := O5.later d6
  have m8 := m6.below d6
  have i7 : OwnI w6 w5.heap.size (.slice (some ⟨g2, 0, none⟩) q.os.length q.os.length) q.os := m7
  have i8 : OwnI w6 w.heap.size (.slice (some ⟨g2, 0, none⟩) q.os.length q.os.length) q.os := OwnI.base i7 b5.size
  obtain ⟨o0, o1, of⟩ := id O6.reads
  obtain ⟨r0, r1, rf⟩ := id R6.reads
  have of1 := of 1
  have rf0 := rf 0
  have rf1 := rf 1
  have m9 : OwnTxs (tint w5 col 0) w6 w.heap.size (.slice A1 q.ts.length c1) q.ts := m6.map (fun _ _ _ _ _ _ _ hr hcv => ⟨own_below hr d6 (Nat.le_refl _), tint_old hr hcv⟩) fun _ _ _ _ hr hcv => ⟨own_below hr d6 (Nat.le_refl _), tint_old hr hcv⟩
  clear of rf R5 O5 X5 m7 d6
  go_wp2_with fail
  have R7 := R6.far (p := ⟨w.heap.size + 1 + 1, 1, none⟩) (by simp) (.slice (some ⟨g2, 0, none⟩) q.os.length q.os.length)
  have R8 := R7.set0 (.slice A1 q.ts.length c1)
  obtain ⟨t0, t1, -⟩ := (R8.set1 (.slice (some ⟨g2, 0, none⟩) q.os.length q.os.length)).reads
  have q1 := m9.keptT (by decide) (by decide) (by decide) (by decide) (but_set w6 (w.heap.size + 1 + 1) 1 (.slice (some ⟨g2, 0, none⟩) q.os.length q.os.length)) (blk_type O6)
  have q2 := q1.keptT (by decide) (by decide) (by decide) (by decide) (but_set _ (w.heap.size + 1) 0 (.slice A1 q.ts.length c1)) (blk_type R7)
  have q3 := q2.keptT (by decide) (by decide) (by decide) (by decide) (but_set _ (w.heap.size + 1) 1 (.slice (some ⟨g2, 0, none⟩) q.os.length q.os.length)) (blk_type R8)
  have j1 := row_far_type i8 (by decide) (but_set w6 (w.heap.size + 1 + 1) 1 (.slice (some ⟨g2, 0, none⟩) q.os.length q.os.length)) (blk_type O6)
  have j2 := row_far_type j1 (by decide) (but_set _ (w.heap.size + 1) 0 (.slice A1 q.ts.length c1)) (blk_type R7)
  have j3 := row_far_type j2 (by decide) (but_set _ (w.heap.size + 1) 1 (.slice (some ⟨g2, 0, none⟩) q.os.length q.os.length)) (blk_type R8)
  have b9 := ((b6.setCell (p := ⟨w.heap.size + 1 + 1, 1, none⟩) (by show w.heap.size ≤ w.heap.size + 1 + 1; omega) (.slice (some ⟨g2, 0, none⟩) q.os.length q.os.length)).setCell (p := ⟨w.heap.size + 1, 0, none⟩) (Nat.le_succ _) (.slice A1 q.ts.length c1)).setCell (p := ⟨w.heap.size + 1, 1, none⟩) (Nat.le_succ _) (.slice (some ⟨g2, 0, none⟩) q.os.length q.os.length)
  have hcol : ColV (tint w5 col 0) 0 (.slice (some ⟨g2, 0, none⟩) q.os.length q.os.length) := tint_new i7
  exact bodyPost_ret (v := .agg #[.slice A1 q.ts.length c1, .slice (some ⟨g2, 0, none⟩) q.os.length q.os.length]) (by simp [results, Tryz.results20, go_sem, t0, t1]) rfl ⟨_, _, rfl, ⟨_, _, rfl, q3, j3, hcol⟩, b9⟩
end Go.Proofs.YteaibflloeipaaaGreatDoor
namespace Go.Proofs.YteaibflloeipaaaGreatDoor
namespace Si
open Rf Lk Sh Co

/-- All shards of the transaction o have committed it. -/
def haveB (q : Crd) (ss : List (List Rec)) (o : Int) : Bool := match q.ts[o.toNat]? with
  | some t => t.ps.all fun p => match ss[p.s.toNat]? with
    | some rs => Sh.ask rs o == 2
    | none => false
  | none => false
/-- How many first transactions of the order are everywhere. -/
def readyN (q : Crd) (ss : List (List Rec)) : Nat := (q.os.takeWhile (haveB q ss)).length
theorem takeWhile_len {α : Type} (p : α → Bool) : ∀ (l : List α) (k : Nat), k ≤ l.length → (∀ j (hj : j < l.length), j < k → p l[j] = true) → (∀ h : k < l.length, p l[k] = false) → (l.takeWhile p).length = k
  | [], k, hk, _, _ => by simp at hk; simp [hk]
  | a :: l, 0, _, _, hn => by
    have := hn (by simp)
    simp only [List.getElem_cons_zero] at this
    simp [List.takeWhile_cons, this]
  | a :: l, k + 1, hk, h, hn => by
    have h0 := h 0 (by simp) (by omega)
    simp only [List.getElem_cons_zero] at h0
    have := takeWhile_len p l k (by simp at hk; omega) (fun j hj hl => by have := h (j + 1) (by simp; omega) (by omega); simpa using this) (fun hl => by have := hn (by simp; omega); simpa using this)
    simp [List.takeWhile_cons, h0, this]
theorem readyN_eq {q : Crd} {ss : List (List Rec)} {k : Nat} (hk : k ≤ q.os.length) (h : ∀ j (hj : j < q.os.length), j < k → haveB q ss q.os[j] = true) (hn : ∀ hk : k < q.os.length, haveB q ss q.os[k] = false) : readyN q ss = k := takeWhile_len _ q.os k hk h hn
theorem takeWhile_le {α : Type} (p : α → Bool) : ∀ (l : List α), (l.takeWhile p).length ≤ l.length ∧ (∀ j (hj : j < l.length), j < (l.takeWhile p).length → p l[j] = true) ∧ ∀ h : (l.takeWhile p).length < l.length, p l[(l.takeWhile p).length] = false
  | [] => ⟨Nat.le_refl _, fun j hj => absurd hj (by simp), fun h => absurd h (by simp)⟩
  | a :: l => by
    obtain ⟨h1, h2, h3⟩ := takeWhile_le p l
    by_cases ha : p a = true
    · have e : (a :: l).takeWhile p = a :: l.takeWhile p := by simp [List.takeWhile_cons, ha]
      refine ⟨by rw [e]; simp; exact h1, fun j hj hl => ?_, fun h => ?_⟩
      · rw [e] at hl
        rcases j with _ | j
        · simpa using ha
        · have := h2 j (by simpa using hj) (by simpa using hl)
          simpa using this
      · simp only [e, List.length_cons] at h ⊢
        have := h3 (by simpa using h)
        simpa using this
    · have e : (a :: l).takeWhile p = [] := by simp [List.takeWhile_cons, ha]
      refine ⟨by rw [e]; simp, fun j _ hl => by rw [e] at hl; simp at hl, fun h => ?_⟩
      simp only [e, List.length_nil, List.getElem_cons_zero]
      simpa using ha
theorem readyN_le (q : Crd) (ss : List (List Rec)) : readyN q ss ≤ q.os.length := (takeWhile_le _ q.os).1
theorem readyN_get {q : Crd} {ss : List (List Rec)} {j : Nat} (hj : j < q.os.length) (h : j < readyN q ss) : haveB q ss q.os[j] = true := (takeWhile_le _ q.os).2.1 j hj h
theorem readyN_at {q : Crd} {ss : List (List Rec)} (h : readyN q ss < q.os.length) : haveB q ss q.os[readyN q ss] = false := (takeWhile_le _ q.os).2.2 h
/-- A coordinator and three shards, all valid. -/
structure SV (q : Crd) (ss : List (List Rec)) : Prop where
  cv : CV q
  n : ss.length = 3
  vld : ∀ rs ∈ ss, Vld rs
theorem haveB_iff {q : Crd} {ss : List (List Rec)} (h : SV q ss) {n : Nat} (hn : n < q.ts.length) : haveB q ss (n : Int) = true ↔ ∀ j (hj : j < q.ts[n].ps.length), ∃ k, ∃ hk : k < ss.length, q.ts[n].ps[j].s = (k : Int) ∧ Sh.ask ss[k] (n : Int) = 2 := by
  unfold haveB
  rw [Int.toNat_natCast, List.getElem?_eq_getElem hn]
  simp only [List.all_eq_true]
  constructor
  · intro ha j hj
    have h1 := ha _ (List.getElem_mem hj)
    have h2 := (h.cv.txs _ (List.getElem_mem hn)).parts.2.1 _ (List.getElem_mem hj)
    obtain ⟨k, hk⟩ := Int.eq_ofNat_of_zero_le h2.1
    have hk3 : k < ss.length := by rw [h.n]; omega
    rw [hk, Int.toNat_natCast, List.getElem?_eq_getElem hk3] at h1
    exact ⟨k, hk3, hk, by simpa using h1⟩
  · intro ha p hp
    obtain ⟨j, hj, rfl⟩ := List.mem_iff_getElem.1 hp
    obtain ⟨k, hk, e, ea⟩ := ha j hj
    rw [e, Int.toNat_natCast, List.getElem?_eq_getElem hk]
    simpa using ea
/-- What SnapshotReady answers. -/
def ReadyO (q : Crd) (ss : List (List Rec)) (z : Int) : Prop := (SV q ss ∧ z = (readyN q ss : Int)) ∨ (¬ SV q ss ∧ z = -1)
theorem readyO_ex (q : Crd) (ss : List (List Rec)) : ∃ z, ReadyO q ss z := by
  by_cases h : SV q ss
  · exact ⟨_, .inl ⟨h, rfl⟩⟩
  · exact ⟨_, .inr ⟨h, rfl⟩⟩
theorem ReadyO.yes {q : Crd} {ss : List (List Rec)} {z : Int} (h : ReadyO q ss z) (hv : SV q ss) : z = (readyN q ss : Int) := by
  rcases h with ⟨-, e⟩ | ⟨hn, -⟩
  · exact e
  · exact absurd hv hn
theorem ReadyO.no {q : Crd} {ss : List (List Rec)} {z : Int} (h : ReadyO q ss z) (hn : ¬ SV q ss) : z = -1 := by
  rcases h with ⟨hv, -⟩ | ⟨-, e⟩
  · exact absurd hv hn
  · exact e
/-- A transaction has a part for the shard s. -/
def partB (t : Tx) (s : Int) : Bool := t.ps.any fun p => p.s == s
/-- The refs of the shard s with the records rs after the first m transactions of the order. -/
def refsS (q : Crd) (rs : List Rec) (s : Int) (m : Nat) : List Int := (q.os.take m).foldl (fun z o => match q.ts[o.toNat]? with
  | some t => if partB t s = true then setR z (Sh.upd rs o) else z
  | none => z) Sh.start
theorem refsS_zero (q : Crd) (rs : List Rec) (s : Int) : refsS q rs s 0 = [-1, -1, -1, -1] := rfl
theorem refsS_succ {q : Crd} {rs : List Rec} {s : Int} {m n : Nat} (hm : m < q.os.length) (hn : n < q.ts.length) (e : q.os[m] = (n : Int)) : refsS q rs s (m + 1) = if partB q.ts[n] s = true then setR (refsS q rs s m) (Sh.upd rs (n : Int)) else refsS q rs s m := by
  unfold refsS
  rw [List.take_succ_eq_append_getElem hm, List.foldl_append, e]
  simp only [List.foldl_cons, List.foldl_nil, Int.toNat_natCast, List.getElem?_eq_getElem hn]
theorem refsS_len (q : Crd) (rs : List Rec) (s : Int) (m : Nat) : (refsS q rs s m).length = 4 := by
  unfold refsS
  suffices ∀ (l : List Int) (z : List Int), (l.foldl (fun z o => match q.ts[o.toNat]? with
    | some t => if partB t s = true then setR z (Sh.upd rs o) else z
    | none => z) z).length = z.length from this _ _
  intro l
  induction l with
  | nil => intro z; rfl
  | cons o l ih =>
    intro z
    rw [List.foldl_cons, ih]
    rcases q.ts[o.toNat]? with _ | t
    · rfl
    · show (if partB t s = true then setR z (Sh.upd rs o) else z).length = _
      split
      · exact setR_length _ _
      · rfl
theorem partB_iff {t : Tx} {s : Int} : partB t s = true ↔ ∃ j, ∃ hj : j < t.ps.length, t.ps[j].s = s := by
  unfold partB
  rw [List.any_eq_true]
  constructor
  · rintro ⟨p, hp, e⟩
    obtain ⟨j, hj, rfl⟩ := List.mem_iff_getElem.1 hp
    exact ⟨j, hj, by simpa using e⟩
  · rintro ⟨j, hj, e⟩
    exact ⟨_, List.getElem_mem hj, by simpa using e⟩
/-- A transaction with a part has updates for it. -/
theorem partB_us {t : Tx} {s : Int} (h : PartsV t.ps) : partB t s = true ↔ usAt t.ps s ≠ [] := by
  rw [partB_iff]
  unfold usAt
  constructor
  · rintro ⟨j, hj, e⟩
    rcases hf : t.ps.find? (fun p => p.s == s) with _ | p
    · have := List.find?_eq_none.1 hf _ (List.getElem_mem hj)
      simp [e] at this
    · rw [hf]
      exact (h.2.1 p (List.mem_of_find?_eq_some hf)).2.2.1
  · intro hne
    rcases hf : t.ps.find? (fun p => p.s == s) with _ | p
    · rw [hf] at hne; exact absurd rfl hne
    · obtain ⟨j, hj, rfl⟩ := List.mem_iff_getElem.1 (List.mem_of_find?_eq_some hf)
      exact ⟨j, hj, by simpa using List.find?_some hf⟩
/-- What SnapshotRefs answers. -/
def SnapO (q : Crd) (ss : List (List Rec)) (m : Int) (zss : List (List Int)) (b : Bool) : Prop :=
  (∃ k : Nat, m = (k : Int) ∧ SV q ss ∧ k ≤ readyN q ss ∧ zss = (List.range 3).map (fun s => refsS q (ss.getD s []) (s : Int) k) ∧ b = true) ∨ (¬ (SV q ss ∧ 0 ≤ m ∧ m ≤ (readyN q ss : Int)) ∧ zss = [] ∧ b = false)
theorem snapO_ex (q : Crd) (ss : List (List Rec)) (m : Int) : ∃ zss b, SnapO q ss m zss b := by
  by_cases h : SV q ss ∧ 0 ≤ m ∧ m ≤ (readyN q ss : Int)
  · obtain ⟨k, rfl⟩ := Int.eq_ofNat_of_zero_le h.2.1
    exact ⟨_, _, .inl ⟨k, rfl, h.1, by omega, rfl, rfl⟩⟩
  · exact ⟨_, _, .inr ⟨h, rfl, rfl⟩⟩
/-- The updates of a committed transaction. -/
theorem upd_com {rs : List Rec} (h : Vld rs) {o : Int} (ha : Sh.ask rs o = 2) : UV (Sh.upd rs o) := by
  obtain ⟨⟨s, hs⟩, -⟩ := h
  obtain ⟨i, hi, e⟩ := List.mem_iff_getElem.1 ((hs.com_iff o).2 ha)
  have := (hs.refs_of.2 i hi).1
  rw [e] at this
  exact this
end Si
end Go.Proofs.YteaibflloeipaaaGreatDoor
namespace Go.Proofs.YteaibflloeipaaaGreatDoor
open Go.RowKit Wo Pu Rf Lk Sh

/-- The states of all transactions. -/
def stL (rs : List Rec) : List Int := (List.range 12).map fun i => Sh.ask rs (i : Nat)
theorem stL_length (rs : List Rec) : (stL rs).length = 12 := by simp [stL]
theorem stL_get {rs : List Rec} {i : Nat} (h : i < 12) : (stL rs)[i]? = some (Sh.ask rs (i : Nat)) := by simp [stL, h]
theorem stL_nil : stL [] = [0, 0, 0, 0, 0, 0, 0, 0, 0, 0, 0, 0] := rfl
theorem stL_snoc {rs : List Rec} {r : Rec} {m : Nat} (hr : r.t = (m : Int)) : stL (rs ++ [r]) = (stL rs).set m r.k := by
  apply List.ext_getElem?
  intro i
  by_cases hi : i < 12
  · rw [stL_get hi, ask_snoc, hr, List.getElem?_set, stL_length]
    by_cases e : m = i
    · subst e
      rw [if_pos rfl, if_pos rfl, if_pos hi]
    · rw [if_neg (by omega), if_neg e, stL_get hi]
  · rw [List.getElem?_eq_none (by rw [stL_length]; omega), List.getElem?_eq_none (by rw [List.length_set, stL_length]; omega)]
/-- The cells of a ledger. -/
def ledC (zs : List Int) (L : Value) (st : List Int) (us : List Value) : List Value := ints zs ++ L :: (ints st ++ us)
theorem ints_at {zs : List Int} {i : Nat} (h : i < zs.length) : (ints zs)[i]? = some (.int .i64 zs[i]) := by simp [ints, h]
section
variable {zs st : List Int} {L : Value} {us : List Value}
theorem ledC_length (h1 : zs.length = 4) (h2 : st.length = 12) (h3 : us.length = 12) : (ledC zs L st us).length = 29 := by simp [ledC, ints, h1, h2, h3]
theorem ledC_locks (h1 : zs.length = 4) : (ledC zs L st us)[4]? = some L := by
  unfold ledC
  rw [List.getElem?_append_right (by simp [ints, h1])]
  simp [ints, h1]
theorem ledC_state (h1 : zs.length = 4) (h2 : st.length = 12) {i : Nat} (hi : i < 12) : (ledC zs L st us)[5 + i]? = some (.int .i64 (st[i]'(by omega))) := by
  unfold ledC
  rw [List.getElem?_append_right (by simp [ints, h1]; omega)]
  have e : 5 + i - (ints zs).length = i + 1 := by simp [ints, h1]; omega
  rw [e, List.getElem?_cons_succ, List.getElem?_append_left (by simp [ints, h2]; omega), ints_at (by omega)]
theorem ledC_ups (h1 : zs.length = 4) (h2 : st.length = 12) (i : Nat) : (ledC zs L st us)[17 + i]? = us[i]? := by
  unfold ledC
  rw [List.getElem?_append_right (by simp [ints, h1]; omega)]
  have e : 17 + i - (ints zs).length = (12 + i) + 1 := by simp [ints, h1]; omega
  rw [e, List.getElem?_cons_succ, List.getElem?_append_right (by simp [ints, h2])]
  congr 1
  simp [ints, h2]
theorem ledC_ref (h1 : zs.length = 4) {i : Nat} (hi : i < 4) : (ledC zs L st us)[i]? = some (.int .i64 (zs[i]'(by omega))) := by
  unfold ledC
  rw [List.getElem?_append_left (by simp [ints, h1]; omega), ints_at (by omega)]
theorem ledC_range {j : Nat} {v : Value} (h : (ints zs)[j]? = some v) : (ledC zs L st us)[j]? = some v := by
  unfold ledC
  rw [List.getElem?_append_left (by rcases Nat.lt_or_ge j (ints zs).length with e | e; exact e; rw [List.getElem?_eq_none e] at h; cases h)]
  exact h
theorem ints_set' (zs : List Int) (i : Nat) (z : Int) : (ints zs).set i (.int .i64 z) = ints (zs.set i z) := by simp [ints, List.map_set]
theorem ledC_set_ref (h1 : zs.length = 4) {i : Nat} (hi : i < 4) (z : Int) : (ledC zs L st us).set i (.int .i64 z) = ledC (zs.set i z) L st us := by
  unfold ledC
  rw [List.set_append_left _ _ (by simp [ints, h1]; omega), ints_set']
theorem ledC_set_locks (h1 : zs.length = 4) (L' : Value) : (ledC zs L st us).set 4 L' = ledC zs L' st us := by
  unfold ledC
  rw [List.set_append_right _ _ (by simp [ints, h1])]
  simp [ints, h1]
theorem ledC_set_state (h1 : zs.length = 4) (h2 : st.length = 12) {i : Nat} (hi : i < 12) (z : Int) : (ledC zs L st us).set (5 + i) (.int .i64 z) = ledC zs L (st.set i z) us := by
  unfold ledC
  rw [List.set_append_right _ _ (by simp [ints, h1]; omega)]
  have e : 5 + i - (ints zs).length = i + 1 := by simp [ints, h1]; omega
  rw [e, List.set_cons_succ, List.set_append_left _ _ (by simp [ints, h2]; omega), ints_set']
theorem ledC_set_ups (h1 : zs.length = 4) (h2 : st.length = 12) (i : Nat) (u : Value) : (ledC zs L st us).set (17 + i) u = ledC zs L st (us.set i u) := by
  unfold ledC
  rw [List.set_append_right _ _ (by simp [ints, h1]; omega)]
  have e : 17 + i - (ints zs).length = (12 + i) + 1 := by simp [ints, h1]; omega
  rw [e, List.set_cons_succ, List.set_append_right _ _ (by simp [ints, h2])]
  congr 2
  simp [ints, h2]
theorem ledC_ones (hL : L.oneCell' = true) (hu : ∀ u ∈ us, u.oneCell' = true) : (ledC zs L st us).toArray.all (·.oneCell') = true := by
  refine all_oneCell_toArray fun v hv => ?_
  unfold ledC at hv
  simp only [List.mem_append, List.mem_cons, ints, List.mem_map] at hv
  rcases hv with ⟨z, -, rfl⟩ | rfl | ⟨z, -, rfl⟩ | hv
  · rfl
  · exact hL
  · rfl
  · exact hu v hv
end
theorem info_led : (Tryz.prog.info? 80).map (·.size) = some 29 := by kernel_rfl
/-- The cells of a ledger that nothing has been told. -/
def led0 : List Value := ledC [0, 0, 0, 0] (.slice none 0 0) [0, 0, 0, 0, 0, 0, 0, 0, 0, 0, 0, 0] (List.replicate 12 (.slice none 0 0))
/-- The cells of some ledger. -/
def Led (cs : List Value) : Prop := cs.length = 29 ∧ cs.toArray.all (·.oneCell') = true
theorem Led.size {cs : List Value} (h : Led cs) : cs.toArray.size = 29 := by rw [List.size_toArray]; exact h.1
theorem Led.info {cs : List Value} (h : Led cs) : (Tryz.prog.info? 80).map (·.size) = some cs.toArray.size := by rw [h.size]; exact info_led
theorem Led.mk_ {zs st : List Int} {L : Value} {us : List Value} (h1 : zs.length = 4) (h2 : st.length = 12) (h3 : us.length = 12) (hL : L.oneCell' = true) (hu : ∀ u ∈ us, u.oneCell' = true) : Led (ledC zs L st us) := ⟨ledC_length h1 h2 h3, ledC_ones hL hu⟩
theorem led0_led : Led led0 := Led.mk_ rfl rfl rfl rfl (fun u hu => by rw [List.mem_replicate] at hu; rw [hu.2]; rfl)
/-- The cells cs are those of the ledger of the records rs, whose state is s; its locks are the call's own, the updates lie below. -/
def LdV (w : World) (B : Nat) (cs : List Value) (rs : List Rec) (s : St) : Prop :=
  ∃ A c us, cs = ledC s.refs (.slice A s.locks.length c) (stL rs) us ∧ us.length = 12 ∧ (∀ u ∈ us, u.oneCell' = true) ∧ OwnI w B (.slice A s.locks.length c) s.locks ∧
    ∀ t : Nat, t < 12 → (Sh.ask rs (t : Int) = 1 ∨ Sh.ask rs (t : Int) = 2) → ∃ A' c', us[t]? = some (.slice A' (Sh.upd rs t).length c') ∧ Row w B A' (upsV (Sh.upd rs t))
theorem LdV.below {w w' : World} {B : Nat} {cs : List Value} {rs : List Rec} {s : St} (h : LdV w B cs rs s) (hB : B ≤ w.heap.size) (hb : Below w.heap.size w w') : LdV w' B cs rs s := by
  obtain ⟨A, c, us, h1, h2, h3, h4, h5⟩ := h
  refine ⟨A, c, us, h1, h2, h3, h4.below hb (Nat.le_refl _), fun t ht ha => ?_⟩
  obtain ⟨A', c', q1, q2⟩ := h5 t ht ha
  exact ⟨A', c', q1, q2.below hb hB⟩
theorem LdV.base {w : World} {B B' : Nat} {cs : List Value} {s : St} (h : LdV w B cs [] s) (hB : B' ≤ B) : LdV w B' cs [] s := by
  obtain ⟨A, c, us, h1, h2, h3, h4, h5⟩ := h
  exact ⟨A, c, us, h1, h2, h3, h4.base hB, fun t _ ha => absurd ha (by unfold Sh.ask; simp)⟩
theorem row_but_hi {w w' : World} {B R : Nat} {A : Option Addr} {xs : List Value} (h : Row w B A xs) (hb : But R w w') (hR : B ≤ R) (hB : B ≤ w.heap.size) : Row w' B A xs :=
  h.below (C := B) ⟨hb.os, hb.tape, hb.output, hb.size, fun k hk => hb.block k (by omega) (fun e => by injection e with e; omega)⟩ (Nat.le_refl _)
theorem LdV.but {w w' : World} {B R : Nat} {T : TypeId} {cur : Array Value} {cs : List Value} {rs : List Rec} {s : St} (h : LdV w B cs rs s) (hB : B ≤ w.heap.size) (hb : But R w w') (hR : B ≤ R) (hx : w.heap[R]? = some (.cells cur T (0, 0))) (hT : 3 ≠ T) : LdV w' B cs rs s := by
  obtain ⟨A, c, us, h1, h2, h3, h4, h5⟩ := h
  refine ⟨A, c, us, h1, h2, h3, row_far_type h4 hT hb (blk_type hx), fun t ht ha => ?_⟩
  obtain ⟨A', c', q1, q2⟩ := h5 t ht ha
  exact ⟨A', c', q1, row_but_hi q2 hb hR hB⟩
theorem LdV.led {w : World} {B : Nat} {cs : List Value} {rs : List Rec} {s : St} (h : LdV w B cs rs s) (h4 : s.refs.length = 4) : Led cs := by
  obtain ⟨A, c, us, rfl, h2, h3, -, -⟩ := h
  exact Led.mk_ h4 (stL_length rs) h2 rfl h3
theorem row_on {w w' : World} {A : Option Addr} {vs : List Value} (h : Row w w.heap.size A vs) (hb : Below w.heap.size w w') : Row w' w'.heap.size A vs := (h.below hb (Nat.le_refl _)).more hb.size
theorem Arr4.get_ {w : World} {g : Nat} {t : TypeId} {vs : List Value} (h : Arr4 w g t vs) {i : Nat} {v : Value} (hv : vs[i]? = some v) : w.cell? ⟨g, i, none⟩ = some v := by
  have hi : i < vs.length := by rcases Nat.lt_or_ge i vs.length with e | e; exact e; rw [List.getElem?_eq_none e] at hv; cases hv
  rw [h.read hi, ← List.getElem?_eq_getElem]
  exact hv
theorem Arr4.has_ {w : World} {g : Nat} {t : TypeId} {vs : List Value} (h : Arr4 w g t vs) {i : Nat} (hi : i < vs.length) : ∃ v, w.cell? ⟨g, i, none⟩ = some v := ⟨_, h.read hi⟩
theorem results_row_slot {fn : Func} {p s : Tmp} {ty : TypeId} (h : fn.results = #[.cell p ty, .tmp s]) (tmps : Array Value) (w : World) (g : Nat) (t : TypeId) (cs : Array Value) (fr : Nat × Nat) (fs : Array Field) (v : Value)
    (hp : tmps.getD p undef = .pointer (some ⟨g, 0, none⟩)) (hs : tmps.getD s undef = v) (hg : w.heap[g]? = some (.cells cs t fr))
    (hu : Tryz.prog.underlying ty = some (.struct fs)) (hi : (Tryz.prog.info? ty).map (·.size) = some cs.size) :
    (results fn tmps).run Tryz.prog w = .ok (.tuple #[.agg cs, v]) w := by
  have hp' : tmps[p]?.getD undef = .pointer (some ⟨g, 0, none⟩) := by simpa using hp
  have hs' : tmps[s]?.getD undef = v := by simpa using hs
  simp [results, h, hp', hs', asAddr, run_loadVar_row w g t ty cs fr (.struct fs) hg hu rfl hi]
/-- Stores into the midst of an array. -/
theorem Arr4.set4 {w : World} {g : Nat} {t : TypeId} {vs : List Value} (h : Arr4 w g t vs) (a b c d : Value) : Arr4 (w.setCells g 0 [a, b, c, d]) g t ((((vs.set 0 a).set 1 b).set 2 c).set 3 d) := by
  show Arr4 ((((w.setCell ⟨g, 0, none⟩ a).setCell ⟨g, 1, none⟩ b).setCell ⟨g, 2, none⟩ c).setCell ⟨g, 3, none⟩ d) g t _
  exact (((h.set 0 a).set 1 b).set 2 c).set 3 d
end Go.Proofs.YteaibflloeipaaaGreatDoor
namespace Go.Proofs.YteaibflloeipaaaGreatDoor
open Go.RowKit Wo Pu Rf Lk Sh Co Si
set_option linter.unusedVariables false
set_option linter.unusedSimpArgs false

/-- The cells L are a ledger of the records rs: its states, and the updates of what is prepared or committed. -/
def LdR (w : World) (B : Nat) (L : List Value) (rs : List Rec) : Prop :=
  L.length = 29 ∧ (∀ v ∈ L, v.oneCell' = true) ∧ (∀ t : Nat, t < 12 → L[5 + t]? = some (.int .i64 (Sh.ask rs (t : Int)))) ∧
    ∀ t : Nat, t < 12 → Sh.ask rs (t : Int) = 2 → ∃ A' c', L[17 + t]? = some (.slice A' (Sh.upd rs t).length c') ∧ Row w B A' (upsV (Sh.upd rs t))
theorem LdR.below {w w' : World} {B C : Nat} {L : List Value} {rs : List Rec} (h : LdR w B L rs) (hb : Below C w w') (hC : B ≤ C) : LdR w' B L rs := by
  obtain ⟨h1, h2, h3, h4⟩ := h
  refine ⟨h1, h2, h3, fun t ht ha => ?_⟩
  obtain ⟨A', c', q1, q2⟩ := h4 t ht ha
  exact ⟨A', c', q1, q2.below hb hC⟩
theorem LdR.more {w : World} {B B' : Nat} {L : List Value} {rs : List Rec} (h : LdR w B L rs) (hB : B ≤ B') : LdR w B' L rs := by
  obtain ⟨h1, h2, h3, h4⟩ := h
  refine ⟨h1, h2, h3, fun t ht ha => ?_⟩
  obtain ⟨A', c', q1, q2⟩ := h4 t ht ha
  exact ⟨A', c', q1, q2.more hB⟩
theorem LdV.ldr {w : World} {B : Nat} {L : List Value} {rs : List Rec} {s : St} (h : LdV w B L rs s) (h4 : s.refs.length = 4) : LdR w B L rs := by
  have hL := h.led h4
  obtain ⟨A, c, us, rfl, h2, h3, -, h5⟩ := h
  refine ⟨hL.1, fun v hv => ?_, fun t ht => ?_, fun t ht ha => ?_⟩
  · have := hL.2
    rw [Array.all_eq_true] at this
    obtain ⟨i, hi, rfl⟩ := List.mem_iff_getElem.1 hv
    have h9 := this i (by rw [List.size_toArray]; exact hi)
    rw [List.getElem_toArray] at h9
    exact h9
  · rw [ledC_state h4 (stL_length rs) ht]
    have := stL_get (rs := rs) ht
    rw [List.getElem?_eq_getElem (by rw [stL_length]; exact ht)] at this
    injection this with this
    rw [this]
  · obtain ⟨A', c', q1, q2⟩ := h5 t ht (.inr ha)
    exact ⟨A', c', by rw [ledC_ups h4 (stL_length rs)]; exact q1, q2⟩
/-- The cells of a site. -/
def sitC (v0 v1 : Value) (L0 L1 L2 : List Value) : List Value := v0 :: v1 :: (L0 ++ L1 ++ L2)
/-- The cells X are a site of the coordinator q and of the shards ss. -/
def Sit (w : World) (B : Nat) (X : List Value) (q : Crd) (ss : List (List Rec)) : Prop :=
  ∃ (A : Option Addr) (c : Nat) (A2 : Option Addr) (c2 : Nat) (L0 L1 L2 : List Value) (r0 r1 r2 : List Rec), X = sitC (.slice A q.ts.length c) (.slice A2 q.os.length c2) L0 L1 L2 ∧ ss = [r0, r1, r2] ∧
    Txs w B A q.ts ∧ q.ts.length ≤ c ∧ Row w B A2 (ints q.os) ∧ q.os.length ≤ c2 ∧ LdR w B L0 r0 ∧ LdR w B L1 r1 ∧ LdR w B L2 r2
section
variable {w w' : World} {B C : Nat} {X : List Value} {q : Crd} {ss : List (List Rec)}
theorem Sit.below (h : Sit w B X q ss) (hb : Below C w w') (hC : B ≤ C) : Sit w' B X q ss := by
  obtain ⟨A, c, A2, c2, L0, L1, L2, r0, r1, r2, e, es, h1, h2, h3, h4, h5, h6, h7⟩ := h
  exact ⟨A, c, A2, c2, L0, L1, L2, r0, r1, r2, e, es, h1.below hb hC, h2, h3.below hb hC, h4, h5.below hb hC, h6.below hb hC, h7.below hb hC⟩
theorem Sit.more {B' : Nat} (h : Sit w B X q ss) (hB : B ≤ B') : Sit w B' X q ss := by
  obtain ⟨A, c, A2, c2, L0, L1, L2, r0, r1, r2, e, es, h1, h2, h3, h4, h5, h6, h7⟩ := h
  exact ⟨A, c, A2, c2, L0, L1, L2, r0, r1, r2, e, es, h1.more hB, h2, h3.more hB, h4, h5.more hB, h6.more hB, h7.more hB⟩
theorem Sit.on (h : Sit w w.heap.size X q ss) (hb : Below w.heap.size w w') : Sit w' w'.heap.size X q ss := (h.below hb (Nat.le_refl _)).more hb.size
theorem sitC_len {v0 v1 : Value} {L0 L1 L2 : List Value} (h0 : L0.length = 29) (h1 : L1.length = 29) (h2 : L2.length = 29) : (sitC v0 v1 L0 L1 L2).length = 89 := by
  simp [sitC, h0, h1, h2]
theorem sitC_at {v0 v1 : Value} {L0 L1 L2 : List Value} (h0 : L0.length = 29) (h1 : L1.length = 29) {i j : Nat} (hi : i < 3) (hj : j < 29) : (sitC v0 v1 L0 L1 L2)[2 + i * 29 + j]? = ([L0, L1, L2][i]'hi)[j]? := by
  have e : 2 + i * 29 + j = (i * 29 + j) + 1 + 1 := by omega
  rw [e]
  show (L0 ++ L1 ++ L2)[i * 29 + j]? = _
  have key : i = 0 ∨ i = 1 ∨ i = 2 := by omega
  rcases key with rfl | rfl | rfl
  · rw [List.append_assoc, List.getElem?_append_left (by omega)]
    simp
  · rw [List.append_assoc, List.getElem?_append_right (by omega), List.getElem?_append_left (by omega)]
    simp [h0]
  · rw [List.getElem?_append_right (by simp [h0, h1])]
    simp [h0, h1]
theorem Sit.len (h : Sit w B X q ss) : X.length = 89 := by
  obtain ⟨A, c, A2, c2, L0, L1, L2, r0, r1, r2, rfl, -, -, -, -, -, h5, h6, h7⟩ := h
  exact sitC_len h5.1 h6.1 h7.1
theorem Sit.ones (h : Sit w B X q ss) : X.toArray.all (·.oneCell') = true := by
  obtain ⟨A, c, A2, c2, L0, L1, L2, r0, r1, r2, rfl, -, -, -, -, -, h5, h6, h7⟩ := h
  rw [Array.all_eq_true]
  intro i hi
  have hm : (sitC (.slice A q.ts.length c) (.slice A2 q.os.length c2) L0 L1 L2)[i]'(by simpa using hi) ∈ sitC (.slice A q.ts.length c) (.slice A2 q.os.length c2) L0 L1 L2 := List.getElem_mem _
  rw [List.getElem_toArray]
  unfold sitC at hm ⊢
  rcases List.mem_cons.1 hm with e | hm
  · rw [e]; rfl
  rcases List.mem_cons.1 hm with e | hm
  · rw [e]; rfl
  rcases List.mem_append.1 hm with hm | hm
  · rcases List.mem_append.1 hm with hm | hm
    · exact h5.2.1 _ hm
    · exact h6.2.1 _ hm
  · exact h7.2.1 _ hm
/-- The state of the transaction t at the shard i. -/
theorem Sit.state (h : Sit w B X q ss) {i t : Nat} (hi : i < ss.length) (ht : t < 12) : X[2 + i * 29 + 5 + t]? = some (.int .i64 (Sh.ask ss[i] (t : Int))) := by
  obtain ⟨A, c, A2, c2, L0, L1, L2, r0, r1, r2, rfl, rfl, -, -, -, -, h5, h6, h7⟩ := h
  have hi3 : i < 3 := by simpa using hi
  rw [Nat.add_assoc, sitC_at h5.1 h6.1 hi3 (by omega)]
  have key : i = 0 ∨ i = 1 ∨ i = 2 := by omega
  rcases key with rfl | rfl | rfl
  · exact h5.2.2.1 t ht
  · exact h6.2.2.1 t ht
  · exact h7.2.2.1 t ht
/-- The updates of a committed transaction at the shard i. -/
theorem Sit.upd (h : Sit w B X q ss) {i t : Nat} (hi : i < ss.length) (ht : t < 12) (ha : Sh.ask ss[i] (t : Int) = 2) : ∃ A' c', X[2 + i * 29 + 17 + t]? = some (.slice A' (Sh.upd ss[i] (t : Int)).length c') ∧ Row w B A' (upsV (Sh.upd ss[i] (t : Int))) := by
  obtain ⟨A, c, A2, c2, L0, L1, L2, r0, r1, r2, rfl, rfl, -, -, -, -, h5, h6, h7⟩ := h
  have hi3 : i < 3 := by simpa using hi
  rw [Nat.add_assoc, sitC_at h5.1 h6.1 hi3 (by omega)]
  have key : i = 0 ∨ i = 1 ∨ i = 2 := by omega
  rcases key with rfl | rfl | rfl
  · exact h5.2.2.2 t ht ha
  · exact h6.2.2.2 t ht ha
  · exact h7.2.2.2 t ht ha
/-- The coordinator of a site. -/
theorem Sit.crd (h : Sit w B X q ss) : ∃ (A : Option Addr) (c : Nat) (A2 : Option Addr) (c2 : Nat), X[0]? = some (.slice A q.ts.length c) ∧ X[1]? = some (.slice A2 q.os.length c2) ∧ Txs w B A q.ts ∧ q.ts.length ≤ c ∧ Row w B A2 (ints q.os) ∧ q.os.length ≤ c2 := by
  obtain ⟨A, c, A2, c2, L0, L1, L2, r0, r1, r2, rfl, -, h1, h2, h3, h4, -, -, -⟩ := h
  exact ⟨A, c, A2, c2, rfl, rfl, h1, h2, h3, h4⟩
theorem Sit.three (h : Sit w B X q ss) : ss.length = 3 := by
  obtain ⟨A, c, A2, c2, L0, L1, L2, r0, r1, r2, -, rfl, -, -, -, -, -, -, -⟩ := h
  rfl
end
theorem info_site : (Tryz.prog.info? 83).map (·.size) = some 89 := by kernel_rfl
end Go.Proofs.YteaibflloeipaaaGreatDoor
