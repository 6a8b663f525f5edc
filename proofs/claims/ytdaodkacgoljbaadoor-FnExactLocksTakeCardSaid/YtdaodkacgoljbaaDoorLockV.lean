/-
  Walks: what the laws on locks draw.
-/
import Derived.Test.YtdaodkacgoljbaaDoorLockD
import Derived.Test.YtdaodkacgoljbaaDoorDrawV
namespace Go.Proofs.YtdaodkacgoljbaaDoor
open Go.RowKit Wo Pu Rf

/-- Drawn locks and a transaction. -/
def LockTxn (w : World) (e : Ending) (w' : World) : Prop := ∃ A c zs t, e = .returned (.tuple #[.slice A zs.length c, .int .i64 t]) ∧ Row w' w'.heap.size A (ints zs) ∧ zs.length ≤ 4 ∧ -1 ≤ t ∧ t ≤ 12 ∧ Below w.heap.size w w'
/-- Drawn locks, a transaction and updates. -/
def LockUps (w : World) (e : Ending) (w' : World) : Prop := ∃ A c zs t A2 c2 us, e = .returned (.tuple #[.slice A zs.length c, .int .i64 t, .slice A2 us.length c2]) ∧ Row w' w'.heap.size A (ints zs) ∧ zs.length ≤ 4 ∧ -1 ≤ t ∧ t ≤ 12 ∧ Row w' w'.heap.size A2 (upsV us) ∧ us.length ≤ 4 ∧ Below w.heap.size w w'
theorem row_four (w : World) (t : TypeId) : Row (w.alloc (.cells #[.int .i64 (-1), .int .i64 (-1), .int .i64 (-1), .int .i64 (-1)] t)) (w.alloc (.cells #[.int .i64 (-1), .int .i64 (-1), .int .i64 (-1), .int .i64 (-1)] t)).heap.size (some ⟨w.heap.size, 0, none⟩) (ints [-1, -1, -1, -1]) := by
  refine .inr ⟨_, rfl, by simp, fun j u hu => ?_⟩
  rw [add_lit]
  have e := heap_alloc_new w (.cells #[.int .i64 (-1), .int .i64 (-1), .int .i64 (-1), .int .i64 (-1)] t)
  simp only [World.cell?, e]
  match j with
  | 0 => simp [ints] at hu; subst hu; simp
  | 1 => simp [ints] at hu; subst hu; simp
  | 2 => simp [ints] at hu; subst hu; simp
  | 3 => simp [ints] at hu; subst hu; simp
  | j + 4 => simp [ints] at hu
set_option maxHeartbeats 4000000 in
theorem DrawLocksTake_any (A : Option Addr) (c : Nat) (bs : List Int) (w : World) (h : Code_ w A c bs) :
    Calls Tryd.prog 9 #[.slice A bs.length c] w (LockUps w) := by
  go_enter Tryd.func9, Tryd.ntmps9
  go_wp2_with fail
  refine (l6Open_any A c bs w h).mono ?_
  rintro e w1 ⟨rfl, R1, b1⟩
  go_wp2_with fail
  refine (l92Locks_any w.heap.size 0 w1 R1 (by omega)).mono ?_
  rintro e w2 ⟨v, zs, rfl, o2, h2, R2, T2⟩
  obtain ⟨A2, c2, rfl, r2, hc2⟩ := o2.form
  have b2 := b1.trans (T2.below b1.size (Nat.le_refl _))
  go_wp2_with fail
  refine (l92Txn_any w.heap.size _ w2 R2 (by omega)).mono ?_
  rintro e w3 ⟨t, rfl, t0, t1, R3, T3⟩
  have o3 := o2.but T3 R1.lt
  have b3 := b2.trans (T3.below b2.size (Nat.le_refl _))
  have hbA := (Below.refl w3.heap.size w3).alloc (Nat.le_refl _) (.cells #[.int .i64 (-1), .int .i64 (-1), .int .i64 (-1), .int .i64 (-1)] 3)
  have r4 := row_four w3 3
  have R4 := R3.below hbA R3.lt
  have o4 := o3.below hbA (Nat.le_refl _)
  have b4 := b3.trans (hbA.mono b3.size)
  have hne : ∀ ad : Addr, some (⟨w3.heap.size, 0, none⟩ : Addr) = some ad → ad.block ≠ w.heap.size := fun ad e => by
    injection e with e
    subst e
    exact Nat.ne_of_gt R3.lt
  have hRl := R1.lt
  clear R1 R2 T2 b1 b2 T3 b3 hbA o2 o3 r2 R3
  go_wp2_with fail
  refine (l92Updates_any w.heap.size _ (some ⟨w3.heap.size, 0, none⟩) 4 [-1, -1, -1, -1] _ R4 (by omega) r4 hne).mono ?_
  rintro e w5 ⟨v5, us, rfl, o5, h5, R5, T5⟩
  obtain ⟨A5, c5, rfl, r5, hc5⟩ := o5.form
  have r6 := (o4.but T5 hRl).row
  have b6 := b4.trans (T5.below b4.size (Nat.le_refl _))
  clear hne r4 R4 o4 b4
  go_wp2
  go_ret3
  exact ⟨A2, c2, zs, t, A5, c5, us, rfl, r6, h2, t0, t1, r5, h5, b6⟩
end Go.Proofs.YtdaodkacgoljbaaDoor
