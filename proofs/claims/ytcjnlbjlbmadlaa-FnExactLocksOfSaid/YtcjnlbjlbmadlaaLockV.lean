/-
  Walks: what the laws on locks draw.
-/
import Derived.Test.YtcjnlbjlbmadlaaLockD
import Derived.Test.YtcjnlbjlbmadlaaDrawV
namespace Go.Proofs.Ytcjnlbjlbmadlaa
open Go.RowKit Wo Pu Rf

/-- Drawn locks and a transaction. -/
def LockTxn (w : World) (e : Ending) (w' : World) : Prop := ∃ A c zs t, e = .returned (.tuple #[.slice A zs.length c, .int .i64 t]) ∧ Row w' w'.heap.size A (ints zs) ∧ zs.length ≤ 4 ∧ -1 ≤ t ∧ t ≤ 12 ∧ Below w.heap.size w w'
/-- Drawn locks, a transaction and updates. -/
def LockUps (w : World) (e : Ending) (w' : World) : Prop := ∃ A c zs t A2 c2 us, e = .returned (.tuple #[.slice A zs.length c, .int .i64 t, .slice A2 us.length c2]) ∧ Row w' w'.heap.size A (ints zs) ∧ zs.length ≤ 4 ∧ -1 ≤ t ∧ t ≤ 12 ∧ Row w' w'.heap.size A2 (upsV us) ∧ us.length ≤ 4 ∧ Below w.heap.size w w'
set_option maxHeartbeats 4000000 in
theorem DrawLocksValid_any (A : Option Addr) (c : Nat) (bs : List Int) (w : World) (h : Code_ w A c bs) :
    Calls Try.prog 18 #[.slice A bs.length c] w (RefsMade w) := by
  go_enter Try.func18, Try.ntmps18
  go_wp2_with fail
  refine (l6Open_any A c bs w h).mono ?_
  rintro e w1 ⟨rfl, R1, b1⟩
  go_wp2_with fail
  refine (l92Locks_any w.heap.size 0 w1 R1 (by omega)).mono ?_
  rintro e w2 ⟨v, zs, rfl, o2, h2, R2, T2⟩
  obtain ⟨A2, c2, rfl, r2, hc2⟩ := o2.form
  have b2 := b1.trans (T2.below b1.size (Nat.le_refl _))
  go_wp2
  go_ret
  exact ⟨A2, c2, zs, rfl, r2, h2, hc2, b2⟩
set_option maxHeartbeats 4000000 in
theorem DrawLocksFree_any (A : Option Addr) (c : Nat) (bs : List Int) (w : World) (h : Code_ w A c bs) :
    Calls Try.prog 11 #[.slice A bs.length c] w (LockTxn w) := by
  go_enter Try.func11, Try.ntmps11
  go_wp2_with fail
  refine (l6Open_any A c bs w h).mono ?_
  rintro e w1 ⟨rfl, R1, b1⟩
  go_wp2_with fail
  refine (l92Locks_any w.heap.size 0 w1 R1 (by omega)).mono ?_
  rintro e w2 ⟨v, zs, rfl, o2, h2, R2, T2⟩
  obtain ⟨A2, c2, rfl, r2, hc2⟩ := o2.form
  have b2 := b1.trans (T2.below b1.size (Nat.le_refl _))
  go_wp2_with fail
  refine (l92Txn_any w.heap.size _ w2 R2 (by omega)).mono ?_
  rintro e w3 ⟨t, rfl, t0, t1, R3, T3⟩
  have r3 := (o2.but T3 R1.lt).row
  go_wp2
  go_ret2
  exact ⟨A2, c2, zs, t, rfl, r3, h2, t0, t1, b2.trans (T3.below b2.size (Nat.le_refl _))⟩
theorem row_four (w : World) (t : TypeId) : Row (w.alloc (.cells #[.int .i64 (-1), .int .i64 (-1), .int .i64 (-1), .int .i64 (-1)] t)) (w.alloc (.cells #[.int .i64 (-1), .int .i64 (-1), .int .i64 (-1), .int .i64 (-1)] t)).heap.size (some ⟨w.heap.size, 0, none⟩) (ints [-1, -1, -1, -1]) := by
  refine .inr ⟨_, rfl, by simp, fun j u hu => ?_⟩
  rw [add_lit]
  have e := heap_alloc_new w (.cells #[.int .i64 (-1), .int .i64 (-1), .int .i64 (-1), .int .i64 (-1)] t)
  simp only [World.cell?, e]
  match j with
  | 0 => simp [ints] at hu; subst hu; simp
  | 1 => simp [ints] at hu; subst hu; simp
  | 2 => simp [ints] at hu; subst hu; simp
  | 3 => simp [ints] at hu; subst hu; simp
  | j + 4 => simp [ints] at hu
end Go.Proofs.Ytcjnlbjlbmadlaa
