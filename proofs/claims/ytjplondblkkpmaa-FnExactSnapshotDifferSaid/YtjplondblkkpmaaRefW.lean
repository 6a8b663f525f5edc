/-
  Walks: marks in lists of ints and of updates that may be empty; what the exact laws on refs ask of copies.
-/
import Derived.Test.YtjplondblkkpmaaG3C
import Derived.Test.YtjplondblkkpmaaUpK
import Derived.Test.YtjplondblkkpmaaMarkU
namespace Go.Proofs.Ytjplondblkkpmaa
open Go.RowKit Wo Pu Rf

theorem eqIntS_ret (A A' : Option Addr) (c c' : Nat) (zs : List Int) (w : World) (B C : Nat) (hr : Row w B A (ints zs)) (hr' : Row w C A' (ints zs)) (hm : zs.length ≤ maxLen) :
    Calls Try.prog 27 #[.slice A zs.length c, .slice A' zs.length c'] w (Ret (.bool true) w) :=
  (eqIntS_same _ _ A A' c c' zs w hr hr' hm).mono fun _ _ ⟨he, d, hd⟩ => ⟨he, by subst hd; exact Wo.Below.drewN (Below.refl _ _) d⟩
/-- A slice's block. -/
def InB (A : Option Addr) (R : Nat) : Prop := ∀ ad, A = some ad → ad.block = R
theorem inB_some (g o : Nat) : InB (some ⟨g, o, none⟩) g := fun ad e => by injection e with e; subst e; rfl
theorem inB_of (A : Option Addr) (N : Nat) : ∃ R, InB A R ∧ (A = none → R = N) := by
  cases A with
  | none => exact ⟨N, (fun ad e => by cases e), fun _ => rfl⟩
  | some ad => exact ⟨ad.block, (fun ad' e => by injection e with e; rw [e]), fun e => by cases e⟩
/-- Behind the marks on ints. -/
def IntsMarked (K : Int) (v : Value) (n : Nat) (R B : Nat) (w : World) (e : Ending) (w' : World) : Prop := e = .returned (.int .i64 K) ∧ OwnI w' B v (marks 1 n) ∧ But R w w'
def UpsMarked (K : Int) (v : Value) (k n : Nat) (R B : Nat) (w : World) (e : Ending) (w' : World) : Prop := e = .returned (.int .i64 K) ∧ OwnUps w' B v (mksU k n) ∧ But R w w'
set_option maxHeartbeats 1000000 in
theorem markInts_to (K : Int) (R B : Nat) (A : Option Addr) (c : Nat) (zs : List Int) (w : World) (ho : OwnI w B (.slice A zs.length c) zs) (hR : InB A R) (hn : zs.length ≤ 1048576) (hK : K = 1 + (zs.length : Int)) :
    Calls Try.prog 30 #[.slice A zs.length c, .int .i64 1] w (IntsMarked K (.slice A zs.length c) zs.length R B w) := by
  have ho' := ho
  obtain ⟨h1, h2⟩ := ho'
  rcases h2 with ⟨hv, hz⟩ | ⟨g, cap, cur, hv, -⟩
  · injection hv with e1 e2 e3
    subst e1
    subst e3
    have hzs : zs = [] := List.eq_nil_of_length_eq_zero hz
    subst hzs
    subst hK
    clear ho h1 hz e2 hn hR
    have hI : OwnI w B (.slice none 0 0) (marks 1 0) := ⟨rfl, .inl ⟨rfl, rfl⟩⟩
    have hB := But.refl R w
    go_enter Try.func30, Try.ntmps30
    go_wp2_with fail
    go_loopw [1, 5] (fun q i wr => i = .int .i64 0 ∧ q = .int .i64 1 ∧ w = wr) (fun _ _ _ => 0)
    case atStart => exact ⟨rfl, rfl, rfl⟩
    case round =>
      obtain ⟨rfl, rfl, rfl⟩ := hrel
      go_wp2
      go_ret
      exact ⟨rfl, hI, hB⟩
  · injection hv with e1 e2 e3
    subst e1
    obtain rfl : g = R := hR _ rfl
    refine (markIntS_own B g zs.length c 1 (ints zs) w ho hn (by omega) (by omega)).mono ?_
    rintro e w' ⟨rfl, hw, ho2⟩
    refine ⟨by rw [hK], ?_, hw.1⟩
    unfold OwnI
    rw [marks_length]
    exact ho2
set_option maxHeartbeats 1000000 in
theorem markUps_to (K : Int) (k : Nat) (R B : Nat) (A : Option Addr) (c : Nat) (us : List Up) (w : World) (ho : OwnUps w B (.slice A us.length c) us) (hR : InB A R) (hn : us.length ≤ 1048576) (h1 : 1 ≤ k) (h2 : k ≤ 4194304) (hK : K = (k : Int) + 3 * (us.length : Int)) :
    Calls Try.prog 90 #[.slice A us.length c, .int .i64 (k : Int)] w (UpsMarked K (.slice A us.length c) k us.length R B w) := by
  have ho' := ho
  obtain ⟨-, h3⟩ := ho'
  rcases h3 with ⟨hv, hz⟩ | ⟨g, cap, cur, hv, -⟩
  · injection hv with e1 e2 e3
    subst e1
    subst e3
    have hzs : us = [] := List.eq_nil_of_length_eq_zero hz
    subst hzs
    obtain rfl : K = (k : Int) := by rw [hK]; simp
    clear ho hz e2 hn hR hK
    have hI : OwnUps w B (.slice none 0 0) (mksU k 0) := ⟨rfl, .inl ⟨rfl, rfl⟩⟩
    have hB := But.refl R w
    go_enter Try.func90, Try.ntmps90
    go_wp2_with fail
    go_loopw [1, 5] (fun q i wr => i = .int .i64 0 ∧ q = .int .i64 (k : Int) ∧ w = wr) (fun _ _ _ => 0)
    case atStart => exact ⟨rfl, rfl, rfl⟩
    case round =>
      obtain ⟨rfl, rfl, rfl⟩ := hrel
      go_wp2
      go_ret
      exact ⟨rfl, hI, hB⟩
  · injection hv with e1 e2 e3
    subst e1
    obtain rfl : g = R := hR _ rfl
    refine (markUpdateS_own B g c k us w ho hn h1 h2).mono ?_
    rintro e w' ⟨rfl, ho2, hw⟩
    refine ⟨by rw [hK]; rfl, ?_, hw⟩
    unfold OwnUps at ho2 ⊢
    rw [mksU_length] at ho2 ⊢
    exact ho2
theorem heldInts_to (K : Int) (A : Option Addr) (c n : Nat) (w : World) (B : Nat) (hr : Row w B A (ints (marks 1 n))) (hn : n ≤ 1048576) (hK : K = 1 + (n : Int)) :
    Calls Try.prog 31 #[.slice A n c, .int .i64 1] w (Same (.int .i64 K) w) := by
  subst hK
  exact heldIntS_yes B A c n 1 w hr hn (by omega) (by omega)
end Go.Proofs.Ytjplondblkkpmaa
