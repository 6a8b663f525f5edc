/-
  Walks: what the laws on what is reached call.
-/
import Derived.Test.YtblknnifccmpkaaG6C
import Derived.IntWalk
namespace Go.Proofs.Ytblknnifccmpkaa
open Go.RowKit Wo Pu

theorem asc_next {L : List Int} (h : Asc L) {k : Nat} (h0 : 1 ≤ k) (hk : k < L.length) : L[k - 1] < L[k] := List.pairwise_iff_getElem.1 h (k - 1) k (by omega) hk (by omega)

set_option maxHeartbeats 1000000 in
theorem ascending_yes (B : Nat) (A : Option Addr) (c : Nat) (L : List Int) (w : World) (hr : Row w B A (ints L)) (hm : L.length ≤ 1048576) (HA : Hid (Asc L)) :
    Calls Try.prog 40 #[.slice A L.length c] w (Ret (.bool true) w) := by
  go_enter Try.func40, Try.ntmps40
  go_wp2
  go_loopw [3] (fun i wr => ∃ k : Nat, 1 ≤ k ∧ k ≤ L.length + 1 ∧ i = .int .i64 k ∧ Dr w wr) (fun i _ => L.length - (intOf i).toNat)
  case atStart => exact ⟨1, by omega, by omega, rfl, .refl _⟩
  case round =>
    obtain ⟨k, hk0, hk, rfl, HW⟩ := hrel
    by_cases hlt : k < L.length
    · obtain ⟨ad, rfl, hb, hc⟩ := (HW.row hr).int_ hlt
      obtain ⟨ad', he, _, hc'⟩ := (HW.row hr).int_ (k := k - 1) (by omega)
      obtain rfl : ad = ad' := by injection he
      clear he
      have hlt2 := asc_next HA.out hk0 hlt
      have hle : ¬ L[k] ≤ L[k - 1] := by omega
      have k0 : 0 ≤ (k : Int) - 1 := by omega
      have k1 : (k : Int) - 1 < (L.length : Int) := by omega
      have kn : ((k : Int) - 1).toNat = k - 1 := by omega
      have kw : IntKind.i64.wrap ((k : Int) - 1) = (k : Int) - 1 := IntWalk.i64_in _ (by omega)
      go_wp2
      go_quiet (fail)
      clear kw kn
      go_wp2
      go_roundw
      case rel => exact ⟨k + 1, by omega, by omega, by go_num, HW.drewN _⟩
      case measure => simp [intOf]; omega
    · go_wp2
      go_ret
      exact .mk_ (HW.below _)

set_option maxHeartbeats 1000000 in
theorem sameIntsR_same (B C : Nat) (A A' : Option Addr) (c c' : Nat) (zs : List Int) (w : World) (hr : Row w B A (ints zs)) (hr' : Row w C A' (ints zs)) (hm : zs.length ≤ maxLen) :
    Calls Try.prog 39 #[.slice A zs.length c, .slice A' zs.length c'] w (Ret (.bool true) w) := by
  unfold maxLen at hm
  go_enter Try.func39, Try.ntmps39
  go_wp2
  go_loopw [5] (fun i wr => ∃ k : Nat, k ≤ zs.length ∧ i = .int .i64 k ∧ Dr w wr) (fun i _ => zs.length - (intOf i).toNat)
  case atStart => exact ⟨0, Nat.zero_le _, rfl, .refl _⟩
  case round =>
    obtain ⟨k, hk, rfl, HW⟩ := hrel
    by_cases hlt : k < zs.length
    · obtain ⟨ad, rfl, hb, hc⟩ := (HW.row hr).int_ hlt
      obtain ⟨ad', rfl, hb', hc'⟩ := (HW.row hr').int_ hlt
      go_wp2
      go_quiet (fail)
      go_wp2
      go_roundw
      case rel => exact ⟨k + 1, by omega, by go_num, HW.drewN _⟩
      case measure => simp [intOf]; omega
    · have hk' : k = zs.length := by omega
      subst hk'
      go_wp2
      go_ret
      exact .mk_ (HW.below _)

/-- Behind StoreGet: the object with the id, or the zero one. -/
def Stored (os : List Ob) (x : Int) (w : World) (e : Ending) (w' : World) : Prop :=
  ∃ (A : Option Addr) (c : Nat) (o : Ob), e = .returned (.tuple #[ob o.kd A o.zs.length c o.s, .bool (isIn os x)]) ∧ Own w' w.heap.size (.slice A o.zs.length c) o.zs ∧ Below w.heap.size w w' ∧ obOf os x o
theorem get_any (A : Option Addr) (c : Nat) (os : List Ob) (x : Int) (w : World) (h : Objs w w.heap.size A os) (hf : Fit os) (hn : os.length ≤ maxLen) (HS : Hid (storeB os = true)) :
    Calls Try.prog 26 #[.slice A os.length c, .int .i64 x] w (Stored os x w) := by
  obtain ⟨r, hr⟩ := at_ex os x
  obtain ⟨h1, h2⟩ := fnd_of HS.out hr
  refine (implStoreGet_Any A c os x r w h hf hn hr).mono ?_
  rintro e w' ⟨A', c', he, ho, hb⟩
  rw [h2] at he
  exact ⟨A', c', _, he, ho, hb, h1⟩
end Go.Proofs.Ytblknnifccmpkaa
