/-
  Walks of the laws on valid names: bad ones, long ones, a name as its own pattern.
-/
import Derived.Test.YtdjfglebnblfkabDoorNamD
import Derived.Test.YtdjfglebnblfkabDoorNamX
import Derived.Test.YtdjfglebnblfkabDoorNamO
namespace Go.Proofs.YtdjfglebnblfkabDoor
open Go.RowKit Wo Pu Nm

theorem bl_app (s : ByteArray) (l : List UInt8) : bl (s ++ mk l) = bl s ++ l := by rw [bl_append, bl_mk]
theorem bl_pre (s : ByteArray) (l : List UInt8) : bl (mk l ++ s) = l ++ bl s := by rw [bl_append, bl_mk]
theorem invalid_any (s : ByteArray) (h : ¬ Name (bl s)) (hs : s.size ≤ maxLen) (w : World) : Calls Tryd.prog 18 #[.string s] w (Ret (.bool false) w) := implNameValid_is false s w ⟨(fun e => by cases e), fun e => absurd e h⟩ hs
theorem valid_any (s : ByteArray) (h : Name (bl s)) (hs : s.size ≤ maxLen) (w : World) : Calls Tryd.prog 18 #[.string s] w (Ret (.bool true) w) := implNameValid_is true s w ⟨fun _ => h, fun _ => rfl⟩ hs
theorem end_no (s : ByteArray) {b : UInt8} (hb : b ≠ 47) (hl : ¬ Lett b) : ¬ Name (bl (s ++ (⟨#[b]⟩ : ByteArray))) := by
  rw [show (⟨#[b]⟩ : ByteArray) = mk [b] from rfl, bl_app]
  exact bad_end _ hb hl

theorem match_any (p s : ByteArray) (h : Mat (bl p) (bl s)) (hp : p.size ≤ 1048600) (hs : s.size ≤ 1048600) (w : World) : Calls Tryd.prog 23 #[.string p, .string s] w (Ret (.bool true) w) := implNameMatches_is true p s w ⟨fun _ => h, fun _ => rfl⟩ hp hs
theorem nomatch_any (p s : ByteArray) (h : ¬ Mat (bl p) (bl s)) (hp : p.size ≤ 1048600) (hs : s.size ≤ 1048600) (w : World) : Calls Tryd.prog 23 #[.string p, .string s] w (Ret (.bool false) w) := implNameMatches_is false p s w ⟨(fun e => by cases e), fun e => absurd e h⟩ hp hs
end Go.Proofs.YtdjfglebnblfkabDoor
