/-
  Walks of the laws on drawn objects.
-/
import Derived.Test.YtkflpgdbookdhaaDrawOb
namespace Go.Proofs.Ytkflpgdbookdhaa
open Go.RowKit Wo Pu


theorem ge_valid (kd : Int) (zs : List Int) (s : ByteArray) : (decide (0 ≤ oid kd zs s.data.toList) == vldB kd zs s.size) = true := by
  have h := oid_valid (k := kd) (zs := zs) (bs := s.data.toList)
  rw [beq_iff_eq, Bool.eq_iff_iff, decide_eq_true_eq]
  exact h


theorem oid_lt {kd : Int} {zs : List Int} {s : ByteArray} (h : vldB kd zs s.size = false) : oid kd zs s.data.toList < 0 := by rw [oid_no h]; decide
theorem oid_ge {kd : Int} {zs : List Int} {s : ByteArray} (h : vldB kd zs s.size = true) : 0 ≤ oid kd zs s.data.toList := oid_valid.2 h
end Go.Proofs.Ytkflpgdbookdhaa
