/-
  Walks: the reader opened; the draw of an object out of a code.
-/
import Derived.Test.YtblknnifccmpkaaObject
namespace Go.Proofs.Ytblknnifccmpkaa
open Go.RowKit Wo Pu

/-- A code: its bytes, as it came in. -/
def Code_ (w : World) (A : Option Addr) (c : Nat) (bs : List Int) : Prop := Row w w.heap.size A (bytesV bs) ∧ bs.length ≤ c ∧ c ≤ maxLen ∧ ∀ n ∈ bs, 0 ≤ n ∧ n < 256
theorem Code_.below {w w' : World} {A : Option Addr} {c : Nat} {bs : List Int} (h : Code_ w A c bs) (hb : Below w.heap.size w w') : Code_ w' A c bs :=
  ⟨(h.1.below hb (Nat.le_refl _)).more hb.size, h.2⟩

/-- A reader, new. -/
def Opened (w : World) (e : Ending) (w' : World) : Prop := e = .returned (.pointer (some ⟨w.heap.size, 0, none⟩)) ∧ Rd w' w.heap.size 0 ∧ Below w.heap.size w w'

theorem Wo.Row.take {w : World} {B : Nat} {A : Option Addr} {vs : List Value} (h : Row w B A vs) (k : Nat) : Row w B A (vs.take k) := by
  rcases h with rfl | ⟨ad, e, hb, hc⟩
  · exact .inl (by simp)
  · refine .inr ⟨ad, e, hb, fun j v hv => hc j v ?_⟩
    rw [List.getElem?_take] at hv
    split at hv
    · exact hv
    · cases hv

theorem l6Open_any (A : Option Addr) (c : Nat) (bs : List Int) (w : World) (h : Code_ w A c bs) :
    Calls Try.prog 56 #[.slice A bs.length c] w (Opened w) := by
  obtain ⟨hr, hn, hc, hb⟩ := h
  have hc' := hc
  unfold maxLen at hc'
  by_cases h2 : bs.length ≤ 2000
  · go_enter Try.func56, Try.ntmps56
    go_wp2
    go_ret
    have al := (Below.refl w.heap.size w).alloc (Nat.le_refl _) (.cells #[.slice A bs.length c, .int .i64 0] 108)
    exact ⟨rfl, ⟨A, c, bs, 0, heap_alloc_new w _, by omega, by omega, h2, hr.below al (Nat.le_refl _), hb⟩, al⟩
  · have hlt : (bs.take 2000).length = 2000 := by rw [List.length_take]; omega
    have hcap : 2000 ≤ c := by omega
    have h22 : (2000 : Int) < (bs.length : Int) := by omega
    go_enter Try.func56, Try.ntmps56
    go_wp2
    go_ret
    have al := (Below.refl w.heap.size w).alloc (Nat.le_refl _) (.cells #[.slice A 2000 c, .int .i64 0] 108)
    refine ⟨rfl, ⟨A, c, bs.take 2000, 0, ?_, by omega, by omega, by omega, ?_, fun n hn => hb n (List.mem_of_mem_take hn)⟩, al⟩
    · rw [hlt]
      exact heap_alloc_new w _
    · have := (hr.take 2000).below al (Nat.le_refl _)
      rw [show bytesV (bs.take 2000) = (bytesV bs).take 2000 from by simp [bytesV, List.map_take]]
      exact this

/-- An object, drawn out of a code. -/
def ObMade (w : World) (e : Ending) (w' : World) : Prop :=
  ∃ (kd : Int) (A : Option Addr) (c : Nat) (zs : List Int) (s : ByteArray), e = .returned (ob kd A zs.length c s) ∧ Own w' w.heap.size (.slice A zs.length c) zs ∧ zs.length ≤ 992 ∧ s.size ≤ 9 ∧ Below w.heap.size w w'

theorem own_five (w : World) (B : Nat) (hB : B ≤ w.heap.size) (a b c d e : Int) : Own (w.alloc (.cells #[.int .i64 a, .int .i64 b, .int .i64 c, .int .i64 d, .int .i64 e] 3)) B (.slice (some ⟨w.heap.size, 0, none⟩) [a, b, c, d, e].length 5) [a, b, c, d, e] :=
  ⟨rfl, .inr ⟨w.heap.size, 5, _, rfl, hB, heap_alloc_new w _, by simp, by decide, rfl, rfl⟩⟩

theorem Wo.Row.alloc_size {w : World} {A : Option Addr} {vs : List Value} (h : Row w w.heap.size A vs) (o : Obj) : Row (w.alloc o) (w.alloc o).heap.size A vs := (h.alloc (Nat.le_refl _) o).more (by simp)

end Go.Proofs.Ytblknnifccmpkaa
