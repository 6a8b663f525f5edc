/-
  Walks: the reader opened; the draw of an object out of a code.
-/
import Derived.Test.YtglcnlinfojflaaObject
namespace Go.Proofs.Ytglcnlinfojflaa
open Go.RowKit Wo Pu

/-- A code: its bytes, as it came in. -/
def Code_ (w : World) (A : Option Addr) (c : Nat) (bs : List Int) : Prop := Row w w.heap.size A (bytesV bs) ∧ bs.length ≤ c ∧ c ≤ maxLen ∧ ∀ n ∈ bs, 0 ≤ n ∧ n < 256
theorem Code_.below {w w' : World} {A : Option Addr} {c : Nat} {bs : List Int} (h : Code_ w A c bs) (hb : Below w.heap.size w w') : Code_ w' A c bs :=
  ⟨(h.1.below hb (Nat.le_refl _)).more hb.size, h.2⟩

/-- A reader, new. -/
def Opened (w : World) (e : Ending) (w' : World) : Prop := e = .returned (.pointer (some ⟨w.heap.size, 0, none⟩)) ∧ Rd w' w.heap.size 0 ∧ Below w.heap.size w w'

theorem Wo.Row.take {w : World} {B : Nat} {A : Option Addr} {vs : List Value} (h : Row w B A vs) (k : Nat) : Row w B A (vs.take k) := by
  rcases h with rfl | ⟨ad, e, hb, hc⟩
  · exact .inl (by simp)
  · refine .inr ⟨ad, e, hb, fun j v hv => hc j v ?_⟩
    rw [List.getElem?_take] at hv
    split at hv
    · exact hv
    · cases hv

theorem l6Open_any (A : Option Addr) (c : Nat) (bs : List Int) (w : World) (h : Code_ w A c bs) :
    Calls Try.prog 48 #[.slice A bs.length c] w (Opened w) := by
  obtain ⟨hr, hn, hc, hb⟩ := h
  have hc' := hc
  unfold maxLen at hc'
  by_cases h2 : bs.length ≤ 2000
  · go_enter Try.func48, Try.ntmps48
    go_wp2
    go_ret
    have al := (Below.refl w.heap.size w).alloc (Nat.le_refl _) (.cells #[.slice A bs.length c, .int .i64 0] 77)
    exact ⟨rfl, ⟨A, c, bs, 0, heap_alloc_new w _, by omega, by omega, h2, hr.below al (Nat.le_refl _), hb⟩, al⟩
  · have hlt : (bs.take 2000).length = 2000 := by rw [List.length_take]; omega
    have hcap : 2000 ≤ c := by omega
    have h22 : (2000 : Int) < (bs.length : Int) := by omega
    go_enter Try.func48, Try.ntmps48
    go_wp2
    go_ret
    have al := (Below.refl w.heap.size w).alloc (Nat.le_refl _) (.cells #[.slice A 2000 c, .int .i64 0] 77)
    refine ⟨rfl, ⟨A, c, bs.take 2000, 0, ?_, by omega, by omega, by omega, ?_, fun n hn => hb n (List.mem_of_mem_take hn)⟩, al⟩
    · rw [hlt]
      exact heap_alloc_new w _
    · have := (hr.take 2000).below al (Nat.le_refl _)
      rw [show bytesV (bs.take 2000) = (bytesV bs).take 2000 from by simp [bytesV, List.map_take]]
      exact this

/-- An object, drawn out of a code. -/
def ObMade (w : World) (e : Ending) (w' : World) : Prop :=
  ∃ (kd : Int) (A : Option Addr) (c : Nat) (zs : List Int) (s : ByteArray), e = .returned (ob kd A zs.length c s) ∧ Own w' w.heap.size (.slice A zs.length c) zs ∧ zs.length ≤ 992 ∧ s.size ≤ 9 ∧ Below w.heap.size w w'

theorem own_five (w : World) (B : Nat) (hB : B ≤ w.heap.size) (a b c d e : Int) : Own (w.alloc (.cells #[.int .i64 a, .int .i64 b, .int .i64 c, .int .i64 d, .int .i64 e] 3)) B (.slice (some ⟨w.heap.size, 0, none⟩) [a, b, c, d, e].length 5) [a, b, c, d, e] :=
  ⟨rfl, .inr ⟨w.heap.size, 5, _, rfl, hB, heap_alloc_new w _, by simp, by decide, rfl, rfl⟩⟩

set_option maxHeartbeats 1000000 in
theorem DrawObjectValid_any (A : Option Addr) (c : Nat) (bs : List Int) (w : World) (h : Code_ w A c bs) :
    Calls Try.prog 23 #[.slice A bs.length c] w (ObMade w) := by
  go_enter Try.func23, Try.ntmps23
  go_wp2_with fail
  have a0 := (Below.refl w.heap.size w).alloc (Nat.le_refl _) (.cells #[.int .i64 0, .slice none 0 0, .string ⟨#[]⟩] 27)
  have u0 := Blk.new_ w 27 (.int .i64 0) (.slice none 0 0) (.string ⟨#[]⟩)
  refine (l6Open_any A c bs _ (h.below a0)).mono ?_
  rintro e w1 ⟨rfl, hR1, hb1⟩
  have b1 := a0.trans (hb1.mono (by simp))
  have u1 := u0.below hb1 u0.lt
  have z1 := hb1.size
  simp only [World.size_alloc] at hR1 z1
  clear hb1 u0 a0
  go_wp2_with fail
  have a1 := (Below.refl w1.heap.size w1).alloc (Nat.le_refl _) (.cells #[.int .i64 3, .int .i64 70, .int .i64 500, .int .i64 501, .int .i64 800] 3)
  refine (l91Object_any (w.heap.size + 1) 0 _ _ [3, 70, 500, 501, 800] _ (hR1.below a1 hR1.lt) (by omega) (own_five w1 (w.heap.size + 1 + 1) hR1.lt _ _ _ _ _) (by simp)).mono ?_
  rintro e w2 ⟨kd, A2, c2, zs, s, rfl, ho, hz, hs, hR2, hT⟩
  have u2 := (u1.below a1 u1.lt).but hT (by omega)
  have b2 := (b1.trans (a1.mono (by omega))).trans (hT.below (B := w.heap.size) (by simp; omega) (by omega))
  unfold ob
  obtain ⟨r0, r1, r2, rf⟩ := u2.reads
  have rf0 := rf 0
  have rf1 := rf 1
  have rf2 := rf 2
  clear rf
  go_wp2
  refine bodyPost_ret (v := ob kd A2 zs.length c2 s) (by simp [results, Try.results23, go_sem, ob, r0, r1, r2]) rfl ⟨kd, A2, c2, zs, s, rfl, ?_, hz, hs, ?_⟩
  · have e := ((ho.far u2 0 (.int .i64 kd)).far (u2.set0 _) 1 (.slice A2 zs.length c2)).far ((u2.set0 _).set1 _) 2 (.string s)
    exact e.base (by simp; omega)
  · exact ((b2.setCell (p := ⟨w.heap.size, 0, none⟩) (Nat.le_refl _) _).setCell (p := ⟨w.heap.size, 1, none⟩) (Nat.le_refl _) _).setCell (p := ⟨w.heap.size, 2, none⟩) (Nat.le_refl _) _

theorem Wo.Row.alloc_size {w : World} {A : Option Addr} {vs : List Value} (h : Row w w.heap.size A vs) (o : Obj) : Row (w.alloc o) (w.alloc o).heap.size A vs := (h.alloc (Nat.le_refl _) o).more (by simp)

theorem DrawObjectId_any (A : Option Addr) (c : Nat) (bs : List Int) (w : World) (h : Code_ w A c bs) :
    Calls Try.prog 22 #[.slice A bs.length c] w (ObMade w) := by
  go_enter Try.func22, Try.ntmps22
  go_wp2_with fail
  have a0 := (Below.refl w.heap.size w).alloc (Nat.le_refl _) (.cells #[.int .i64 0, .slice none 0 0, .string ⟨#[]⟩] 27)
  have u0 := Blk.new_ w 27 (.int .i64 0) (.slice none 0 0) (.string ⟨#[]⟩)
  refine (DrawObjectValid_any A c bs _ (h.below a0)).mono ?_
  rintro e w1 ⟨kd, A2, c2, zs, s, rfl, ho, hz, hs, hb1⟩
  have b1 := a0.trans (hb1.mono (by simp))
  have u1 := u0.below hb1 u0.lt
  unfold ob
  obtain ⟨r0, r1, r2, rf⟩ := u1.reads
  have rf0 := rf 0
  have rf1 := rf 1
  have rf2 := rf 2
  clear rf
  go_wp2
  refine bodyPost_ret (v := ob kd A2 zs.length c2 s) (by simp [results, Try.results22, go_sem, ob, r0, r1, r2]) rfl ⟨kd, A2, c2, zs, s, rfl, ?_, hz, hs, ?_⟩
  · have e := ((ho.far u1 0 (.int .i64 kd)).far (u1.set0 _) 1 (.slice A2 zs.length c2)).far ((u1.set0 _).set1 _) 2 (.string s)
    exact e.base (by simp)
  · exact ((b1.setCell (p := ⟨w.heap.size, 0, none⟩) (Nat.le_refl _) _).setCell (p := ⟨w.heap.size, 1, none⟩) (Nat.le_refl _) _).setCell (p := ⟨w.heap.size, 2, none⟩) (Nat.le_refl _) _
end Go.Proofs.Ytglcnlinfojflaa
