/-
  Walk: the drawn bytes of LogScan.
-/
import Derived.Test.YtclonfhpabdpgaaLogQ
import Derived.Lib.ConvBytes
import Derived.Deep.Cut
namespace Go.Proofs.Ytclonfhpabdpgaa
open Go.RowKit Wo Pu Lg


/-- Block g begins with the bytes bs, and one may store into them. -/
def Byt (w : World) (g : Nat) (bs : List UInt8) : Prop := ∃ cs : Array Value, w.heap[g]? = some (.cells cs 5 (cs.size, cs.size + 1)) ∧ bs.length ≤ cs.size ∧ ∀ j (hj : j < bs.length), cs[j]? = some (.int .u8 (bs[j].toNat : Int))
theorem Byt.but {w w' : World} {R g : Nat} {bs : List UInt8} (h : Byt w g bs) (hb : But R w w') (hR : g ≠ R) : Byt w' g bs := by
  obtain ⟨cs, h1, h2⟩ := h
  refine ⟨cs, ?_, h2⟩
  have hl : g < w.heap.size := by
    rcases Nat.lt_or_ge g w.heap.size with h3 | h3
    · exact h3
    · rw [Array.getElem?_eq_none h3] at h1; cases h1
  exact (hb.block g hl (fun e => hR (by injection e))).trans h1
theorem Byt.lt {w : World} {g : Nat} {bs : List UInt8} (h : Byt w g bs) : g < w.heap.size := by
  obtain ⟨cs, h1, _⟩ := h
  rcases Nat.lt_or_ge g w.heap.size with h3 | h3
  · exact h3
  · rw [Array.getElem?_eq_none h3] at h1; cases h1
theorem Byt.cell {w : World} {g : Nat} {bs : List UInt8} (h : Byt w g bs) {j : Nat} (hj : j < bs.length) : w.cell? ⟨g, j, none⟩ = some (.int .u8 (bs[j].toNat : Int)) := by
  obtain ⟨cs, h1, _, h2⟩ := h
  simp only [World.cell?, h1]
  exact h2 j hj
theorem Byt.frozen {w : World} {g : Nat} {bs : List UInt8} (h : Byt w g bs) {j : Nat} (hj : j < bs.length) : w.frozen? ⟨g, j, none⟩ = false := by
  obtain ⟨cs, h1, h3, h2⟩ := h
  simp [World.frozen?, h1]
  omega
theorem Byt.set {w : World} {g : Nat} {bs : List UInt8} (h : Byt w g bs) {k : Nat} (hk : k < bs.length) (b : UInt8) : Byt (w.setCell ⟨g, k, none⟩ (.int .u8 (b.toNat : Int))) g (bs.set k b) := by
  obtain ⟨cs, h1, h3, h2⟩ := h
  refine ⟨cs.setIfInBounds k (.int .u8 (b.toNat : Int)), ?_, by simpa using h3, fun j hj => ?_⟩
  · simp [World.setCell, Array.getElem?_modify, h1]
  · rw [List.length_set] at hj
    rw [List.getElem_set]
    by_cases e : k = j
    · subst e
      rw [if_pos rfl, Array.getElem?_setIfInBounds_self, if_pos (by omega)]
    · rw [if_neg e, Array.getElem?_setIfInBounds_ne e]
      exact h2 j hj
theorem Byt.back {w : World} {g c : Nat} {bs : List UInt8} (h : Byt w g bs) : (convert 22 9 (.slice (some ⟨g, 0, none⟩) bs.length c)).run Try.prog w = .ok (.string (mk bs)) w := by
  refine run_convert_bytes_back (P := Try.prog) w 22 9 5 ⟨g, 0, none⟩ c bs Try.underlying22 Try.underlying5 Try.underlying9 (fun j hj => ?_)
  rw [add_lit]
  exact h.cell hj
theorem bytes_made (w : World) (s : ByteArray) : ∃ (w' : World) (cap : Nat), (convert 9 22 (.string s)).run Try.prog w = .ok (.slice (some ⟨w.heap.size, 0, none⟩) s.size cap) w' ∧ Below w.heap.size w w' ∧ Byt w' w.heap.size (bl s) := by
  obtain ⟨w', cap, h1, h2, -⟩ := bytes_of w s
  have h3 := Lib.run_convert_string_bytes w 9 22 5 s Try.underlying9 Try.underlying22 Try.underlying5
  refine ⟨w', cap, h1, h2, ?_⟩
  rw [h1] at h3
  injection h3 with _ h3
  subst h3
  have hn := Lib.bytesWorld_at_new w 5 s
  refine ⟨_, hn, ?_, fun j hj => ?_⟩
  · have := bl_size s
    simp [Lib.bytesCells]
    omega
  · have hj' : j < s.size := by rw [← bl_size s]; exact hj
    have hc := Lib.bytesWorld_cell w 5 s j hj'
    simp only [World.cell?, hn] at hc
    refine (show (Lib.bytesCells w 5 s)[j]? = _ from hc).trans ?_
    have e : s.data.toList.getD j 0 = (bl s)[j] := by
      rw [List.getD_eq_getElem?_getD, List.getElem?_eq_getElem (by simpa using hj')]
      rfl
    rw [e]
    rfl
theorem wrap_byte (z : Int) : ∃ b : UInt8, IntKind.u8.wrap z = (b.toNat : Int) := by
  have h0 : 0 ≤ IntKind.u8.wrap z ∧ IntKind.u8.wrap z < 256 := by rw [IntKind.wrap_u8]; omega
  exact ⟨UInt8.ofNat (IntKind.u8.wrap z).toNat, byte_nat h0.1 h0.2⟩
theorem field_bytes (s : ByteArray) (y : Int) (W : World) : (Instr.field 32 (.agg #[.string s, .int .i64 y]) 0).run Try.prog W = .ok (.string s) W := by kernel_rfl
set_option maxHeartbeats 4000000 in
theorem DrawLogScan_any (A : Option Addr) (c : Nat) (bs : List Int) (w : World) (h : Code_ w A c bs) :
    Calls Try.prog 20 #[.slice A bs.length c] w (TextMade 120 w) := by
  go_enter Try.func20, Try.ntmps20
  go_wp2_with fail
  refine (l6Open_any A c bs w h).mono ?_
  rintro e w1 ⟨rfl, R1, b1⟩
  go_wp2_with fail
  refine (l91Disk_any w.heap.size 0 w1 R1 (by omega)).mono ?_
  rintro e w2 ⟨s, y, rfl, hs, -, -, R2, T2⟩
  have b2 := b1.trans (T2.below b1.size (Nat.le_refl _))
  have hfd := field_bytes s y
  clear b1 R1 T2
  by_cases hz : s.size = 0
  · have e0 : decide (0 < (s.size : Int)) = false := decide_eq_false (by omega)
    have e1 : decide (0 < s.size) = false := decide_eq_false (by omega)
    clear hz
    go_wp2_with fail
    go_ret
    exact ⟨s, rfl, hs, b2⟩
  · have e0 : decide (0 < (s.size : Int)) = true := decide_eq_true (by omega)
    have e1 : decide (0 < s.size) = true := decide_eq_true (by omega)
    have hz0 : 0 < s.size := by omega
    clear hz
    go_wp2_with fail
    refine (pick_any w.heap.size _ 3 w2 R2 (by omega) (by omega) (by omega)).mono ?_
    rintro e w3 ⟨x, rfl, x0, x1, R3, T3⟩
    have b3 := b2.trans (T3.below b2.size (Nat.le_refl _))
    clear b2 R2 T3
    by_cases hx : x = 0
    · have e2 : (x == 0) = true := by rw [hx]; rfl
      clear hx
      obtain ⟨w4, cap, hrun, hb4, hB⟩ := bytes_made w3 s
      have R4 := R3.below hb4 R3.lt
      have b4 := b3.trans (hb4.mono b3.size)
      have hne : w3.heap.size ≠ w.heap.size := fun e => by have := R3.lt; omega
      have hlt4 : w3.heap.size < w4.heap.size := hB.lt
      have hbl := bl_size s
      go_wp2_with fail
      refine (pick_any w.heap.size _ (s.size : Int) w4 R4 (by omega) (by omega) (by omega)).mono ?_
      rintro e w5 ⟨x5, rfl, i0, i1, R5, T5⟩
      have B5 := hB.but T5 hne
      have b5 := b4.trans (T5.below b4.size (Nat.le_refl _))
      obtain ⟨k, rfl⟩ := Int.eq_ofNat_of_zero_le i0
      have hk : k < (bl s).length := by omega
      clear R4 T5 b4 hB hrun
      go_wp2_with fail
      refine (pick_any w.heap.size _ 16 w5 R5 (by omega) (by omega) (by omega)).mono ?_
      rintro e w6 ⟨x6, rfl, j0, j1, R6, T6⟩
      have B6 := B5.but T6 hne
      have b6 := b5.trans (T6.below b5.size (Nat.le_refl _))
      clear R5 T6 b5 B5
      go_wp2_with fail
      refine (pick_any w.heap.size _ 16 w6 R6 (by omega) (by omega) (by omega)).mono ?_
      rintro e w7 ⟨x7, rfl, m0, m1, R7, T7⟩
      have B7 := B6.but T7 hne
      have b7 := b6.trans (T7.below b6.size (Nat.le_refl _))
      have c7 := B7.cell hk
      have f7 := B7.frozen hk
      obtain ⟨z0, z1⟩ := byte_of j0 j1 m0 m1
      clear R6 T7 b6 B6
      obtain ⟨z, hz⟩ : ∃ z, x6 * x7 = z := ⟨_, rfl⟩
      rw [hz] at z0 z1
      obtain ⟨b, rfl⟩ : ∃ b : UInt8, z = (b.toNat : Int) := ⟨_, byte_nat z0 z1⟩
      have hz8 := b7.size
      have hw3 := b3.size
      have B8 := B7.set hk b
      have hback := B8.back (c := cap)
      rw [List.length_set, hbl] at hback
      have b8 := b7.setCell (p := ⟨w3.heap.size, k, none⟩) hw3 (.int .u8 (b.toNat : Int))
      have R8 := R7.far (g := w3.heap.size) R3.lt k (.int .u8 (b.toNat : Int))
      have hts : (mk ((bl s).set k b)).size = s.size := by rw [mk_size, List.length_set, hbl]
      clear B7 B8 b7
      generalize mk ((bl s).set k b) = t at *
      have t0 : 0 < t.size := by omega
      have t1 : t.size ≤ 120 := by omega
      have e3 : decide (0 < (t.size : Int)) = true := decide_eq_true (by omega)
      have e4 : decide (0 < t.size) = true := decide_eq_true t0
      clear hts hz0
      go_upto_region 7 with fail
      generalize w7.setCell ⟨w3.heap.size, k, none⟩ (.int .u8 (b.toNat : Int)) = W8 at *
      go_wp2_with fail
      refine (pick_any w.heap.size _ 3 W8 R8 (by omega) (by omega) (by omega)).mono ?_
      rintro e w8 ⟨x8, rfl, p0, p1, R8, T8⟩
      have b8 := b8.trans (T8.below b8.size (Nat.le_refl _))
      by_cases h8 : x8 = 0
      · have e8 : (x8 == 0) = true := by rw [h8]; rfl
        clear h8
        go_wp2_with fail
        refine (pick_any w.heap.size _ (t.size : Int) w8 R8 (by omega) (by omega) (by omega)).mono ?_
        rintro e w9 ⟨x9, rfl, q0, q1, R9, T9⟩
        have b9 := b8.trans (T9.below b8.size (Nat.le_refl _))
        have hx9 : (t.extract 0 x9.toNat).size ≤ 120 := by rw [ByteArray.size_extract]; omega
        have q2 : x9 ≤ (t.size : Int) := by omega
        go_wp2_with fail
        go_ret
        exact ⟨_, rfl, hx9, b9⟩
      · have e8 : (x8 == 0) = false := by rw [beq_eq_false_iff_ne]; exact h8
        clear h8
        go_wp2_with fail
        go_ret
        exact ⟨_, rfl, t1, b8⟩
    · have e2 : (x == 0) = false := by rw [beq_eq_false_iff_ne]; exact hx
      clear hx
      go_wp2_with fail
      refine (pick_any w.heap.size _ 3 w3 R3 (by omega) (by omega) (by omega)).mono ?_
      rintro e w8 ⟨x8, rfl, p0, p1, R8, T8⟩
      have b8 := b3.trans (T8.below b3.size (Nat.le_refl _))
      by_cases h8 : x8 = 0
      · have e8 : (x8 == 0) = true := by rw [h8]; rfl
        clear h8
        go_wp2_with fail
        refine (pick_any w.heap.size _ (s.size : Int) w8 R8 (by omega) (by omega) (by omega)).mono ?_
        rintro e w9 ⟨x9, rfl, q0, q1, R9, T9⟩
        have b9 := b8.trans (T9.below b8.size (Nat.le_refl _))
        have hx9 : (s.extract 0 x9.toNat).size ≤ 120 := by rw [ByteArray.size_extract]; omega
        have q2 : x9 ≤ (s.size : Int) := by omega
        go_wp2_with fail
        go_ret
        exact ⟨_, rfl, hx9, b9⟩
      · have e8 : (x8 == 0) = false := by rw [beq_eq_false_iff_ne]; exact h8
        clear h8
        go_wp2_with fail
        go_ret
        exact ⟨_, rfl, hs, b8⟩
end Go.Proofs.Ytclonfhpabdpgaa
