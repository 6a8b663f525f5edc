/-
  Walks: the frame of a record, of the program and of the model.
-/
import Derived.Test.YtclonfhpabdpgaaLogG
import Derived.Deep.RegionHeld3
import Derived.Deep.RegionLaw
import Derived.Lib.AppendStr
namespace Go.Proofs.Ytclonfhpabdpgaa
open Go.RowKit Go.Lib Wo Pu Lg

/-- The text s as a slice of bytes of the call's own, not nil. -/
def OwnStr (w : World) (B : Nat) (v : Value) (s : ByteArray) : Prop := w.ownsRow B 5 1 v s.size (strCells s) ∧ v ≠ .slice none 0 0
theorem strCells_nil : strCells ⟨#[]⟩ = [] := rfl
theorem strCells_append (s t : ByteArray) : strCells (s ++ t) = strCells s ++ strCells t := by
  unfold strCells
  rw [ByteArray.data_append, Array.toList_append, List.map_append]
theorem OwnStr.nil_new {w : World} {B : Nat} (hB : B ≤ w.heap.size) : OwnStr (w.alloc (.cells #[] 5)) B (.slice (some ⟨w.heap.size, 0, none⟩) 0 0) ⟨#[]⟩ := ⟨nil_own hB _ _, fun h => by cases h⟩
theorem OwnStr.one_new {w : World} {B : Nat} (hB : B ≤ w.heap.size) {x : Int} {b : UInt8} (hx : x = (b.toNat : Int)) : OwnStr (w.alloc (.cells #[.int .u8 x] 5)) B (.slice (some ⟨w.heap.size, 0, none⟩) 1 1) (mk [b]) := by
  subst hx
  exact ⟨⟨rfl, .inr ⟨w.heap.size, 1, _, rfl, hB, heap_alloc_new w _, by simp [mk_size], by decide, rfl, rfl⟩⟩, fun h => by cases h⟩
theorem OwnStr.form {w : World} {B : Nat} {v : Value} {s : ByteArray} (h : OwnStr w B v s) : ∃ g c, v = .slice (some ⟨g, 0, none⟩) s.size c ∧
    (convert 22 9 v).run Try.prog w = .ok (.string s) w := by
  obtain ⟨h1, h2⟩ := h
  have h3 := h1
  rcases h1.2 with ⟨rfl, _⟩ | ⟨g, cap, cur, rfl, _⟩
  · exact absurd rfl h2
  · refine ⟨g, cap, rfl, ?_⟩
    have hl : (bl s).length = s.size := bl_size s
    have := run_convert_bytes_back (P := Try.prog) w 22 9 5 ⟨g, 0, none⟩ cap (bl s) Try.underlying22 Try.underlying5 Try.underlying9 (fun j hj => World.ownsRow.cells h3 (g := g) rfl j _ (by
      unfold strCells
      rw [List.getElem?_map]
      have e : s.data.toList[j]? = some ((bl s)[j]) := List.getElem?_eq_getElem hj
      rw [e]; rfl))
    rw [hl] at this
    exact this
theorem OwnStr.below {w w' : World} {B C : Nat} {v : Value} {s : ByteArray} (h : OwnStr w B v s) (hb : Below C w w') (hC : w.heap.size ≤ C) : OwnStr w' B v s := ⟨own_below h.1 hb hC, h.2⟩
theorem strCells_one (b : UInt8) : strCells (mk [b]) = [.int .u8 (b.toNat : Int)] := rfl
theorem one_byte (x : Int) : ∀ u ∈ [Value.int .u8 x], u.oneCell' = true := by
  intro u hu
  rw [List.mem_singleton.1 hu]
  rfl

theorem str_app {w : World} {B : Nat} {v : Value} {t : ByteArray} {x : UInt8} (h : w.ownsRow B 5 1 v (t.size + 1) (strCells t ++ [.int .u8 (x.toNat : Int)])) (hn : v ≠ .slice none 0 0) :
    ∃ g c, v = .slice (some ⟨g, 0, none⟩) (t.size + 1) c ∧ (convert 22 9 (.slice (some ⟨g, 0, none⟩) (t.size + 1) c)).run Try.prog w = .ok (.string (t ++ mk [x])) w := by
  have e1 : (t ++ mk [x]).size = t.size + 1 := by rw [ByteArray.size_append]; rfl
  have e2 : strCells t ++ [.int .u8 (x.toNat : Int)] = strCells (t ++ mk [x]) := by rw [strCells_append, strCells_one]
  rw [← e1, e2] at h
  obtain ⟨g, c, rfl, hc⟩ := OwnStr.form (w := w) (B := B) (v := v) (s := t ++ mk [x]) ⟨h, hn⟩
  rw [e1] at hc
  exact ⟨g, c, by rw [e1], hc⟩

theorem frame_parts (s : ByteArray) : mk [lenB (bl s)] ++ s ++ mk [chB (bl s)] = mk (fr (bl s)) := by
  apply bl_inj
  rw [bl_append, bl_append, bl_mk, bl_mk, bl_mk]
  simp [fr]

set_option maxHeartbeats 4000000 in
theorem implLogFrame_yes (s : ByteArray) (w : World) (h1 : 1 ≤ s.size) (h2 : s.size ≤ 12) :
    Calls Try.prog 16 #[.string s] w (Ret (.string (mk (fr (bl s)))) w) := by
  obtain ⟨i0, hi, hz0, hz1, hz2⟩ := info_of info_byte
  have hl : (s.size : Int) = ((lenB (bl s)).toNat : Int) := by rw [lenB_toNat (by rw [bl_size]; exact h2), bl_size]
  have HC := hid (chB_toNat (r := bl s) (by rw [bl_size]; exact h2))
  have HF := hid (frame_parts s)
  have v1 := OwnStr.one_new (w := w) (Nat.le_refl _) hl
  have b1 := (Below.refl w.heap.size w).alloc (Nat.le_refl _) (.cells #[.int .u8 (s.size : Int)] 5)
  have z1 : w.heap.size ≤ (w.alloc (.cells #[.int .u8 (s.size : Int)] 5)).heap.size := by simp
  obtain ⟨r1, n1⟩ := v1
  have E1 : Hid ((mk [lenB (bl s)]).size + s.size = (mk [lenB (bl s)] ++ s).size) := by show _ = _; rw [ByteArray.size_append]
  have E2 : Hid (strCells (mk [lenB (bl s)]) ++ strCells s = strCells (mk [lenB (bl s)] ++ s)) := (strCells_append _ _).symm
  have k1 : (mk [lenB (bl s)]).size = 1 := rfl
  clear hl
  go_enter Try.func16, Try.ntmps16
  go_wp2_with fail
  refine (recordFits_yes _ _ (by omega) (by omega)).mono ?_
  rintro e w' ⟨rfl, rfl⟩
  go_wp2_with (at_builtin; go_must (refine wpList_append_own_string _ rfl _ _ 22 9 rfl w.heap.size 5 i0 Try.underlying22 Try.underlying9 hi hz0 hz1 hz2 _ 1 (strCells (mk [lenB (bl s)])) rfl r1 s rfl (by unfold maxLen; omega) (by omega) z1 ?_); intro u2 w2 hown hg hnil)
  have lt1 := World.ownsRow.lt r1
  have b2 : Below w.heap.size w w2 := b1.grown hg z1 (fun j hj => (lt1 j hj).1)
  rw [E2.out] at hown
  have hown2 : w2.ownsRow w.heap.size 5 1 u2 (mk [lenB (bl s)] ++ s).size (strCells (mk [lenB (bl s)] ++ s)) := by rw [← E1.out]; exact hown
  have v2 : OwnStr w2 w.heap.size u2 (mk [lenB (bl s)] ++ s) := ⟨hown2, fun e => n1 (hnil.1 e).1⟩
  clear hown hg hnil hown2 lt1 r1 n1 E1 E2 b1 z1
  refine (recordCheck_val _ s _ h2 HC.out.symm).mono ?_
  rintro e w3 ⟨rfl, hb3⟩
  have z2 := b2.size
  have v3 := v2.below hb3 (Nat.le_refl _)
  have b3 := b2.trans (hb3.mono z2)
  have z3 := b3.size
  obtain ⟨r3, n3⟩ := v3
  have k2 : (mk [lenB (bl s)] ++ s).size ≤ 13 := by rw [ByteArray.size_append, mk_size]; simp; omega
  have a3 := World.ownsRow.alloc r3 (.cells #[.int .u8 ((chB (bl s)).toNat : Int)] 5)
  have b4 := b3.alloc z3 (.cells #[.int .u8 ((chB (bl s)).toNat : Int)] 5)
  clear v2 b2 hb3 z2 HC
  generalize mk [lenB (bl s)] ++ s = t at *
  generalize chB (bl s) = x at *
  go_wp2_with (at_builtin; go_must (refine wpList_append_own _ rfl _ _ 22 rfl w.heap.size 5 i0 (.int .u8 0) 1 1 Try.underlying22 hi hz0 hz1 hz2 rfl (by decide) _ t.size (strCells t) rfl a3 ⟨w3.heap.size, 0, none⟩ 1 1 [.int .u8 (x.toNat : Int)] rfl rfl (cell_one_new _ _ _) (one_byte _) (by unfold maxLen; omega) (by omega) (by simp; omega) ?_); intro u4 w4 hown hg hnil; obtain ⟨g4, c4, rfl, hcv⟩ := str_app hown (fun e => n3 (hnil.1 e).1))
  have lt1 := World.ownsRow.lt r3
  have b5 : Below w.heap.size w w4 := b4.grown hg (by simp; omega) (fun j hj => (lt1 j hj).1)
  clear hcv
  go_ret
  rw [HF.out]
  exact .mk_ b5

theorem implLogFrame_no (s : ByteArray) (w : World) (hs : s.size ≤ maxLen) (h : ¬ (1 ≤ s.size ∧ s.size ≤ 12)) :
    Calls Try.prog 16 #[.string s] w (Ret (.string ⟨#[]⟩) w) := by
  unfold maxLen at hs
  go_enter Try.func16, Try.ntmps16
  go_wp2_with (go_at_call 36; refine (recordFits_no _ _ (by omega)).mono ?_; rintro e w' ⟨rfl, rfl⟩)
  go_ret
  exact .mk_ (Below.refl _ _)

/-- What LogFrame answers. -/
def frameB (s : ByteArray) : ByteArray := if 1 ≤ s.size ∧ s.size ≤ 12 then mk (fr (bl s)) else ⟨#[]⟩
theorem frameB_yes {s : ByteArray} (h : 1 ≤ s.size ∧ s.size ≤ 12) : frameB s = mk (fr (bl s)) := if_pos h
theorem frameB_no {s : ByteArray} (h : ¬ (1 ≤ s.size ∧ s.size ≤ 12)) : frameB s = ⟨#[]⟩ := if_neg h
theorem implLogFrame_any (s : ByteArray) (w : World) (hs : s.size ≤ maxLen) :
    Calls Try.prog 16 #[.string s] w (Ret (.string (frameB s)) w) := by
  by_cases h : 1 ≤ s.size ∧ s.size ≤ 12
  · rw [frameB_yes h]; exact implLogFrame_yes s w h.1 h.2
  · rw [frameB_no h]; exact implLogFrame_no s w hs h

theorem conv_at (x : Int) (b : UInt8) (hx : x = (b.toNat : Int)) (W : World) (g : Nat) (h : W.cell? ⟨g, 0, none⟩ = some (.int .u8 x)) : (convert 22 9 (.slice (some ⟨g, 0, none⟩) 1 1)).run Try.prog W = .ok (.string (mk [b])) W := by
  subst hx
  refine run_convert_bytes_back (P := Try.prog) W 22 9 5 ⟨g, 0, none⟩ 1 [b] Try.underlying22 Try.underlying5 Try.underlying9 ?_
  intro j hj
  simp only [List.length_cons, List.length_nil] at hj
  obtain rfl : j = 0 := by omega
  simpa [add_zero] using h

set_option maxHeartbeats 4000000 in
theorem l4Frame_any (s : ByteArray) (w : World) (h2 : s.size ≤ 12) :
    Calls Try.prog 39 #[.string s] w (Ret (.string (mk (fr (bl s)))) w) := by
  have hl : (s.size : Int) = ((lenB (bl s)).toNat : Int) := by rw [lenB_toNat (by rw [bl_size]; exact h2), bl_size]
  have HC := hid (chB_toNat (r := bl s) (by rw [bl_size]; exact h2))
  have HF := hid (frame_parts s)
  have c1 := conv_at _ _ hl
  have c2 := conv_at _ (chB (bl s)) rfl
  have k1 : (mk [lenB (bl s)]).size = 1 := rfl
  have k2 : (mk [chB (bl s)]).size = 1 := rfl
  clear hl
  generalize mk [lenB (bl s)] = t1 at *
  generalize hx : chB (bl s) = x at *
  have HX := hid hx
  clear hx
  generalize mk [x] = t2 at *
  have hw : IntKind.u8.wrap (s.size : Int) = (s.size : Int) := by rw [IntKind.wrap_u8]; omega
  have z1 : ¬ 9223372036854775807 < 1 + s.size := by omega
  have z2 : ¬ 9223372036854775807 < 1 + s.size + 1 := by omega
  go_enter Try.func39, Try.ntmps39
  go_wp2_with fail
  go_region_with (go_at_call 44; refine (l4Check_val _ s _ h2 HC.out.symm).mono ?_; rintro e w' ⟨rfl, rfl⟩)
  all_goals
    go_wp2
    go_ret
    rw [HF.out]
    exact .mk_ ((((Below.refl _ _).alloc (Nat.le_refl _) _).alloc (by simp) _).drew)

theorem specLogFrame_any (s : ByteArray) (w : World) (hs : s.size ≤ maxLen) :
    Calls Try.prog 17 #[.string s] w (Ret (.string (frameB s)) w) := by
  unfold maxLen at hs
  by_cases h : 1 ≤ s.size ∧ s.size ≤ 12
  · rw [frameB_yes h]
    go_enter Try.func17, Try.ntmps17
    go_wp2_with fail
    refine (l6In_yes _ _ _ _ (by omega) (by omega)).mono ?_
    rintro e w' ⟨rfl, rfl⟩
    go_wp2_with fail
    refine (l4Frame_any s _ h.2).mono ?_
    rintro e w' ⟨rfl, hb⟩
    go_wp2
    go_ret
    exact .mk_ hb
  · rw [frameB_no h]
    go_enter Try.func17, Try.ntmps17
    go_wp2_with fail
    refine (l6In_no _ _ _ _ (by omega)).mono ?_
    rintro e w' ⟨rfl, rfl⟩
    go_wp2
    go_ret
    exact .mk_ (Below.refl _ _)
end Go.Proofs.Ytclonfhpabdpgaa
