/-
  Walks: a text split at slashes, by Go's library and by the model.
-/
import Derived.Test.YtdjfglebnblfkabDoorNamK
import Derived.Lib.Bytealg
import Derived.Lib.Split
import Derived.Deep.OwnRows
import Derived.Deep.LoopGhost
namespace Go.Proofs.YtdjfglebnblfkabDoor
open Go.RowKit Wo Pu Nm

/-- The parts of a text. -/
def cutB (s : ByteArray) : List ByteArray := (cutL (bl s)).map mk
theorem cutB_length (s : ByteArray) : (cutB s).length = (bl s).count 47 + 1 := by unfold cutB; rw [List.length_map, cut_length]
theorem cutB_few (s : ByteArray) : (cutB s).length ≤ s.size + 1 := by unfold cutB; rw [List.length_map, ← bl_size]; exact cut_few _
theorem cutB_pos (s : ByteArray) : 0 < (cutB s).length := by rw [cutB_length]; omega
theorem bl_cutB (s : ByteArray) : (cutB s).map bl = cutL (bl s) := by
  unfold cutB
  rw [List.map_map]
  conv => rhs; rw [← List.map_id (cutL (bl s))]
  exact List.map_congr_left fun r _ => bl_mk r

/-! ### Where a slash is. -/
theorem index_cases (l : List UInt8) : (Lib.indexByte l 47 = -1 ∧ Clear l) ∨ ∃ p r, l = p ++ 47 :: r ∧ Clear p ∧ Lib.indexByte l 47 = (p.length : Nat) := by
  induction l with
  | nil => exact .inl ⟨rfl, .nil⟩
  | cons b l ih =>
    unfold Lib.indexByte
    by_cases hb : b = 47
    · subst hb
      exact .inr ⟨[], l, rfl, .nil, by rw [if_pos (by decide)]; rfl⟩
    · rw [if_neg (by simpa using hb)]
      rcases ih with ⟨h1, h2⟩ | ⟨p, r, h1, h2, h3⟩
      · exact .inl ⟨by rw [if_pos (by rw [h1]; decide)], .cons hb h2⟩
      · refine .inr ⟨b :: p, r, by rw [h1]; rfl, .cons hb h2, ?_⟩
        rw [h3, if_neg (by simp), List.length_cons]
        omega
theorem liteIndexByte_any (s : ByteArray) (c : Int) (w : World) :
    Calls Tryd.prog 56 #[.string s, .int .u8 c] w (Same (.int .i64 (Lib.indexByte s.data.toList c.toNat.toUInt8)) w) := by
  go_enter Tryd.func56, Tryd.ntmps56
  go_wp2
  rw [run_callFunc_extern Tryd.func60 (by kernel_rfl) (by kernel_rfl) (by kernel_rfl) (e := Extern.BytealgIndexByte.indexByte) (by kernel_rfl), Lib.run_indexByteString]
  simp only [Result.andThen]
  rw [Oper.upon_value]
  go_wp2
  go_ret
  exact ⟨rfl, rfl⟩
theorem liteIndex_any (s : ByteArray) (w : World) :
    Calls Tryd.prog 54 #[.string s, .string ⟨#[47]⟩] w (Same (.int .i64 (Lib.indexByte s.data.toList 47)) w) := by
  cases he : ([47] == s.toList)
  · go_enter Tryd.func54, Tryd.ntmps54
    go_wp2_with (go_at_call 56; refine (liteIndexByte_any _ _ _).mono ?_; rintro e w' ⟨rfl, rfl⟩)
    go_ret
    exact ⟨rfl, rfl⟩
  · have e0 : Lib.indexByte s.data.toList 47 = 0 := by
      rw [← Lib.toList_data, ← eq_of_beq he]
      rfl
    rw [e0]
    clear e0
    go_enter Tryd.func54, Tryd.ntmps54
    go_wp2
    go_ret
    exact ⟨rfl, rfl⟩
theorem index_any (s : ByteArray) (w : World) :
    Calls Tryd.prog 47 #[.string s, .string ⟨#[47]⟩] w (Same (.int .i64 (Lib.indexByte s.data.toList 47)) w) := by
  go_enter Tryd.func47, Tryd.ntmps47
  go_wp2_with (go_at_call 54; refine (liteIndex_any _ _).mono ?_; rintro e w' ⟨rfl, rfl⟩)
  go_ret
  exact ⟨rfl, rfl⟩
theorem count_any (s : ByteArray) (w : World) :
    Calls Tryd.prog 46 #[.string s, .string ⟨#[47]⟩] w (Same (.int .i64 (((bl s).count 47 : Nat) : Int)) w) := by
  go_enter Tryd.func46, Tryd.ntmps46
  go_wp2
  rw [run_callFunc_extern Tryd.func53 (by kernel_rfl) (by kernel_rfl) (by kernel_rfl) (e := Extern.BytealgCount.count) (by kernel_rfl), Lib.run_countString]
  simp only [Result.andThen]
  rw [Oper.upon_value]
  go_wp2
  go_ret
  exact ⟨rfl, rfl⟩

/-- What has been split so far. -/
def Spl (s rest : ByteArray) (done : List ByteArray) : Prop := cutB s = done ++ cutB rest
theorem Spl.zero (s : ByteArray) : Spl s s [] := rfl
theorem Spl.miss {s rest : ByteArray} {done : List ByteArray} (h : Spl s rest done) (hc : Clear (bl rest)) : cutB s = done ++ [rest] := by
  unfold Spl at h
  rw [h]
  unfold cutB
  rw [cut_miss hc, List.map_cons, List.map_nil, mk_bl]
theorem Spl.hit {s rest : ByteArray} {done : List ByteArray} (h : Spl s rest done) {p r : List UInt8} (e : bl rest = p ++ 47 :: r) (hc : Clear p) : Spl s (rest.extract (p.length + 1) rest.size) (done ++ [rest.extract 0 p.length]) := by
  unfold Spl at h ⊢
  have e1 : bl (rest.extract 0 p.length) = p := by rw [bl_extract, e]; simp
  have e2 : bl (rest.extract (p.length + 1) rest.size) = r := by
    have hl := bl_size rest
    rw [e] at hl
    simp at hl
    rw [bl_extract, e, List.drop_append, List.drop_of_length_le (by omega), List.nil_append, show p.length + 1 - p.length = 1 from by omega, List.drop_succ_cons, List.drop_zero, List.take_of_length_le (by omega)]
  have e3 : cutB rest = (p :: cutL r).map mk := by unfold cutB; rw [e, cut_hit hc]
  rw [h, e3]
  unfold cutB
  have e4 : mk p = rest.extract 0 p.length := by apply bl_inj; rw [bl_mk, e1]
  rw [e2, List.map_cons, List.append_assoc, e4]
  rfl

set_option maxHeartbeats 4000000 in
set_option maxRecDepth 1000000 in
theorem genSplit_any (s : ByteArray) (w : World) (hs : s.size ≤ 1048600) :
    Calls Tryd.prog 40 #[.string s, .string ⟨#[47]⟩, .int .i64 0, .int .i64 (-1)] w
      (fun e w' => e = .returned (.slice (some ⟨w.heap.size, 0, none⟩) (cutB s).length (cutB s).length) ∧ w' = w.alloc (.cells (Lib.cellsOf (cutB s) (cutB s).length) 9)) := by
  have hfew := cutB_few s
  have hlen := cutB_length s
  obtain ⟨cn, hcn⟩ : ∃ cn : Nat, (bl s).count 47 = cn := ⟨_, rfl⟩
  have hC : Hid (∀ x, Calls Tryd.prog 46 #[.string s, .string ⟨#[47]⟩] x (Same (.int .i64 (cn : Int)) x)) := fun x => by subst hcn; exact count_any s x
  rw [hcn] at hlen
  obtain ⟨N, hN⟩ : ∃ N, (cutB s).length = N := ⟨_, rfl⟩
  rw [hN] at hfew hlen ⊢
  clear hcn
  have eN' : min ((cn : Int) + 1) ((s.size : Int) + 1) = (N : Int) := by omega
  have hN1 : (1 : Int) ≤ (N : Int) := by omega
  have hNs : (N : Int) ≤ (s.size : Int) + 1 := by omega
  have HN := hid hN
  have hcl : cn ≤ s.size := by omega
  have hmk := run_make_row' (P := Tryd.prog) 26 9 (.string ⟨#[]⟩) 16 Tryd.underlying26 info_str rfl .i64 .i64 N (by omega) (by omega)
  clear hlen hN
  go_enter Tryd.func40, Tryd.ntmps40
  go_wp2_with (first | (go_at_call 46; refine (hC.out _).mono ?_; rintro e w' ⟨rfl, rfl⟩))
  clear hmk hC
  go_loopg [0, 10] (N - 1) (fun g s0 s10 wr => ∃ (done : List ByteArray) (rest : ByteArray), s0 = .string rest ∧ s10 = .int .i64 done.length ∧ done.length ≤ N - 1 ∧ g = N - 1 - done.length ∧ rest.size ≤ s.size ∧
    wr = w.alloc (.cells (Lib.cellsOf done N) 9) ∧ Hid (Spl s rest done))
  case atStart => exact ⟨[], s, rfl, rfl, Nat.zero_le _, rfl, Nat.le_refl _, by rw [Lib.cellsOf_nil]; rfl, .zero s⟩
  case round =>
    obtain ⟨done, rest, rfl, rfl, hd, rfl, hrs, rfl, HS⟩ := hrel
    have hnext : (Lib.cellsOf done N)[done.length]? = some (.string ByteArray.empty) := Lib.cellsOf_next (by omega)
    have fin : Clear (bl rest) → Hid (done.length + 1 = N ∧ (Lib.cellsOf done N).setIfInBounds done.length (.string rest) = Lib.cellsOf (cutB s) N) := fun h => by
      have e := HS.out.miss h
      have hl := HN.out
      rw [e, List.length_append, List.length_singleton] at hl
      exact ⟨hl, by rw [Lib.cellsOf_set (by omega) rest, e]⟩
    have more : N = done.length + (cutB rest).length := by
      have e := HS.out
      unfold Spl at e
      have hl := HN.out
      rw [e, List.length_append] at hl
      exact hl.symm
    have hix := index_cases (bl rest)
    by_cases hlt : done.length < N - 1
    · have hltz : ((done.length : Nat) : Int) < (N : Int) - 1 := by omega
      rcases hix with ⟨h1, h2⟩ | ⟨p, r, h1, h2, h3⟩
      · have := (fin h2).out.1
        omega
      · have hroom := bl_size rest
        rw [h1] at hroom
        simp at hroom
        obtain ⟨i, hi⟩ : ∃ i, p.length = i := ⟨_, rfl⟩
        have HH := hid (HS.out.hit h1 h2)
        rw [hi] at HH h3 hroom
        have HI : Hid (∀ x, Calls Tryd.prog 47 #[.string rest, .string ⟨#[47]⟩] x (Same (.int .i64 (i : Int)) x)) := fun x => by rw [← h3]; exact index_any rest x
        clear fin more HS h1 h2 h3 hi
        have c0 : ¬ ((i : Int) < 0) := by omega
        have c1 : (0 : Int) ≤ ↑i + 0 := by omega
        have c2 : (↑i + 0 : Int) ≤ ↑rest.size := by omega
        have c3 : (0 : Int) ≤ ↑i + 1 := by omega
        have c4 : (↑i + 1 : Int) ≤ ↑rest.size := by omega
        go_wp2_with (first | (go_at_call 47; refine (HI.out _).mono ?_; rintro e w' ⟨rfl, rfl⟩))
        go_roundg (N - 1 - (done.length + 1))
        case measure => omega
        case rel =>
          refine ⟨done ++ [rest.extract 0 i], rest.extract (i + 1) rest.size, rfl, by simp, by simp; omega, by simp, by rw [ByteArray.size_extract]; omega, by rw [← Lib.cellsOf_set (by omega)], HH.out⟩
    · have hltz : ¬ (((done.length : Nat) : Int) < (N : Int) - 1) := by omega
      have hone : (cutB rest).length = 1 := by omega
      have hcl : Clear (bl rest) := by
        rcases hix with ⟨h1, h2⟩ | ⟨p, r, h1, h2, h3⟩
        · exact h2
        · unfold cutB at hone
          rw [h1, cut_hit h2] at hone
          simp at hone
          exact absurd hone (cutL_ne r)
      have F := fin hcl
      clear fin more HS hix hone hcl
      go_wp2
      go_ret
      obtain ⟨f1, f2⟩ := F.out
      rw [← f2]
      subst f1
      exact ⟨rfl, rfl⟩
/-- A text, split: a list of texts of the call's own. -/
def CutIs (ts : List ByteArray) (w : World) (e : Ending) (w' : World) : Prop := ∃ v, e = .returned v ∧ OwnT w' w.heap.size v ts ∧ Below w.heap.size w w'
theorem own_cells (w : World) (ts : List ByteArray) (hm : ts.length ≤ maxLen) : OwnT (w.alloc (.cells (Lib.cellsOf ts ts.length) 9)) w.heap.size (.slice (some ⟨w.heap.size, 0, none⟩) ts.length ts.length) ts := by
  have e : (Lib.cellsOf ts ts.length).toList = txts ts := by simp [Lib.cellsOf, txts]
  refine ⟨by rw [txts_length]; omega, .inr ⟨w.heap.size, ts.length, Lib.cellsOf ts ts.length, rfl, Nat.le_refl _, heap_alloc_new w _, Nat.le_refl _, hm, ?_, ?_⟩⟩
  · rw [← Array.length_toList, e, txts_length]; omega
  · rw [e, List.take_of_length_le (by rw [txts_length]; omega)]
theorem split_any (s : ByteArray) (w : World) (hs : s.size ≤ 1048600) :
    Calls Tryd.prog 33 #[.string s, .string ⟨#[47]⟩] w (fun e w' => ∃ g n, e = .returned (.slice (some ⟨g, 0, none⟩) n n) ∧ n = (cutB s).length ∧ OwnT w' w.heap.size (.slice (some ⟨g, 0, none⟩) n n) (cutB s) ∧ Below w.heap.size w w') := by
  go_enter Tryd.func33, Tryd.ntmps33
  go_wp2_with (go_at_call 40; refine (genSplit_any s _ hs).mono ?_; rintro e w' ⟨rfl, rfl⟩)
  go_ret
  have := cutB_few s
  exact ⟨_, _, rfl, rfl, own_cells w _ (by unfold maxLen; omega), (Below.refl _ _).alloc (Nat.le_refl _) _⟩
end Go.Proofs.YtdjfglebnblfkabDoor
