/-
  Walks: the law's own helpers: sizes, copies, comparisons of one object.
-/
import Derived.Test.YtblknnifccmpkaaIds
namespace Go.Proofs.Ytblknnifccmpkaa
open Go.RowKit Wo Pu

theorem info_int : (Try.prog.info? 3).map (fun i => (i.zero, i.size, i.bytes)) = some (some (.int .i64 0), 1, 8) := by kernel_rfl
theorem info_of {P : Program} {t : TypeId} {z : Value} {a b : Nat} (h : (P.info? t).map (fun i => (i.zero, i.size, i.bytes)) = some (some z, a, b)) : ∃ i, P.info? t = some i ∧ i.zero = some z ∧ i.size = a ∧ i.bytes = b := by
  cases hi : P.info? t with
  | none => rw [hi] at h; cases h
  | some i =>
    rw [hi] at h
    simp only [Option.map_some, Option.some.injEq, Prod.mk.injEq] at h
    exact ⟨i, rfl, h.1, h.2.1, h.2.2⟩

/-- A slice of the call's own, in a block from B on, with just the cells xs. -/
def Mine (w : World) (B : Nat) (e : TypeId) (sz g n : Nat) (xs : List Value) : Prop := w.ownsRow B e sz (.slice (some ⟨g, 0, none⟩) n n) n xs
theorem Mine.row {w : World} {B g n : Nat} {e : TypeId} {sz : Nat} {xs : List Value} (h : Mine w B e sz g n xs) : Row w w.heap.size (some ⟨g, 0, none⟩) xs := by
  refine Row.of_own h fun hx => ?_
  have h1 := h.1
  rcases Nat.eq_zero_or_pos n with h0 | h0
  · subst h0
    exact absurd (List.eq_nil_of_length_eq_zero (by simpa using h1)) hx
  · exact h0
theorem Mine.lt {w : World} {B g n : Nat} {e : TypeId} {sz : Nat} {xs : List Value} (h : Mine w B e sz g n xs) : B ≤ g ∧ g < w.heap.size := World.ownsRow.lt h g rfl
theorem Mine.len {w : World} {B g n : Nat} {e : TypeId} {sz : Nat} {xs : List Value} (h : Mine w B e sz g n xs) : xs.length = n * sz := h.1
theorem Mine.set_ {w : World} {B g n : Nat} {e : TypeId} {sz : Nat} {xs : List Value} (h : Mine w B e sz g n xs) (j : Nat) (u : Value) : Mine (w.setCell ⟨g, j, none⟩ u) B e sz g n (xs.set j u) := (World.ownsRow.stored h j u).1
theorem Mine.below {w w' : World} {B C g n : Nat} {e : TypeId} {sz : Nat} {xs : List Value} (h : Mine w B e sz g n xs) (hb : Below C w w') (hC : g < C) : Mine w' B e sz g n xs := by
  obtain ⟨h1, h2⟩ := h
  refine ⟨h1, ?_⟩
  rcases h2 with ⟨h2, _⟩ | ⟨g', cap, cur, hv, hB, hh, hr⟩
  · cases h2
  · have hg : g' = g := by injection hv with e1; injection e1 with e1; injection e1 with e1; exact e1.symm
    subst hg
    exact .inr ⟨g', cap, cur, hv, hB, by rw [hb.block g' hC]; exact hh, hr⟩
theorem Mine.far {w : World} {B g n : Nat} {e : TypeId} {sz : Nat} {xs : List Value} (h : Mine w B e sz g n xs) {p : Addr} (hp : g ≠ p.block) (u : Value) : Mine (w.setCell p u) B e sz g n xs := by
  obtain ⟨h1, h2⟩ := h
  refine ⟨h1, ?_⟩
  rcases h2 with ⟨h2, _⟩ | ⟨g', cap, cur, hv, hB, hh, hr⟩
  · cases h2
  · have hg : g' = g := by injection hv with e1; injection e1 with e1; injection e1 with e1; exact e1.symm
    subst hg
    exact .inr ⟨g', cap, cur, hv, hB, by rw [Below.heap_setCell _ _ _ _ hp]; exact hh, hr⟩
theorem Mine.cell {w : World} {B g n : Nat} {e : TypeId} {xs : List Value} (h : Mine w B e 1 g n xs) {j : Nat} (hj : j < n) : ∃ v, w.cell? ⟨g, j, none⟩ = some v := by
  have hl := h.len
  exact ⟨_, (World.ownsRow.cellAt h j (by omega)).trans (List.getElem?_eq_getElem (by omega))⟩
theorem Mine.frozen {w : World} {B g n : Nat} {e : TypeId} {sz : Nat} {xs : List Value} (h : Mine w B e sz g n xs) (j : Nat) : w.frozen? ⟨g, j, none⟩ = false := World.ownsRow.frozenAt h j
theorem Mine.base {w : World} {B B' g n : Nat} {e : TypeId} {sz : Nat} {xs : List Value} (h : Mine w B e sz g n xs) (hB : B' ≤ B) : Mine w B' e sz g n xs := by
  obtain ⟨h1, h2⟩ := h
  refine ⟨h1, ?_⟩
  rcases h2 with h2 | ⟨g', cap, cur, hv, hb, hr⟩
  · exact .inl h2
  · exact .inr ⟨g', cap, cur, hv, by omega, hr⟩

/-- A block of three cells that read so. -/
def Box3 (w : World) (g : Nat) (v0 v1 v2 : Value) : Prop := g < w.heap.size ∧ w.cell? ⟨g, 0, none⟩ = some v0 ∧ w.cell? ⟨g, 1, none⟩ = some v1 ∧ w.cell? ⟨g, 2, none⟩ = some v2
theorem Box3.below {w w' : World} {g C : Nat} {v0 v1 v2 : Value} (h : Box3 w g v0 v1 v2) (hb : Below C w w') (hC : g < C) : Box3 w' g v0 v1 v2 := by
  obtain ⟨h0, h1, h2, h3⟩ := h
  exact ⟨Nat.lt_of_lt_of_le h0 hb.size, by rw [(bcell hb).1 _ _ hC]; exact h1, by rw [(bcell hb).1 _ _ hC]; exact h2, by rw [(bcell hb).1 _ _ hC]; exact h3⟩
theorem Box3.new_ (w : World) (t : TypeId) (v0 v1 v2 : Value) : Box3 (w.alloc (.cells #[v0, v1, v2] t)) w.heap.size v0 v1 v2 := by
  refine ⟨by simp, ?_, ?_, ?_⟩ <;> simp [go_sem]

theorem szIntS_no (A : Option Addr) (n c : Nat) (left : Int) (w : World) (hn : n ≤ maxLen) (h0 : 0 ≤ left) (h1 : left ≤ 1048576) (h : left < n) :
    Calls Try.prog 118 #[.slice A n c, .int .i64 left] w (Same (.int .i64 (-1)) w) := by
  unfold maxLen at hn
  go_enter Try.func118, Try.ntmps118
  go_wp2
  go_ret
  exact ⟨rfl, rfl⟩
theorem szIntS_yes (A : Option Addr) (n c : Nat) (left : Int) (w : World) (hn : n ≤ maxLen) (h0 : 0 ≤ left) (h1 : left ≤ 1048576) (h : n ≤ left) :
    Calls Try.prog 118 #[.slice A n c, .int .i64 left] w (Same (.int .i64 (left - n)) w) := by
  unfold maxLen at hn
  go_enter Try.func118, Try.ntmps118
  go_wp2
  go_ret
  exact ⟨rfl, rfl⟩
theorem szObject_no (A : Option Addr) (n c : Nat) (kd : Int) (s : ByteArray) (left : Int) (w : World) (hn : n ≤ maxLen) (hs : s.size ≤ maxLen) (h0 : 0 ≤ left) (h1 : left ≤ 1048576) (h : left < n + s.size) :
    Calls Try.prog 88 #[ob kd A n c s, .int .i64 left] w (Ret (.int .i64 (-1)) w) := by
  have hn' := hn
  unfold maxLen at hn hs
  unfold ob
  by_cases h2 : left < n
  · go_enter Try.func88, Try.ntmps88
    go_wp2_with (go_at_call 118; refine (szIntS_no A n c left _ hn' h0 h1 h2).mono ?_; rintro e w' ⟨rfl, rfl⟩)
    go_ret
    exact .mk_ ((Below.refl _ _).alloc (Nat.le_refl _) _)
  · go_enter Try.func88, Try.ntmps88
    go_wp2_with (go_at_call 118; refine (szIntS_yes A n c left _ hn' h0 h1 (by omega)).mono ?_; rintro e w' ⟨rfl, rfl⟩)
    go_ret
    exact .mk_ ((Below.refl _ _).alloc (Nat.le_refl _) _)
theorem szObject_yes (A : Option Addr) (n c : Nat) (kd : Int) (s : ByteArray) (left : Int) (w : World) (hn : n ≤ maxLen) (hs : s.size ≤ maxLen) (h0 : 0 ≤ left) (h1 : left ≤ 1048576) (h : n + s.size ≤ left) :
    Calls Try.prog 88 #[ob kd A n c s, .int .i64 left] w (Ret (.int .i64 (left - n - s.size)) w) := by
  have hn' := hn
  unfold maxLen at hn hs
  unfold ob
  go_enter Try.func88, Try.ntmps88
  go_wp2_with (go_at_call 118; refine (szIntS_yes A n c left _ hn' h0 h1 (by omega)).mono ?_; rintro e w' ⟨rfl, rfl⟩)
  go_ret
  exact .mk_ ((Below.refl _ _).alloc (Nat.le_refl _) _)
/-- A row of one's own cells, the first k of which are those wanted. -/
theorem take_set {xs ys : List Value} {k : Nat} (h : xs.take k = ys.take k) (hx : k < xs.length) (hy : k < ys.length) : (xs.set k ys[k]).take (k + 1) = ys.take (k + 1) := by
  rw [List.take_succ_eq_append_getElem (by simpa using hx), List.take_succ_eq_append_getElem hy]
  rw [List.take_set_of_le (Nat.le_refl k), h]
  simp

/-- Behind it: a new slice with the cells xs. -/
def NewInts (zs : List Int) (w : World) (e : Ending) (w' : World) : Prop :=
  ∃ g, e = .returned (.slice (some ⟨g, 0, none⟩) zs.length zs.length) ∧ Mine w' w.heap.size 3 1 g zs.length (ints zs) ∧ Below w.heap.size w w'

set_option maxHeartbeats 1000000 in
theorem toIntS_any (B : Nat) (A : Option Addr) (c : Nat) (zs : List Int) (w : World) (hr : Row w B A (ints zs)) (hB : B ≤ w.heap.size) (hm : zs.length ≤ 1048576) :
    Calls Try.prog 52 #[.slice A zs.length c] w (NewInts zs w) := by
  obtain ⟨i0, hi, hz0, hz1, hz2⟩ := info_of info_int
  go_enter Try.func52, Try.ntmps52
  go_wp2_with (at_make; refine wpList_make_full _ rfl (.tmp 6) (.tmp 6) 36 rfl w.heap.size 3 i0 (.int .i64 0) 1 Try.underlying36 hi hz0 hz1 .i64 .i64 zs.length zs.length zs.length rfl rfl rfl rfl (by rw [hz2]; omega) (by unfold maxLen; omega) (Nat.le_refl _) ?_; intro w1 hown hg)
  have hb1 : Below w.heap.size w w1 := (Below.refl _ _).grown hg (Nat.le_refl _) (by simp)
  have hm1 : Hid (∃ xs : List Value, Mine w1 w.heap.size 3 1 w.heap.size zs.length xs ∧ xs.take 0 = (ints zs).take 0) := ⟨_, hown, by simp⟩
  clear hown hg
  go_loopw [4] (fun i wr => ∃ k : Nat, k ≤ zs.length ∧ i = .int .i64 k ∧ Below w.heap.size w wr ∧ Hid (∃ xs : List Value, Mine wr w.heap.size 3 1 w.heap.size zs.length xs ∧ xs.take k = (ints zs).take k)) (fun i _ => zs.length - (intOf i).toNat)
  case atStart => exact ⟨0, Nat.zero_le _, rfl, hb1, hm1⟩
  case round =>
    obtain ⟨k, hk, rfl, hb, HX⟩ := hrel
    clear hb1 hm1
    obtain ⟨xs, hx, ht⟩ := HX.out
    clear HX
    by_cases hlt : k < zs.length
    · obtain ⟨ad, rfl, hbl, hc⟩ := (hr.below hb hB).int_ hlt
      obtain ⟨v0, hv0⟩ := hx.cell hlt
      have hf0 := hx.frozen k
      have hx2 := hx.set_ k (.int .i64 zs[k])
      have ht2 := hid (take_set ht (by rw [hx.len]; omega) (by rw [ints_length]; exact hlt))
      clear ht hx
      go_wp2
      go_roundw
      case rel => exact ⟨k + 1, by omega, by go_num, hb.setCell (Nat.le_refl _) _, _, hx2, by have := ht2.out; rw [ints_get zs k hlt] at this; exact this⟩
      case measure => simp [intOf]; omega
    · have hk' : k = zs.length := by omega
      subst hk'
      have hxs : xs = ints zs := by
        have hl := hx.len
        rw [List.take_of_length_le (by omega), List.take_of_length_le (by rw [ints_length]; omega)] at ht
        exact ht
      clear ht
      subst hxs
      go_wp2
      go_ret
      exact ⟨_, rfl, hx, hb⟩
/-- Behind it: a new object. -/
def NewOb (kd : Int) (zs : List Int) (s : ByteArray) (w : World) (e : Ending) (w' : World) : Prop :=
  ∃ g, e = .returned (ob kd (some ⟨g, 0, none⟩) zs.length zs.length s) ∧ Mine w' w.heap.size 3 1 g zs.length (ints zs) ∧ Below w.heap.size w w'

set_option maxHeartbeats 1000000 in
theorem toObject_any (B : Nat) (A : Option Addr) (c : Nat) (kd : Int) (zs : List Int) (s : ByteArray) (w : World) (hr : Row w B A (ints zs)) (hB : B ≤ w.heap.size) (hm : zs.length ≤ 1048576) :
    Calls Try.prog 89 #[ob kd A zs.length c s] w (NewOb kd zs s w) := by
  unfold ob
  go_enter Try.func89, Try.ntmps89
  go_wp2_with fail
  refine (toIntS_any B A c zs _ (((hr.alloc hB _).alloc (by simp; omega) _).alloc (by simp; omega) _) (by simp; omega) hm).mono ?_
  rintro e w1 ⟨g, rfl, hx, hb⟩
  have hl := hx.lt
  simp only [World.size_alloc] at hl
  obtain ⟨bc, bf⟩ := bcell hb
  have hz := hb.size
  simp only [World.size_alloc] at hz
  have hb1 := ((((Below.refl w.heap.size w).alloc (Nat.le_refl _) (.cells #[.int .i64 kd, .slice A zs.length c, .string s] 103)).alloc (by simp) (.cells #[.int .i64 0, .slice none 0 0, .string ⟨#[]⟩] 38)).alloc (by simp; omega) (.cells #[.int .i64 kd, .slice none 0 0, .string ⟨#[]⟩] 38)).trans (hb.mono (by simp; omega))
  go_wp2_with fail
  refine bodyPost_ret (v := ob kd (some ⟨g, 0, none⟩) zs.length zs.length s) (by simp [results, Try.results89, go_sem, ob, bc]) rfl ⟨g, rfl, ?_, ?_⟩
  · exact ((((((hx.base (by simp; omega)).far (by simp; omega) _).far (by simp; omega) _).far (by simp; omega) _).far (by simp; omega) _).far (by simp; omega) _)
  · exact ((((hb1.setCell (by simp; omega) _).setCell (by simp; omega) _).setCell (by simp) _).setCell (by simp) _).setCell (by simp) _
set_option maxHeartbeats 1000000 in
theorem eqIntS_same (B C : Nat) (A A' : Option Addr) (c c' : Nat) (zs : List Int) (w : World) (hr : Row w B A (ints zs)) (hr' : Row w C A' (ints zs)) (hm : zs.length ≤ maxLen) :
    Calls Try.prog 53 #[.slice A zs.length c, .slice A' zs.length c'] w (Quiet (.bool true) w) := by
  unfold maxLen at hm
  go_enter Try.func53, Try.ntmps53
  go_wp2
  go_loopw [5] (fun i wr => ∃ k : Nat, k ≤ zs.length ∧ i = .int .i64 k ∧ Dr w wr) (fun i _ => zs.length - (intOf i).toNat)
  case atStart => exact ⟨0, Nat.zero_le _, rfl, .refl _⟩
  case round =>
    obtain ⟨k, hk, rfl, HW⟩ := hrel
    by_cases hlt : k < zs.length
    · obtain ⟨ad, rfl, hb, hc⟩ := (HW.row hr).int_ hlt
      obtain ⟨ad', rfl, hb', hc'⟩ := (HW.row hr').int_ hlt
      go_wp2
      go_quiet (fail)
      go_wp2
      go_roundw
      case rel => exact ⟨k + 1, by omega, by go_num, HW.drewN _⟩
      case measure => simp [intOf]; omega
    · have hk' : k = zs.length := by omega
      subst hk'
      go_wp2
      go_ret
      exact HW.quiet _
theorem eqObject_same (B C : Nat) (A A' : Option Addr) (c c' : Nat) (kd : Int) (zs : List Int) (s : ByteArray) (w : World) (hr : Row w B A (ints zs)) (hr' : Row w C A' (ints zs)) (hB : B ≤ w.heap.size) (hC : C ≤ w.heap.size) (hm : zs.length ≤ maxLen) :
    Calls Try.prog 90 #[ob kd A zs.length c s, ob kd A' zs.length c' s] w (Ret (.bool true) w) := by
  unfold ob
  go_enter Try.func90, Try.ntmps90
  go_wp2_with fail
  refine (eqIntS_same B C A A' c c' zs _ ((hr.alloc hB _).alloc (by simp; omega) _) ((hr'.alloc hC _).alloc (by simp; omega) _) hm).mono ?_
  rintro e w1 ⟨rfl, d, rfl⟩
  go_wp2
  go_ret
  exact .mk_ (Wo.Below.drewN (((Below.refl _ _).alloc (Nat.le_refl _) _).alloc (by simp) _) _)
end Go.Proofs.Ytblknnifccmpkaa
