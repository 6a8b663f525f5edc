/-
  Walks: the laws' own helpers on entries: sizes, copies, comparisons.
-/
import Derived.Test.YtkekbobnbipmoaaOpenE
import Derived.Test.YtkekbobnbipmoaaHelps
namespace Go.Proofs.Ytkekbobnbipmoaa
open Go.RowKit Wo Pu

/-- An entry as a value. -/
def entV (kd : Int) (A : Option Addr) (n c : Nat) (b : Int) (A' : Option Addr) (n' c' : Nat) : Value := .agg #[.int .i64 kd, .slice A n c, .int .i64 b, .slice A' n' c']
def eSz (e : Ent) : Nat := e.zs.length + dsz e.ops
def ePart (es : List Ent) (k : Nat) : Nat := ((es.take k).map eSz).sum
def eAll (es : List Ent) : Nat := es.length + ePart es es.length
theorem ePart_succ {es : List Ent} {k : Nat} (hk : k < es.length) : ePart es (k + 1) = ePart es k + eSz es[k] := by
  unfold ePart
  rw [List.take_succ_eq_append_getElem hk, List.map_append, List.sum_append]
  simp
theorem ePart_ge {es : List Ent} {i : Nat} (hi : i < es.length) : ∀ k, i < k → k ≤ es.length → eSz es[i] ≤ ePart es k := by
  intro k
  induction k with
  | zero => intro h; omega
  | succ k ih =>
    intro h1 h2
    rw [ePart_succ (by omega)]
    by_cases e : i = k
    · subst e; omega
    · have := ih (by omega) (by omega)
      omega
theorem tsz_ge {os : List Op2} {i : Nat} (hi : i < os.length) : ∀ k, i < k → k ≤ os.length → os[i].t.size ≤ tsz os k := by
  intro k
  induction k with
  | zero => intro h; omega
  | succ k ih =>
    intro h1 h2
    rw [tsz_succ (by omega)]
    by_cases e : i = k
    · subst e; omega
    · have := ih (by omega) (by omega)
      omega
theorem eAll_fits {es : List Ent} (h : eAll es ≤ 1048576) (hw : WideE es) : es.length ≤ 1048576 ∧ FitE es := by
  unfold eAll at h
  refine ⟨by omega, fun e he => ?_⟩
  obtain ⟨i, hi, rfl⟩ := List.mem_iff_getElem.1 he
  have h1 := ePart_ge hi es.length hi (Nat.le_refl _)
  unfold eSz dsz at h1
  obtain ⟨_, _, h4, h5, h6⟩ := hw _ (List.getElem_mem hi)
  refine ⟨by omega, by omega, fun o ho => ?_, by omega, h5, h6⟩
  obtain ⟨j, hj, rfl⟩ := List.mem_iff_getElem.1 ho
  have h7 := tsz_ge hj _ hj (Nat.le_refl _)
  obtain ⟨_, h8⟩ := h4 _ (List.getElem_mem hj)
  exact ⟨by omega, h8⟩

set_option maxHeartbeats 2000000 in
theorem szPackEntry_any (A : Option Addr) (c : Nat) (A' : Option Addr) (c' : Nat) (e : Ent) (left : Int) (w : World) (h : Row w w.heap.size A' (opsV e.ops)) (h1 : e.zs.length ≤ maxLen) (h2 : e.ops.length ≤ maxLen) (h3 : ∀ o ∈ e.ops, o.t.size ≤ maxLen) (h0 : 0 ≤ left) (h9 : left ≤ 1048576) :
    Calls Try.prog 53 #[.agg #[.int .i64 e.kd, .slice A e.zs.length c, .int .i64 e.b, .slice A' e.ops.length c'], .int .i64 left] w (Sized2 (eSz e) left w) := by
  have al := (Below.refl w.heap.size w).alloc (Nat.le_refl _) (.cells #[.int .i64 e.kd, .slice A e.zs.length c, .int .i64 e.b, .slice A' e.ops.length c'] 79)
  by_cases hz : left < e.zs.length
  · go_enter Try.func53, Try.ntmps53
    go_wp2_with (go_at_call 81; refine (szIntS_no A _ c left _ h1 h0 h9 hz).mono ?_; rintro e w' ⟨rfl, rfl⟩)
    go_ret
    exact ⟨-1, rfl, .inl rfl, al⟩
  · have hr := (h.below al (Nat.le_refl _)).more al.size
    go_enter Try.func53, Try.ntmps53
    go_wp2_with (go_at_call 81; refine (szIntS_yes A _ c left _ h1 h0 h9 (by omega)).mono ?_; rintro e w' ⟨rfl, rfl⟩)
    refine (szOpS_any A' c' e.ops _ _ hr h3 h2 (by omega) (by omega)).mono ?_
    rintro e' w2 ⟨r, rfl, hrr, b2⟩
    have b3 := al.trans (b2.mono al.size)
    rcases hrr with rfl | ⟨r0, r1⟩
    · go_wp2
      go_ret
      exact ⟨-1, rfl, .inl rfl, b3⟩
    · go_wp2
      go_ret
      exact ⟨_, rfl, .inr ⟨by omega, by unfold eSz; omega⟩, b3⟩

set_option maxHeartbeats 2000000 in
theorem szPackEntryS_any (A : Option Addr) (c : Nat) (es : List Ent) (left : Int) (w : World) (h : Ents w w.heap.size A es) (hf : WideE es) (hn : es.length ≤ maxLen) (h0 : 0 ≤ left) (h1 : left ≤ 1048576) :
    Calls Try.prog 23 #[.slice A es.length c, .int .i64 left] w (Sized2 (eAll es) left w) := by
  unfold maxLen at hn
  by_cases h2 : left < es.length
  · go_enter Try.func23, Try.ntmps23
    go_wp2
    go_ret
    exact ⟨-1, rfl, .inl rfl, Below.refl _ _⟩
  · go_enter Try.func23, Try.ntmps23
    go_wp2_with fail
    go_loopw [1, 5] (fun l i wr => ∃ (k : Nat) (q : Int), k ≤ es.length ∧ i = .int .i64 k ∧ l = .int .i64 q ∧ 0 ≤ q ∧ q ≤ 1048576 ∧ Hid (q = left - es.length - ePart es k) ∧ Below w.heap.size w wr) (fun _ i _ => es.length - (intOf i).toNat)
    case atStart => exact ⟨0, _, Nat.zero_le _, rfl, rfl, by omega, by omega, by show _ = _; simp [ePart], Below.refl _ _⟩
    case round =>
      obtain ⟨k, q, hk, rfl, rfl, q0, q1, HQ, hb⟩ := hrel
      by_cases hlt : k < es.length
      · obtain ⟨e, ad, A1, c1, A2, c2, he, rfl, ha, g0, g1, g2, g3, r1, r2⟩ := (h.below hb (Nat.le_refl _)).ent hlt
        have hfk := hf es[k] (List.getElem_mem hlt)
        have hsucc := ePart_succ hlt
        rw [he] at hfk hsucc
        obtain ⟨f1, f2, f3, -, -⟩ := hfk
        have HS := hid hsucc
        have f4 : ∀ o ∈ e.ops, o.t.size ≤ maxLen := fun o ho => (f3 o ho).1
        have r3 := r2.more hb.size
        clear he hsucc f3
        go_wp2_with fail
        refine (szPackEntry_any A1 c1 A2 c2 e q wr r3 f1 f2 f4 q0 q1).mono ?_
        rintro e' w2 ⟨r, rfl, hrr, b2⟩
        have b3 := hb.trans (b2.mono hb.size)
        rcases hrr with rfl | ⟨s0, s1⟩
        · go_wp2
          go_ret
          exact ⟨-1, rfl, .inl rfl, b3⟩
        · have HR : Hid (r = left - es.length - ePart es (k + 1)) := by show _ = _; rw [HS.out, s1, HQ.out]; omega
          clear g0 g1 g2 g3
          have s2 : r ≤ 1048576 := by omega
          clear s1
          go_wp2
          go_roundw
          case rel => exact ⟨k + 1, r, by omega, by go_num, rfl, s0, s2, HR, b3⟩
          case measure => simp [intOf]; omega
      · have hk' : k = es.length := by omega
        subst hk'
        go_wp2
        go_ret
        exact ⟨q, rfl, .inr ⟨q0, by rw [HQ.out]; unfold eAll; omega⟩, hb⟩
end Go.Proofs.Ytkekbobnbipmoaa
