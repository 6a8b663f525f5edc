/-
  Walks: the program's maps of areas, made of a quarantine's areas and made into a quarantine that lies apart.
-/
import Derived.Test.YtblknnifccmpkaaG7C
import Derived.Test.YtblknnifccmpkaaG8C
import Derived.Test.YtblknnifccmpkaaG5C
import Derived.Test.YtblknnifccmpkaaQuarC
namespace Go.Proofs.Ytblknnifccmpkaa
open Go.RowKit Wo Pu Qu

theorem zeroObs (w : World) : (zeroValue 23).run Try.prog w = .ok (.slice none 0 0) w := by kernel_rfl
theorem ascA_lt {rs : List Ar} : ∀ {l : Int}, AscA l rs → ∀ i j (hi : i < rs.length) (hj : j < rs.length), i < j → rs[i].t < rs[j].t := by
  induction rs with
  | nil => intro l _ i j hi; simp at hi
  | cons a rs ih =>
    intro l h i j hi hj hij
    cases j with
    | zero => omega
    | succ j =>
      cases i with
      | zero => exact (h.2.2.mem _ (List.getElem_mem (by simpa using hj))).1
      | succ i => exact ih h.2.2 i j (by simpa using hi) (by simpa using hj) (by omega)
theorem asc_notin {rs : List Ar} {l : Int} (h : AscA l rs) {k : Nat} (hk : k < rs.length) : ¬ has (rs.take k) rs[k].t := by
  rintro ⟨a, ha, e⟩
  obtain ⟨i, hi, rfl⟩ := List.getElem_of_mem ha
  rw [List.getElem_take] at e
  have hi' : i < k := by rw [List.length_take] at hi; omega
  have := ascA_lt h i k (by omega) hk hi'
  omega
/-- Behind it: the map of the areas. -/
def Mapped (rs : List Ar) (w : World) (e : Ending) (w' : World) : Prop := ∃ b, e = .returned (.map (some b)) ∧ AMap w' b rs.length (gOf rs) ∧ w.heap.size ≤ b ∧ Below w.heap.size w w'
set_option maxRecDepth 100000 in
set_option maxHeartbeats 2000000 in
theorem areasByTxn_any (A2 : Option Addr) (c2 : Nat) (rs : List Ar) (w : World) (h : Ars w w.heap.size A2 rs) (HA : Hid (AscA (-1) rs)) (hn : rs.length ≤ 1048576) :
    Calls Try.prog 62 #[.slice A2 rs.length c2] w (Mapped rs w) := by
  have hmm := @run_makeMap Try.prog
  go_enter Try.func62, Try.ntmps62
  go_wp2_with fail
  go_loopw [9] (fun i wr => ∃ k : Nat, k ≤ rs.length ∧ i = .int .i64 k ∧ AMap wr w.heap.size k (gOf (rs.take k)) ∧ Below w.heap.size w wr) (fun i _ => rs.length - (intOf i).toNat)
  case atStart => exact ⟨0, Nat.zero_le _, rfl, AMap.made w, (Below.refl _ _).alloc (Nat.le_refl _) _⟩
  case round =>
    obtain ⟨k, hk, rfl, hm, hb⟩ := hrel
    have hz := hb.size
    by_cases hlt : k < rs.length
    · obtain ⟨a, ad, A', c', ho, rfl, had, g0, g1, g2, g3⟩ := ((h.below hb (Nat.le_refl _)).more hz).ar hlt
      have q0 : (0 : Int) ≤ (k : Int) := by omega
      have q1 : (k : Int) < (rs.length : Int) := by omega
      have HO : Hid (WfT a.t ∧ gOf (rs.take k) a.t = none ∧ gOf (rs.take (k + 1)) = upd (gOf (rs.take k)) a.t (some a.os)) := by
        have h1 := asc_notin HA.out hlt
        refine ⟨by rw [← ho]; exact wfT_txn (HA.out.mem _ (List.getElem_mem hlt)).2.1, by rw [← ho]; exact gOf_none.2 h1, ?_⟩
        rw [List.take_succ_eq_append_getElem hlt, gOf_snoc h1, ho]
      have al := (Below.refl wr.heap.size wr).alloc (Nat.le_refl _) (.cells #[.int .i64 a.t, .slice A' a.os.length c'] 84)
      have u := BlkQ.new_ wr 84 (.int .i64 a.t) (.slice A' a.os.length c')
      have g3' := (g3.below al (Nat.le_refl _)).more al.size
      have hm' := hm.later al
      have b1 := hb.trans (al.mono hz)
      clear ho hm hb
      obtain ⟨z0, z1, -⟩ := id u.reads
      obtain ⟨f, hq, hf⟩ := hm'
      have hfn : f a.t = none := by
        rcases hf a.t with e | ⟨os, _, _, e, _⟩
        · exact e.1
        · rw [HO.out.2.1] at e; cases e
      go_wp2_with (at_mapUpdate; go_must (refine wpList_update_q rfl _ _ _ 78 23 rfl Try.underlying78 rfl hq (by unfold maxLen; omega) a.t _ rfl rfl HO.out.1 ?_); intro w1 hq1 hg1)
      rw [hfn] at hq1
      have hm1 := AMap.put_ hf hq g3' g2 hq1 hg1
      have b2 := b1.grown hg1 b1.size (fun j hj => by injection hj with hj; omega)
      go_roundw
      case rel => exact ⟨k + 1, by omega, by go_num, by rw [HO.out.2.2]; exact hm1, b2⟩
      case measure => simp [intOf]; omega
    · have hk' : k = rs.length := by omega
      subst hk'
      rw [List.take_length] at hm
      go_wp2
      go_ret
      exact ⟨_, rfl, hm, Nat.le_refl _, hb⟩

/-! ### The list of the areas. -/
theorem OwnC.keptT {col : Nat → Nat} {c : Nat} {w w1 : World} {B : Nat} {v : Value} {os : List Ob} {T : TypeId} {row : Option Nat} (h : OwnC col c w B v os) (t1 : 38 ≠ T) (t2 : 3 ≠ T) (hg : w.grownBy w1 row) (hr : ∀ g, row = some g → ∃ cur fr, w.heap[g]? = some (.cells cur T fr)) : OwnC col c w1 B v os := by
  obtain ⟨xs, h1, h2, h3, h4, h5⟩ := h
  refine ⟨xs, row_kept h1 t1 hg hr, fun j hj => ?_, h3, h4, h5⟩
  obtain ⟨A, cc, q0, q1, q2, q3⟩ := h2 j hj
  exact ⟨A, cc, q0, q1, q2, row_kept q3 t2 hg hr⟩
theorem OwnArsC.keptT {col : Nat → Nat} {w w1 : World} {B : Nat} {v : Value} {rs : List Ar} {T : TypeId} {row : Option Nat} (h : OwnArsC col w B v rs) (t0 : 84 ≠ T) (t1 : 38 ≠ T) (t2 : 3 ≠ T) (hg : w.grownBy w1 row) (hr : ∀ g, row = some g → ∃ cur fr, w.heap[g]? = some (.cells cur T fr)) : OwnArsC col w1 B v rs := by
  obtain ⟨xs, h1, h2, h3⟩ := h
  refine ⟨xs, row_kept h1 t0 hg hr, fun j hj => ?_, h3⟩
  obtain ⟨A, cc, q0, q1, q2, q3⟩ := h2 j hj
  exact ⟨A, cc, q0, q1, q2, q3.keptT t1 t2 hg hr⟩
theorem OwnArsC.base {col : Nat → Nat} {w : World} {B B' : Nat} {v : Value} {rs : List Ar} (h : OwnArsC col w B v rs) (hB : B' ≤ B) : OwnArsC col w B' v rs := by
  obtain ⟨xs, h1, h2, h3⟩ := h
  refine ⟨xs, row_base h1 hB, fun j hj => ?_, h3⟩
  obtain ⟨A, cc, q0, q1, q2, q3⟩ := h2 j hj
  exact ⟨A, cc, q0, q1, q2, q3.base hB⟩
theorem OwnArsC.recol {col col' : Nat → Nat} {w : World} {B : Nat} {v : Value} {rs : List Ar} (h : OwnArsC col w B v rs) (hc : ∀ g, g < w.heap.size → B ≤ g → col' g = col g) : OwnArsC col' w B v rs := by
  obtain ⟨xs, q1, q2, q3⟩ := h
  refine ⟨xs, q1, fun j hj => ?_, fun g hg => ?_⟩
  · obtain ⟨A, cc, r0, r1, r2, r3⟩ := q2 j hj
    exact ⟨A, cc, r0, r1, r2, r3.recol fun g hg hB e => by rw [hc g hg hB]; exact e⟩
  · have := World.ownsRow.lt q1 g hg
    rw [hc g this.2 this.1]
    exact q3 g hg
theorem OwnQC.keptQ {col : Nat → Nat} {w : World} {B g : Nat} {v v0 v1 : Value} {q : Qr} (h : OwnQC col w B v q) (hg : BlkQ w g 26 v0 v1) (o : Nat) (x : Value) : OwnQC col (w.setCell ⟨g, o, none⟩ x) B v q := by
  obtain ⟨A, c, A2, c2, e, h1, h2, h3, h4⟩ := h
  exact ⟨A, c, A2, c2, e, h1.keptT (by decide) (by decide) (but_set w g o x) hg.row_type, h2, h3.keptT (by decide) (by decide) (by decide) (but_set w g o x) hg.row_type, h4⟩
theorem OwnQC.base {col : Nat → Nat} {w : World} {B B' : Nat} {v : Value} {q : Qr} (h : OwnQC col w B v q) (hB : B' ≤ B) : OwnQC col w B' v q := by
  obtain ⟨A, c, A2, c2, e, h1, h2, h3, h4⟩ := h
  exact ⟨A, c, A2, c2, e, h1.base hB, h2, h3.base hB, h4⟩
/-- Sizes of what is in the map. -/
def SmG (g : Int → Option (List Ob)) : Prop := ∀ t os, TxnV t → g t = some os → (∀ o ∈ os, o.zs.length ≤ 1048576) ∧ os.length ≤ 1048576
/-- Behind it: areas that lie apart. -/
def Listed (rs : List Ar) (w : World) (e : Ending) (w' : World) : Prop := ∃ v col, e = .returned v ∧ OwnArsC col w' w.heap.size v rs ∧ Below w.heap.size w w'
set_option maxHeartbeats 4000000 in
set_option maxRecDepth 100000 in
theorem list_any (b n : Nat) (g : Int → Option (List Ob)) (w : World) (h : AMap w b n g) (HS : Hid (SmG g)) :
    Calls Try.prog 100 #[.map (some b)] w (Listed (lsA g 0 12) w) := by
  obtain ⟨i0, hi, hz0, hz1, hz2⟩ := info_of info_ar
  have oa : OwnArsC (fun _ => 1) (w.alloc (.cells #[] 84)) w.heap.size (.slice (some ⟨w.heap.size, 0, none⟩) 0 0) (lsA g 0 0) := ⟨[], nil_own (Nat.le_refl _) _ _, fun j hj => absurd hj (Nat.not_lt_zero _), fun _ _ => rfl⟩
  have b0 := (Below.refl w.heap.size w).alloc (Nat.le_refl _) (.cells #[] 84)
  go_enter Try.func100, Try.ntmps100
  go_wp2_with fail
  go_loopw [3, 8] (fun v i wr => ∃ (k : Nat) (col : Nat → Nat), k ≤ 12 ∧ i = .int .i64 k ∧ OwnArsC col wr w.heap.size v (lsA g 0 k) ∧ Below w.heap.size w wr) (fun _ i _ => 12 - (intOf i).toNat)
  case atStart => exact ⟨0, _, Nat.zero_le _, rfl, oa, b0⟩
  case round =>
    clear oa b0
    obtain ⟨k, col, hk, rfl, S, hb⟩ := hrel
    have hz := hb.size
    have hlen := lsA_length g k 0
    obtain ⟨out, hout⟩ : ∃ out, lsA g 0 k = out := ⟨_, rfl⟩
    rw [hout] at S hlen
    have HOUT := hid hout
    clear hout
    obtain ⟨Aa, ca, rfl, -, -⟩ := S.own.form
    by_cases hlt : k < 12
    · have q1 : (k : Int) < 12 := by omega
      have hT : TxnV (k : Int) := ⟨by omega, by omega⟩
      obtain ⟨f, hq, hf⟩ := h.later hb
      rcases hf (k : Int) with ⟨e1, e2⟩ | ⟨os, A, c, e1, e2, e3, e4⟩
      · have HN : Hid (lsA g 0 (k + 1) = out) := by show _ = _; rw [lsA_no e2, HOUT.out]
        clear hf e2
        go_wp2_with (at_lookup; refine wpList_lookok_q rfl _ _ 78 23 rfl Try.underlying78 (zeroObs _) rfl hq (k : Int) rfl (wfT_txn hT) (.slice none 0 0) (by rw [e1]; rfl) false (by rw [e1]; rfl) ?_)
        go_roundw
        case rel => exact ⟨k + 1, col, by omega, by go_num, by rw [HN.out]; exact S, hb⟩
        case measure => simp [intOf]; omega
      · have HN : Hid (lsA g 0 (k + 1) = out ++ [⟨(k : Int), os⟩]) := by show _ = _; rw [lsA_yes e1, HOUT.out]
        have HSM := HS.out _ os hT e1
        clear hf e1
        go_wp2_with (at_lookup; refine wpList_lookok_q rfl _ _ 78 23 rfl Try.underlying78 (zeroObs _) rfl hq (k : Int) rfl (wfT_txn hT) (.slice A os.length c) (by rw [e2]; rfl) true (by rw [e2]; rfl) ?_)
        refine (copyObjectsA_any A c os wr e4 HSM.2 HSM.1).mono ?_
        rintro e w5 ⟨g5, rfl, o5, b5⟩
        have z5 := b5.size
        have hbn := hb.trans (b5.mono hz)
        have o6 : OwnC (fresh wr col (out.length + 2)) (out.length + 2) w5 w.heap.size (.slice (some ⟨g5, 0, none⟩) os.length os.length) os := (OwnObsF.fresh o5.toF).base hz
        obtain ⟨xs, hrow, har, -⟩ := (OwnArsC.fresh (n := out.length + 2) S).below b5
        have oA := World.ownsRow.alloc hrow (.cells #[.int .i64 (k : Int), .slice (some ⟨g5, 0, none⟩) os.length os.length] 84)
        have rA := row_two w5 (.int .i64 (k : Int)) (.slice (some ⟨g5, 0, none⟩) os.length os.length) 84
        have lt5 := World.ownsRow.lt hrow
        clear o5 hq e2 e3 e4
        go_wp2_with (at_builtin; go_must (refine wpList_append_row _ rfl _ _ 24 rfl w.heap.size 84 i0 (.agg #[.int .i64 0, .slice none 0 0]) 2 32 Try.underlying24 hi hz0 hz1 hz2 rfl (by decide) _ out.length xs rfl oA _ (some ⟨w5.heap.size, 0, none⟩) 1 1 [.int .i64 (k : Int), .slice (some ⟨g5, 0, none⟩) os.length os.length] rfl rA rfl (ar_cells _ _ _ _) (by unfold maxLen; omega) (by omega) (by simp; omega) ?_); intro v7 w7 hown hg)
        have S7 := OwnArsC.app (a := ⟨(k : Int), os⟩) har (Nat.le_refl _) o6 hrow hown hg
        have b7 : Below w.heap.size w w7 := (hbn.alloc hbn.size _).grown hg (by simp; omega) (fun j hj => (lt5 j hj).1)
        clear hown hg oA rA hrow har o6
        go_roundw
        case rel => exact ⟨k + 1, _, by omega, by go_num, by rw [HN.out]; exact S7, b7⟩
        case measure => simp [intOf]; omega
    · have hk' : k = 12 := by omega
      subst hk'
      go_wp2
      go_ret
      rw [HOUT.out]
      exact ⟨_, col, rfl, S, hb⟩
/-- Behind it: a quarantine that lies apart. -/
def NewQD (q : Qr) (w : World) (e : Ending) (w' : World) : Prop := ∃ v col, e = .returned v ∧ OwnQC col w' w.heap.size v q ∧ Below w.heap.size w w'
set_option maxRecDepth 100000 in
set_option maxHeartbeats 2000000 in
theorem quarantineOf_any (A : Option Addr) (c b n : Nat) (m : List Ob) (g : Int → Option (List Ob)) (w : World) (h : Objs w w.heap.size A m) (hm : (∀ o ∈ m, o.zs.length ≤ 1048576) ∧ m.length ≤ 1048576) (hg : AMap w b n g) (HS : Hid (SmG g)) (rs : List Ar) (HR : Hid (lsA g 0 12 = rs)) :
    Calls Try.prog 63 #[.slice A m.length c, .map (some b)] w (NewQD ⟨m, rs⟩ w) := by
  have al := (Below.refl w.heap.size w).alloc (Nat.le_refl _) (.cells #[.slice none 0 0, .slice none 0 0] 26)
  have u := BlkQ.new_ w 26 (.slice none 0 0) (.slice none 0 0)
  have h1 := (h.below al (Nat.le_refl _)).more al.size
  have g1 := hg.later al
  clear h hg
  go_enter Try.func63, Try.ntmps63
  go_wp2_with fail
  generalize w.alloc (.cells #[.slice none 0 0, .slice none 0 0] 26) = W at *
  refine (copyObjectsA_any A c m W h1 hm.2 hm.1).mono ?_
  rintro e w5 ⟨g5, rfl, o5, b5⟩
  have g2 := g1.later b5
  have u5 := u.later b5
  have hb5 := al.trans (b5.mono al.size)
  go_wp2_with fail
  refine (list_any b n g w5 g2 HS).mono ?_
  rintro e w6 ⟨v6, col, rfl, S, b6⟩
  rw [HR.out] at S
  have u6 := u5.later b6
  have hb6 := hb5.trans (b6.mono hb5.size)
  obtain ⟨Aa, ca, rfl, -, hca⟩ := S.own.form
  obtain ⟨y0, y1, yf⟩ := id u6.reads
  have yf0 := yf 0
  have yf1 := yf 1
  have HC : Hid (∃ col', OwnC col' 0 w6 w.heap.size (.slice (some ⟨g5, 0, none⟩) m.length m.length) m ∧ OwnArsC col' w6 w.heap.size (.slice Aa rs.length ca) rs) := by
    refine ⟨fun k => if k < w5.heap.size then 0 else col k, OwnC.below (OwnC.base (o5.toF.col fun k hk hk2 => ?_) al.size) b6, OwnArsC.base (S.recol fun k hk hk2 => ?_) hb5.size⟩
    · show (if k < w5.heap.size then 0 else col k) = 0
      split
      · rfl
      · omega
    · show (if k < w5.heap.size then 0 else col k) = col k
      rw [if_neg (by omega)]
  clear S o5 u u5 g1 g2 h1
  go_wp2
  obtain ⟨col', c1, c2⟩ := HC.out
  have q6 : OwnQC col' w6 w.heap.size (qv (some ⟨g5, 0, none⟩) m.length m.length Aa rs.length ca) ⟨m, rs⟩ := ⟨_, _, _, _, rfl, c1, Nat.le_refl _, c2, hca⟩
  have q7 := (q6.keptQ u6 0 (.slice (some ⟨g5, 0, none⟩) m.length m.length)).keptQ (u6.set0 _) 1 (.slice Aa rs.length ca)
  obtain ⟨p0, p1, -⟩ := ((u6.set0 (.slice (some ⟨g5, 0, none⟩) m.length m.length)).set1 (.slice Aa rs.length ca)).reads
  unfold qv at q7
  refine bodyPost_ret (v := .agg #[.slice (some ⟨g5, 0, none⟩) m.length m.length, .slice Aa rs.length ca]) (by simp [results, Try.results63, go_sem, p0, p1]) rfl ⟨_, col', rfl, q7, (hb6.setCell (p := ⟨w.heap.size, 0, none⟩) (Nat.le_refl _) _).setCell (p := ⟨w.heap.size, 1, none⟩) (Nat.le_refl _) _⟩
end Go.Proofs.Ytblknnifccmpkaa
