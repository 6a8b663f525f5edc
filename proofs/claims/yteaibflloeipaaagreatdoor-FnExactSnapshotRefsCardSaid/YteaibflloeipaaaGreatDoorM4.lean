/-
  Walks: whether some shard lacks a transaction; how many first transactions are everywhere, by the program.
  Walks: how many first transactions are everywhere, by the program.
  Walk: the program's refs without ids, as an array.
  Walks: the program's ledger that nothing has been told; a transaction's last state.
  The coordinator with the slices $SA and $SB is stored as the answer, with the word $BB.
  The coordinator with the slices $SA and $SB is stored as the answer, with the word $BB.
  The coordinator with the slices $SA and $SB is stored as the answer, with the word $BB.
  The coordinator with the slices $SA and $SB is stored as the answer, with the word $BB.
  The coordinator with the slices $SA and $SB is stored as the answer, with the word $BB.
  The coordinator with the slices $SA and $SB is stored as the answer, with the word $BB.
  Walks: the program's channel of votes: sent into a buffer with room for all, received till it is closed; nothing waits.
  The coordinator with the slices $SA and $SB is stored as the answer, with the word $BB.
  The coordinator with the slices $SA and $SB is stored as the answer, with the word $BB.
-/
import Derived.Test.YteaibflloeipaaaGreatDoorM3
import Derived.Deep.Cut
import Derived.Conc.LoneCalls
import Derived.KernelRfl
import Derived.Laws.Rows
set_option linter.unusedSimpArgs false
set_option linter.unusedVariables false
namespace Go.Proofs.YteaibflloeipaaaGreatDoor
open Go.RowKit Wo Pu Rf Lk Sh Co Si
set_option linter.unusedVariables false
set_option linter.unusedSimpArgs false

/-- The first j parts of t are committed at their shards. -/
def HasTo (ss : List (List Rec)) (t : Tx) (n j : Nat) : Prop := ∀ i (hi : i < t.ps.length), i < j → ∃ k, ∃ hk : k < ss.length, t.ps[i].s = (k : Int) ∧ Sh.ask ss[k] (n : Int) = 2
theorem HasTo.zero (ss : List (List Rec)) (t : Tx) (n : Nat) : HasTo ss t n 0 := fun _ _ h => absurd h (Nat.not_lt_zero _)
theorem HasTo.next {ss : List (List Rec)} {t : Tx} {n j k : Nat} (h : HasTo ss t n j) (hj : j < t.ps.length) (hk : k < ss.length) (e : t.ps[j].s = (k : Int)) (ha : Sh.ask ss[k] (n : Int) = 2) : HasTo ss t n (j + 1) := fun i hi hl => by
  by_cases ei : i = j
  · subst ei; exact ⟨k, hk, e, ha⟩
  · exact h i hi (by omega)
set_option maxRecDepth 100000 in
set_option maxHeartbeats 8000000 in
theorem lacks_is (b : Bool) (X : List Value) (q : Crd) (ss : List (List Rec)) (n : Nat) (w : World) (h : Sit w w.heap.size X q ss) (hv : SV q ss) (hf : FitC q) (hn : n < q.ts.length) (hb : b = haveB q ss (n : Int)) :
    Calls Tryz.prog 75 #[.agg X.toArray, .int .i64 (n : Int)] w (Ret (.bool (!b)) w) := by
  have hn12 : n < 12 := Nat.lt_of_lt_of_le hn hv.cv.many
  have HI : Hid (b = true ↔ ∀ j (hj : j < q.ts[n].ps.length), ∃ k, ∃ hk : k < ss.length, q.ts[n].ps[j].s = (k : Int) ∧ Sh.ask ss[k] (n : Int) = 2) := by
    show _ ↔ _
    rw [hb]
    exact haveB_iff hv hn
  have HV := hid hv
  have HF := hid hf
  have HS := hid h
  clear hb
  obtain ⟨A, c, A2, c2, hx0, hx1, hT, hc, hO, hc2⟩ := h.crd
  have HX0 := hid hx0
  have h1 := hf.ts
  clear h hv hf hx0 hx1 hO
  have b1 := (Below.refl w.heap.size w).alloc (Nat.le_refl _) (.cells X.toArray 83)
  have x0 := Arr4.new_ w 83 X
  go_enter Tryz.func75, Tryz.ntmps75
  go_upto_region 1 with fail
  obtain ⟨w1, hw1⟩ : ∃ x, w.alloc (.cells X.toArray 83) = x := ⟨_, rfl⟩
  rw [hw1] at b1 x0 ⊢
  clear hw1
  obtain ⟨t, ad, A', c', A9, c9, ho, rfl, had, g0, -, -, -, -, g5, -⟩ := hT.tx hn
  replace g0 := (b1.cell had).trans g0
  rw [ho] at HI
  have y0 := x0.get_ HX0.out
  have hps := (HF.out.ps t (by rw [← ho]; exact List.getElem_mem hn)).1
  have htv := hid (HV.out.cv.txs t (by rw [← ho]; exact List.getElem_mem hn)).parts
  have i0 : (0 : Int) ≤ (n : Int) := by omega
  have i1 : (n : Int) < (q.ts.length : Int) := by omega
  have i2 : (n : Int) < 12 := by omega
  clear ho
  go_wp2_with fail
  go_loopw [15] (fun i wr => ∃ j : Nat, j ≤ t.ps.length ∧ i = .int .i64 j ∧ Hid (HasTo ss t n j) ∧ Arr4 wr w.heap.size 83 X ∧ Below w.heap.size w wr) (fun i _ => t.ps.length - (intOf i).toNat)
  case atStart => exact ⟨0, Nat.zero_le _, rfl, .zero _ _ _, x0, b1⟩
  case round =>
    clear x0 b1 y0 g0
    obtain ⟨j, hj, rfl, H, x0, hb⟩ := hrel
    have hz := hb.size
    by_cases hlt : j < t.ps.length
    · obtain ⟨p, adp, A5, c5, hop, rfl, hbp, p0, p1, -, -⟩ := (g5.below hb (Nat.le_refl _)).part hlt
      have hpr := htv.out.2.1 p (by rw [← hop]; exact List.getElem_mem hlt)
      obtain ⟨k, hk⟩ := Int.eq_ofNat_of_zero_le hpr.1
      have hk3 : k < ss.length := by rw [HV.out.n]; omega
      have j0 : (0 : Int) ≤ (j : Int) := by omega
      have j1 : (j : Int) < (t.ps.length : Int) := by omega
      have k0 : (0 : Int) ≤ (k : Int) := by omega
      have k1 : (k : Int) < 3 := by omega
      rw [hk] at p0
      have al := (Below.refl wr.heap.size wr).alloc (Nat.le_refl _) (.cells #[.int .i64 (k : Int), .slice A5 p.us.length c5] 40)
      obtain ⟨z0, z1, -⟩ := (Blk2s.new_ wr 40 (.int .i64 (k : Int)) (.slice A5 p.us.length c5)).reads
      have hb2 := hb.trans (al.mono hz)
      have x2 := x0.below al x0.lt
      have hst := HS.out.state hk3 hn12
      obtain ⟨a, hae⟩ : ∃ a, Sh.ask ss[k] (n : Int) = a := ⟨_, rfl⟩
      rw [hae] at hst
      have y5 := x2.get_ hst
      have HA := hid hae
      have HP := hid (hop ▸ hk : t.ps[j].s = (k : Int))
      clear al x0 hb hpr hst hae hop hk
      by_cases ha : a = 2
      · have e0 : (a != 2) = false := by rw [bne_eq_false_iff_eq]; exact ha
        have HN := hid (H.out.next hlt hk3 HP.out (by rw [HA.out]; exact ha))
        clear ha H HA HP
        go_wp2
        go_roundw
        case rel => exact ⟨j + 1, by omega, by go_num, HN, x2, hb2⟩
        case measure => simp [intOf]; omega
      · have e0 : (a != 2) = true := by rw [bne_iff_ne]; exact ha
        have F : Hid (b = false) := by
          show b = false
          rw [← Bool.not_eq_true]
          intro e
          obtain ⟨k', hk', e1, e2⟩ := HI.out.1 e j hlt
          have ek : k' = k := by have := HP.out; omega
          subst ek
          exact ha (HA.out.symm.trans e2)
        clear ha H HA HP HI
        go_wp2
        go_ret
        rw [F.out]
        exact .mk_ hb2
    · have hj' : j = t.ps.length := by omega
      subst hj'
      have F : Hid (b = true) := HI.out.2 fun j hj => H.out j hj hj
      clear HI H
      go_wp2
      go_ret
      rw [F.out]
      exact .mk_ hb
end Go.Proofs.YteaibflloeipaaaGreatDoor
namespace Go.Proofs.YteaibflloeipaaaGreatDoor
open Go.RowKit Wo Pu Rf Lk Sh Co Si
set_option linter.unusedVariables false
set_option linter.unusedSimpArgs false

/-- The first k transactions are everywhere. -/
def RdTo (q : Crd) (ss : List (List Rec)) (k : Nat) : Prop := ∀ j (hj : j < q.os.length), j < k → haveB q ss q.os[j] = true
theorem RdTo.zero (q : Crd) (ss : List (List Rec)) : RdTo q ss 0 := fun _ _ h => absurd h (Nat.not_lt_zero _)
theorem RdTo.next {q : Crd} {ss : List (List Rec)} {k : Nat} (h : RdTo q ss k) (hk : k < q.os.length) (e : haveB q ss q.os[k] = true) : RdTo q ss (k + 1) := fun i hi hl => by
  by_cases ei : i = k
  · subst ei; exact e
  · exact h i hi (by omega)
/-- The place of the first transaction that some shard lacks. -/
def lackI (q : Crd) (ss : List (List Rec)) : Int := if readyN q ss = q.os.length then -1 else (readyN q ss : Int)
set_option maxRecDepth 100000 in
set_option maxHeartbeats 4000000 in
theorem idxFunc_is (A2 : Option Addr) (c2 : Nat) (X : List Value) (q : Crd) (ss : List (List Rec)) (w : World) (h : Sit w w.heap.size X q ss) (hr : Row w w.heap.size A2 (ints q.os)) (hv : SV q ss) (hf : FitC q) :
    Calls Tryz.prog 74 #[.slice A2 q.os.length c2, .func (.func 75) #[.agg X.toArray] #[]] w (Ret (.int .i64 (lackI q ss)) w) := by
  have CL : Hid (∀ y (n : Nat) (b : Bool), Below w.heap.size w y → n < q.ts.length → b = haveB q ss (n : Int) → Calls Tryz.prog 75 #[.agg X.toArray, .int .i64 (n : Int)] y (Ret (.bool (!b)) y)) := fun y n b hy hn hb => lacks_is b X q ss n y (h.on hy) hv hf hn hb
  have HV := hid hv
  have h1 := hf.os
  clear h hv hf
  go_enter Tryz.func74, Tryz.ntmps74
  go_wp2_with fail
  go_loopw [8] (fun i wr => ∃ k : Nat, k ≤ q.os.length ∧ i = .int .i64 k ∧ Hid (RdTo q ss k) ∧ Below w.heap.size w wr) (fun i _ => q.os.length - (intOf i).toNat)
  case atStart => exact ⟨0, Nat.zero_le _, rfl, .zero _ _, Below.refl _ _⟩
  case round =>
    obtain ⟨k, hk, rfl, H, hb⟩ := hrel
    by_cases hlt : k < q.os.length
    · obtain ⟨n, hn, eo, -⟩ := HV.out.cv.order.2 _ (List.getElem_mem hlt)
      obtain ⟨ad, rfl, hbl, hc9⟩ := (hr.below hb (Nat.le_refl _)).int_ hlt
      rw [eo] at hc9
      have k0 : (0 : Int) ≤ (k : Int) := by omega
      have k1 : (k : Int) < (q.os.length : Int) := by omega
      obtain ⟨b, hbe⟩ : ∃ b, haveB q ss (n : Int) = b := ⟨_, rfl⟩
      have CX := hid (CL.out wr n b hb hn hbe.symm)
      have HB : Hid (haveB q ss q.os[k] = b) := by show _ = b; rw [eo]; exact hbe
      clear eo hbe
      go_wp2_with fail
      refine CX.out.mono ?_
      rintro e w5 ⟨rfl, d⟩
      replace hb := hb.trans (d.mono hb.size)
      clear d CX hc9
      cases b with
      | true =>
        have HN := hid (H.out.next hlt HB.out)
        clear H HB
        go_wp2
        go_roundw
        case rel => exact ⟨k + 1, by omega, by go_num, HN, hb⟩
        case measure => simp [intOf]; omega
      | false =>
        have F : Hid (lackI q ss = (k : Int)) := by
          show _ = _
          have e := readyN_eq (Nat.le_of_lt hlt) H.out (fun _ => HB.out)
          unfold lackI
          rw [e, if_neg (by omega)]
        clear H HB CL
        go_wp2
        go_ret
        rw [F.out]
        exact .mk_ hb
    · have hk' : k = q.os.length := by omega
      subst hk'
      have F : Hid (lackI q ss = -1) := by
        show _ = _
        have e := readyN_eq (Nat.le_refl _) H.out (fun h => absurd h (Nat.lt_irrefl _))
        unfold lackI
        rw [e, if_pos rfl]
      clear H CL
      go_wp2
      go_ret
      rw [F.out]
      exact .mk_ hb
set_option maxRecDepth 100000 in
set_option maxHeartbeats 4000000 in
theorem ready_is (X : List Value) (q : Crd) (ss : List (List Rec)) (w : World) (h : Sit w w.heap.size X q ss) (hv : SV q ss) (hf : FitC q) :
    Calls Tryz.prog 36 #[.agg X.toArray] w (Ret (.int .i64 (readyN q ss : Int)) w) := by
  have HL := readyN_le q ss
  obtain ⟨A, c, A2, c2, hx0, hx1, hT, hc, hO, hc2⟩ := h.crd
  have HX1 := hid hx1
  have HI : Hid ((Tryz.prog.info? 83).map (·.size) = some X.toArray.size) := by
    show _ = _
    rw [List.size_toArray, h.len]
    exact info_site
  have CX : Hid (∀ y, Below w.heap.size w y → Calls Tryz.prog 74 #[.slice A2 q.os.length c2, .func (.func 75) #[.agg X.toArray] #[]] y (Ret (.int .i64 (lackI q ss)) y)) := fun y hy => idxFunc_is A2 c2 X q ss y (h.on hy) ((hO.below hy (Nat.le_refl _)).more hy.size) hv hf
  have h1 := hf.os
  obtain ⟨rn, hrn⟩ : ∃ rn, readyN q ss = rn := ⟨_, rfl⟩
  have EL : lackI q ss = if rn = q.os.length then -1 else (rn : Int) := by unfold lackI; rw [hrn]
  rw [hrn] at HL ⊢
  rw [EL] at CX
  clear h hv hf hx0 hx1 hT hO EL hrn
  have b1 := (Below.refl w.heap.size w).alloc (Nat.le_refl _) (.cells X.toArray 83)
  have x0 := Arr4.new_ w 83 X
  go_enter Tryz.func36, Tryz.ntmps36
  go_upto_region 1 with fail
  obtain ⟨w1, hw1⟩ : ∃ x, w.alloc (.cells X.toArray 83) = x := ⟨_, rfl⟩
  rw [hw1] at b1 x0 ⊢
  clear hw1
  have y1 := x0.get_ HX1.out
  have hl : w1.heap[w.heap.size]? = some (.cells X.toArray 83 (0, 0)) := x0
  by_cases he : rn = q.os.length
  · subst he
    rw [if_pos rfl] at CX
    go_wp2_with (refine wpList_load_row rfl 83 _ rfl w.heap.size rfl 83 X.toArray (0, 0) _ hl Tryz.underlying83 rfl HI.out ?_)
    refine (CX.out _ b1).mono ?_
    rintro e w2 ⟨rfl, d⟩
    replace b1 := b1.trans (d.mono b1.size)
    replace x0 := x0.below d x0.lt
    clear d CX y1 hl
    have y1 := x0.get_ HX1.out
    go_wp2
    go_ret
    exact .mk_ b1
  · rw [if_neg he] at CX
    have e0 : ((rn : Int) == -1) = false := by rw [beq_eq_false_iff_ne]; omega
    clear he
    go_wp2_with (refine wpList_load_row rfl 83 _ rfl w.heap.size rfl 83 X.toArray (0, 0) _ hl Tryz.underlying83 rfl HI.out ?_)
    refine (CX.out _ b1).mono ?_
    rintro e w2 ⟨rfl, d⟩
    replace b1 := b1.trans (d.mono b1.size)
    clear d CX y1 hl x0
    go_wp2
    go_ret
    exact .mk_ b1
end Go.Proofs.YteaibflloeipaaaGreatDoor
namespace Go.Proofs.YteaibflloeipaaaGreatDoor
open Go.RowKit Wo Pu Rf

set_option linter.unusedVariables false in
set_option linter.unusedSimpArgs false in
theorem info_ra : (Tryz.prog.info? 76).map (·.size) = some 4 := by kernel_rfl
set_option linter.unusedVariables false in
/-- The first k refs without an id. -/
def noneTo (k : Nat) : List Int := List.replicate k (-1) ++ List.replicate (4 - k) 0
set_option linter.unusedVariables false in
set_option linter.unusedSimpArgs false in
theorem noneTo_length {k : Nat} (h : k ≤ 4) : (noneTo k).length = 4 := by simp [noneTo]; omega
set_option linter.unusedVariables false in
set_option linter.unusedSimpArgs false in
theorem noneTo_set {k : Nat} (h : k < 4) : (noneTo k).set k (-1) = noneTo (k + 1) := by
  have key : k = 0 ∨ k = 1 ∨ k = 2 ∨ k = 3 := by omega
  rcases key with rfl | rfl | rfl | rfl <;> rfl
set_option linter.unusedVariables false in
/-- Behind it: the array of four refs without ids. -/
def NewRefs (w : World) (e : Ending) (w' : World) : Prop := e = .returned (.agg (ints [-1, -1, -1, -1]).toArray) ∧ Below w.heap.size w w'
set_option linter.unusedVariables false in
set_option linter.unusedSimpArgs false in
set_option maxRecDepth 100000 in
set_option maxHeartbeats 4000000 in
theorem newRefs_is (w : World) : Calls Tryz.prog 82 #[] w (NewRefs w) := by
  have a0 := Arr4.new_ w 76 (ints [0, 0, 0, 0])
  have a1 := Arr4.new_ (w.alloc (.cells (ints [0, 0, 0, 0]).toArray 76)) 76 (ints [0, 0, 0, 0])
  have al := Below.refl (w.alloc (.cells (ints [0, 0, 0, 0]).toArray 76)).heap.size (w.alloc (.cells (ints [0, 0, 0, 0]).toArray 76))
  have a01 := a0.below (al.alloc (Nat.le_refl _) (.cells (ints [0, 0, 0, 0]).toArray 76)) (by simp)
  have b1 := ((Below.refl w.heap.size w).alloc (Nat.le_refl _) (.cells (ints [0, 0, 0, 0]).toArray 76)).alloc (by simp) (.cells (ints [0, 0, 0, 0]).toArray 76)
  rw [World.size_alloc] at a1
  go_enter Tryz.func82, Tryz.ntmps82
  go_wp2_with fail
  go_loopw [2, 3] (fun _ i wr => ∃ k : Nat, k ≤ 4 ∧ i = .int .i64 k ∧ Arr4 wr (w.heap.size + 1) 76 (ints (noneTo k)) ∧ Arr4 wr w.heap.size 76 (ints [0, 0, 0, 0]) ∧ Below w.heap.size w wr) (fun _ i _ => 4 - (intOf i).toNat)
  case atStart => exact ⟨0, Nat.zero_le _, rfl, a1, a01, b1⟩
  case round =>
    clear a0 a1 al a01 b1
    obtain ⟨k, hk, rfl, a, a0, hb⟩ := hrel
    have hl := noneTo_length hk
    by_cases hlt : k < 4
    · have q0 : (0 : Int) ≤ (k : Int) := by omega
      have q1 : (k : Int) < 4 := by omega
      have y0 := a.read (i := k) (by rw [ints_length, hl]; exact hlt)
      have f0 := a.frozen k
      have a5 := a.set k (.int .i64 (-1))
      have e5 : (ints (noneTo k)).set k (.int .i64 (-1)) = ints (noneTo (k + 1)) := by rw [← noneTo_set hlt]; unfold ints; rw [List.map_set]
      rw [e5] at a5
      have a05 := a0.far (p := ⟨w.heap.size + 1, k, none⟩) (by show w.heap.size ≠ w.heap.size + 1; omega) (.int .i64 (-1))
      have b5 := hb.setCell (p := ⟨w.heap.size + 1, k, none⟩) (Nat.le_succ _) (.int .i64 (-1))
      clear a a0 hb e5
      go_wp2
      go_roundw
      case rel => exact ⟨k + 1, by omega, by go_num, a5, a05, b5⟩
      case measure => simp [intOf]; omega
    · have hk' : k = 4 := by omega
      subst hk'
      have h4 : wr.heap[w.heap.size + 1]? = some (.cells (ints (noneTo 4)).toArray 76 (0, 0)) := a
      have h0 : wr.heap[w.heap.size]? = some (.cells (ints [0, 0, 0, 0]).toArray 76 (0, 0)) := a0
      clear hl a a0
      go_wp2_with (first
        | (refine wpList_load_row rfl 76 _ rfl (w.heap.size + 1) rfl 76 (ints (noneTo 4)).toArray (0, 0) _ h4 Tryz.underlying76 rfl info_ra ?_)
        | (refine wpList_store_rowTo rfl 76 _ _ rfl rfl w.heap.size (ints (noneTo 4)).toArray rfl rfl 76 (ints [0, 0, 0, 0]).toArray h0 info_ra rfl (ints_ones _) ?_))
      have h2 : (wr.setRow w.heap.size (ints (noneTo 4)).toArray).heap[w.heap.size]? = some (.cells (ints (noneTo 4)).toArray 76 (0, 0)) := setRow_heap wr _ _ _ _ _ h0
      have b9 := below_setRow hb (Nat.le_refl _) (ints (noneTo 4)).toArray
      refine bodyPost_ret (v := .agg (ints (noneTo 4)).toArray) (results_cell_row (p := 0) (by kernel_rfl) _ _ w.heap.size 76 _ (0, 0) _ rfl h2 Tryz.underlying76 rfl info_ra) rfl ⟨rfl, b9⟩
end Go.Proofs.YteaibflloeipaaaGreatDoor
namespace Go.Proofs.YteaibflloeipaaaGreatDoor
open Go.RowKit Wo Pu Rf Lk Sh

/-- Behind it: the ledger of no records. -/
def NewLed (w : World) (e : Ending) (w' : World) : Prop := ∃ cs, e = .returned (.agg cs.toArray) ∧ LdV w' w.heap.size cs [] ⟨[-1, -1, -1, -1], [-1, -1, -1, -1]⟩ ∧ Below w.heap.size w w'
theorem Arr4.grown {w w' : World} {g : Nat} {t : TypeId} {vs : List Value} {row : Option Nat} (h : Arr4 w g t vs) (hg : w.grownBy w' row) (hr : some g ≠ row) : Arr4 w' g t vs := (hg.block g h.lt hr).trans h
theorem but_setRow (w : World) (R : Nat) (cs : Array Value) : But R w (w.setRow R cs) := ⟨rfl, rfl, rfl, by simp, fun k _ hne => setRow_other w R k cs (fun e => hne (by rw [e]))⟩
/-- The first k refs without an id. -/
def noRefs (k : Nat) : List Int := List.replicate k (-1) ++ List.replicate (4 - k) 0
theorem noRefs_length {k : Nat} (h : k ≤ 4) : (noRefs k).length = 4 := by simp [noRefs]; omega
theorem noRefs_set {k : Nat} (h : k < 4) : (noRefs k).set k (-1) = noRefs (k + 1) := by
  have key : k = 0 ∨ k = 1 ∨ k = 2 ∨ k = 3 := by omega
  rcases key with rfl | rfl | rfl | rfl <;> rfl
def zst : List Int := [0, 0, 0, 0, 0, 0, 0, 0, 0, 0, 0, 0]
def zus : List Value := List.replicate 12 (.slice none 0 0)
def led1 : List Value := ledC [-1, -1, -1, -1] (.slice none 0 0) zst zus
theorem build_led (W : World) : (Instr.build 80 #[(0, .agg (ints [-1, -1, -1, -1]).toArray)]).run Tryz.prog W = .ok (.agg led1.toArray) W := by kernel_rfl
theorem led1_led : Led led1 := Led.mk_ (L := .slice none 0 0) (us := zus) rfl (st := zst) rfl rfl rfl (fun u hu => by unfold zus at hu; rw [List.mem_replicate] at hu; rw [hu.2]; rfl)
set_option maxRecDepth 100000 in
set_option maxHeartbeats 4000000 in
theorem newLedger_is (w : World) : Calls Tryz.prog 79 #[] w (NewLed w) := by
  obtain ⟨i0, hi, hz0, hz1, hz2⟩ := info_of info_int
  have a0 := Arr4.new_ w 80 led0
  have b0 := (Below.refl w.heap.size w).alloc (Nat.le_refl _) (.cells led0.toArray 80)
  go_enter Tryz.func79, Tryz.ntmps79
  go_upto_region 1 with fail
  obtain ⟨w1, hw1⟩ : ∃ x, w.alloc (.cells led0.toArray 80) = x := ⟨_, rfl⟩
  have hw1' : w.alloc (.cells #[.int .i64 0, .int .i64 0, .int .i64 0, .int .i64 0, .slice none 0 0, .int .i64 0, .int .i64 0, .int .i64 0, .int .i64 0, .int .i64 0, .int .i64 0, .int .i64 0, .int .i64 0, .int .i64 0, .int .i64 0, .int .i64 0, .int .i64 0, .slice none 0 0, .slice none 0 0, .slice none 0 0, .slice none 0 0, .slice none 0 0, .slice none 0 0, .slice none 0 0, .slice none 0 0, .slice none 0 0, .slice none 0 0, .slice none 0 0, .slice none 0 0] 80) = w1 := hw1
  rw [hw1] at a0 b0
  try rw [hw1']
  try rw [hw1]
  clear hw1 hw1'
  go_wp2_with fail
  refine (newRefs_is w1).mono ?_
  rintro e w2 ⟨rfl, d⟩
  have hbl := build_led
  replace a0 := a0.below d a0.lt
  have b2 := b0.trans (d.mono b0.size)
  have a1 := Arr4.new_ w2 80 led0
  have hne : w.heap.size ≠ w2.heap.size := by have := a0.lt; omega
  have b3 := below_setRow (g := w2.heap.size) (b2.alloc b2.size (.cells led0.toArray 80)) b2.size led1.toArray
  have hs1 : (w2.alloc (.cells led0.toArray 80)).heap[w2.heap.size]? = some (.cells led0.toArray 80 (0, 0)) := a1
  have a2 : Arr4 ((w2.alloc (.cells led0.toArray 80)).setRow w2.heap.size led1.toArray) w2.heap.size 80 led1 := setRow_heap _ _ _ _ _ _ hs1
  have a02 : Arr4 ((w2.alloc (.cells led0.toArray 80)).setRow w2.heap.size led1.toArray) w.heap.size 80 led0 := (setRow_other _ _ _ _ hne).trans (a0.alloc (.cells led0.toArray 80))
  have hgw : w.heap.size ≤ w2.heap.size := b2.size
  go_upto_region 2 with (refine wpList_store_rowTo rfl 80 _ _ rfl rfl w2.heap.size led1.toArray rfl rfl 80 led0.toArray hs1 led1_led.info (led0_led.size.trans led1_led.size.symm) led1_led.2 ?_)
  obtain ⟨w3, hw3⟩ : ∃ x, (w2.alloc (.cells led0.toArray 80)).setRow w2.heap.size led1.toArray = x := ⟨_, rfl⟩
  obtain ⟨g, hg⟩ : ∃ x, w2.heap.size = x := ⟨_, rfl⟩
  have hw3' : (w2.alloc (.cells #[.int .i64 0, .int .i64 0, .int .i64 0, .int .i64 0, .slice none 0 0, .int .i64 0, .int .i64 0, .int .i64 0, .int .i64 0, .int .i64 0, .int .i64 0, .int .i64 0, .int .i64 0, .int .i64 0, .int .i64 0, .int .i64 0, .int .i64 0, .slice none 0 0, .slice none 0 0, .slice none 0 0, .slice none 0 0, .slice none 0 0, .slice none 0 0, .slice none 0 0, .slice none 0 0, .slice none 0 0, .slice none 0 0, .slice none 0 0, .slice none 0 0] 80)).setRow w2.heap.size led1.toArray = w3 := hw3
  rw [hw3'] 
  rw [hw3] at a2 a02 b3
  rw [hg] at a2 hne hgw ⊢
  clear hw3 hw3' hg a0 a1 b0 b2 hs1 d hbl
  go_wp2_with fail
  go_loopw [4] (fun i wr => ∃ (k : Nat) (A : Option Addr) (c : Nat), k ≤ 4 ∧ i = .int .i64 k ∧ Arr4 wr g 80 (ledC [-1, -1, -1, -1] (.slice A k c) zst zus) ∧ Arr4 wr w.heap.size 80 led0 ∧ OwnI wr w.heap.size (.slice A k c) (nones k) ∧ Below w.heap.size w wr) (fun i _ => 4 - (intOf i).toNat)
  case atStart => exact ⟨0, none, 0, Nat.zero_le _, rfl, a2, a02, ⟨rfl, .inl ⟨rfl, rfl⟩⟩, b3⟩
  case round =>
    clear a2 a02 b3
    obtain ⟨k, A, c, hk, rfl, a5, a05, o5, b5⟩ := hrel
    have hz := b5.size
    by_cases hlt : k < 4
    · have q0 : (0 : Int) ≤ (k : Int) := by omega
      have q1 : (k : Int) < 4 := by omega
      have y4 : wr.cell? ⟨g, 4, none⟩ = some (.slice A k c) := by
        have := a5.read (i := 4) (by rw [ledC_length rfl rfl rfl]; omega)
        rw [this, ← List.getElem?_eq_getElem, ledC_locks rfl]
      have a6 := a5.alloc (.cells #[.int .i64 (-1)] 3)
      have a06 := a05.alloc (.cells #[.int .i64 (-1)] 3)
      have b6 := b5.alloc b5.size (.cells #[.int .i64 (-1)] 3)
      have o6 := o5.below ((Below.refl wr.heap.size wr).alloc (Nat.le_refl _) (.cells #[.int .i64 (-1)] 3)) (Nat.le_refl _)
      have r6 : (wr.alloc (.cells #[.int .i64 (-1)] 3)).ownsRow w.heap.size 3 1 (.slice A k c) k (ints (nones k)) := by
        unfold OwnI at o6
        rwa [nones_length] at o6
      have fit : ∀ (w7 : World) (v7 : Value), w7.ownsRow w.heap.size 3 1 v7 (k + 1) (ints (nones k) ++ [.int .i64 (-1)]) → (wr.alloc (.cells #[.int .i64 (-1)] 3)).grownBy w7 (Value.slice A k c).ownBlock →
          ∃ A' c', v7 = .slice A' (k + 1) c' ∧ (∃ v, w7.cell? ⟨g, 4, none⟩ = some v) ∧ w7.frozen? ⟨g, 4, none⟩ = false ∧ Arr4 (w7.setCell ⟨g, 4, none⟩ (.slice A' (k + 1) c')) g 80 (ledC [-1, -1, -1, -1] (.slice A' (k + 1) c') zst zus) ∧
            Arr4 (w7.setCell ⟨g, 4, none⟩ (.slice A' (k + 1) c')) w.heap.size 80 led0 ∧ OwnI (w7.setCell ⟨g, 4, none⟩ (.slice A' (k + 1) c')) w.heap.size (.slice A' (k + 1) c') (nones (k + 1)) ∧ Below w.heap.size w (w7.setCell ⟨g, 4, none⟩ (.slice A' (k + 1) c')) := by
        intro w7 v7 hown hg
        have a7 := a6.grown hg (blk_ne_row a6 r6 (by decide))
        have a07 := a06.grown hg (blk_ne_row a06 r6 (by decide))
        have o7 : OwnI w7 w.heap.size v7 (nones k ++ [-1]) := by
          refine OwnI.app ?_
          rw [nones_length]
          exact hown
        rw [← nones_succ] at o7
        obtain ⟨A', c', rfl, -, -⟩ := id o7.form
        rw [nones_length] at o7 ⊢
        have b7 := b6.grown hg b6.size fun j hj => (World.ownsRow.lt r6 j hj).1
        refine ⟨A', c', rfl, ⟨_, a7.read (i := 4) (by rw [ledC_length rfl rfl rfl]; omega)⟩, a7.frozen 4, ?_, a07.far hne _, o7.keptT (by decide) (but_set w7 g 4 _) (blk_type a7), b7.setCell hgw _⟩
        have := a7.set 4 (.slice A' (k + 1) c')
        rwa [ledC_set_locks rfl] at this
      have F := hid fit
      have z6 : w.heap.size ≤ (wr.alloc (.cells #[.int .i64 (-1)] 3)).heap.size := b6.size
      clear a5 a05 b5 o5 o6 fit a6 a06 b6
      go_wp2_with (at_builtin; go_must (refine wpList_append_row _ rfl _ _ 24 rfl w.heap.size 3 i0 (.int .i64 0) 1 8 Tryz.underlying24 hi hz0 hz1 hz2 rfl (by decide) _ k _ rfl r6 (wr.heap.size + 1) (some ⟨wr.heap.size, 0, none⟩) 1 1 [.int .i64 (-1)] rfl (.inr ⟨_, rfl, Nat.lt_succ_self _, cell_one_new _ _ _⟩) rfl (one_int _) (by unfold maxLen; omega) (by omega) z6 ?_); intro v7 w7 hown hg; obtain ⟨A7, c7, rfl, ⟨v4, t4⟩, f4, a8, a08, o8, b8⟩ := F.out _ _ hown hg)
      go_roundw
      case rel => exact ⟨k + 1, A7, c7, by omega, by go_num, a8, a08, o8, b8⟩
      case measure => simp [intOf]; omega
    · have hk' : k = 4 := by omega
      subst hk'
      have hs : wr.heap[w.heap.size]? = some (.cells led0.toArray 80 (0, 0)) := a05
      have hL := hid (Led.mk_ (zs := [-1, -1, -1, -1]) (L := .slice A 4 c) (us := zus) rfl (st := zst) rfl rfl rfl (fun u hu => by unfold zus at hu; rw [List.mem_replicate] at hu; rw [hu.2]; rfl))
      obtain ⟨cs, hcs⟩ : ∃ cs, ledC [-1, -1, -1, -1] (.slice A 4 c) zst zus = cs := ⟨_, rfl⟩
      rw [hcs] at a5 hL
      have HC := hid hcs
      clear hcs
      have hld : wr.heap[g]? = some (.cells cs.toArray 80 (0, 0)) := a5
      go_wp2_with (first
        | (refine wpList_load_row rfl 80 _ rfl g rfl 80 cs.toArray (0, 0) _ hld Tryz.underlying80 rfl hL.out.info ?_)
        | (refine wpList_store_rowTo rfl 80 _ _ rfl rfl w.heap.size cs.toArray rfl rfl 80 led0.toArray hs hL.out.info (led0_led.size.trans hL.out.size.symm) hL.out.2 ?_))
      have h2 : (wr.setRow w.heap.size cs.toArray).heap[w.heap.size]? = some (.cells cs.toArray 80 (0, 0)) := setRow_heap wr _ _ _ _ _ hs
      have b9 := below_setRow b5 (Nat.le_refl _) cs.toArray
      refine bodyPost_ret (v := .agg cs.toArray) (results_cell_row (p := 0) (by kernel_rfl) _ _ w.heap.size 80 _ (0, 0) _ rfl h2 Tryz.underlying80 rfl hL.out.info) rfl ⟨cs, rfl, ?_, b9⟩
      refine ⟨A, c, zus, HC.out.symm, rfl, fun u hu => by unfold zus at hu; rw [List.mem_replicate] at hu; rw [hu.2]; rfl, ?_, fun t _ ht => absurd ht (by unfold Sh.ask; simp)⟩
      exact o5.keptT (by decide) (but_setRow wr w.heap.size cs.toArray) (blk_type a05)
end Go.Proofs.YteaibflloeipaaaGreatDoor
/- Laws on coordinators: a coordinator is boxed. -/
/- On to the world behind D. -/
/- An exact law begins: the argument's box, its size, a copy for the model. -/
/- The program's own copy of the argument is boxed. -/
/- The program's copy is as the argument; the region draws. -/
/- Laws on functions that answer numbers. -/
/- What the boxes hold is read again. -/
/- The coordinator with the slices P4 and P5 is boxed as P6, in block P7, behind it the world P3; ahead of region P1. -/
/- The draw, the program's answer, the model's, and that they are the same: behind it w5, all facts on it by way of dx. -/
/-
  Walks: what the program's ledger is after a transaction is decided.
-/
namespace Go.Proofs.YteaibflloeipaaaGreatDoor
open Go.RowKit Wo Pu Rf Lk Sh

/-- Behind it: the locks of a transaction are freed, its state is told. -/
def DecO (zs : List Int) (n : Nat) (qs st : List Int) (us : List Value) (w : World) (e : Ending) (w' : World) : Prop :=
  ∃ A' c', e = .returned (.agg (ledC zs (.slice A' n c') st us).toArray) ∧ OwnI w' w.heap.size (.slice A' n c') qs ∧ Below w.heap.size w w'
set_option maxRecDepth 100000 in
set_option maxHeartbeats 4000000 in
theorem decided_is (zs st locks : List Int) (A : Option Addr) (c : Nat) (us : List Value) (m : Nat) (z : Int) (w : World) (h1 : zs.length = 4) (h2 : st.length = 12) (h3 : us.length = 12) (hu : ∀ u ∈ us, u.oneCell' = true) (hr : Row w w.heap.size A (ints locks)) (hl : LV locks) (hm : m < 12) :
    Calls Tryz.prog 139 #[.agg (ledC zs (.slice A locks.length c) st us).toArray, .int .i64 (m : Int), .int .i64 z] w (DecO zs locks.length (freeL m locks) (st.set m z) us w) := by
  obtain ⟨bb, hbb⟩ := bool_of (true = true ∧ (m : Int) ∈ locks)
  have hl4 := hl.1
  have CF : Hid (∀ x, Row x x.heap.size A (ints locks) → Calls Tryz.prog 155 #[.slice A locks.length c, .int .i64 (m : Int)] x (Took (freeL m locks) bb x)) := fun x hx =>
    implLocksFree_is true bb _ A c locks m x hx (by omega) ⟨fun _ => ⟨hl, by unfold TV; omega⟩, fun _ => rfl⟩ hbb rfl
  have hL := hid (Led.mk_ (L := .slice A locks.length c) (us := us) h1 h2 h3 rfl hu)
  have HL : Hid (∀ A' c', Led (ledC zs (.slice A' locks.length c') (st.set m z) us)) := fun A' c' => Led.mk_ h1 (by rw [List.length_set]; exact h2) h3 rfl hu
  have HS : Hid (∀ A' c', ((ledC zs (.slice A locks.length c) st us).set 4 (.slice A' locks.length c')).set (5 + m) (.int .i64 z) = ledC zs (.slice A' locks.length c') (st.set m z) us) := fun A' c' => by rw [ledC_set_locks h1, ledC_set_state h1 h2 hm]
  have HY := hid (ledC_locks (L := .slice A locks.length c) (st := st) (us := us) h1)
  obtain ⟨cs, hcs⟩ : ∃ cs, ledC zs (.slice A locks.length c) st us = cs := ⟨_, rfl⟩
  have hfl := free_length (m : Int) locks
  rw [hcs] at hL HS HY ⊢
  clear hcs hbb hl h1 h2 h3 hu hl4
  have a0 := (Arr4.new_ w 80 cs).alloc (.cells led0.toArray 80)
  have a1 := Arr4.new_ (w.alloc (.cells cs.toArray 80)) 80 led0
  have b1 := ((Below.refl w.heap.size w).alloc (Nat.le_refl _) (.cells cs.toArray 80)).alloc (by simp) (.cells led0.toArray 80)
  rw [World.size_alloc] at a1
  go_enter Tryz.func139, Tryz.ntmps139
  go_upto_region 1 with fail
  obtain ⟨W, hW⟩ : ∃ x, (w.alloc (.cells cs.toArray 80)).alloc (.cells led0.toArray 80) = x := ⟨_, rfl⟩
  change Code.wp _ _ _ _ ((w.alloc (.cells cs.toArray 80)).alloc (.cells led0.toArray 80))
  rw [hW] at a0 a1 b1 ⊢
  clear hW
  have y4 : W.cell? ⟨w.heap.size, 4, none⟩ = some (.slice A locks.length c) := by
    rw [a0.read (i := 4) (by rw [hL.out.1]; omega), ← List.getElem?_eq_getElem, HY.out]
  go_wp2_with fail
  refine (CF.out _ (row_on hr b1)).mono ?_
  rintro e w2 ⟨A2, c2, rfl, o2, d2⟩
  rw [hfl] at o2 ⊢
  have b2 := b1.trans (d2.mono b1.size)
  have q0 := a0.below d2 a0.lt
  have q1 := a1.below d2 a1.lt
  have o2' := o2.base (B' := w.heap.size) b1.size
  clear a0 a1 b1 d2 y4 CF hr o2
  have k0 : (0 : Int) ≤ (m : Int) := by omega
  have k1 : (m : Int) < 12 := by omega
  obtain ⟨v4, y4⟩ : ∃ v, w2.cell? ⟨w.heap.size, 4, none⟩ = some v := ⟨_, q0.read (i := 4) (by rw [hL.out.1]; omega)⟩
  have f4 := q0.frozen 4
  obtain ⟨L2, hL2⟩ : ∃ L2, Value.slice A2 locks.length c2 = L2 := ⟨_, rfl⟩
  have r0 := q0.set 4 L2
  have r1 := q1.far (p := ⟨w.heap.size, 4, none⟩) (by show w.heap.size + 1 ≠ w.heap.size; omega) L2
  have o3 := o2'.keptT (by decide) (but_set w2 w.heap.size 4 L2) (blk_type q0)
  have b3 := b2.setCell (p := ⟨w.heap.size, 4, none⟩) (Nat.le_refl _) L2
  obtain ⟨v5, y5⟩ : ∃ v, (w2.setCell ⟨w.heap.size, 4, none⟩ L2).cell? ⟨w.heap.size, 5 + m, none⟩ = some v := ⟨_, r0.read (i := 5 + m) (by rw [List.length_set, hL.out.1]; omega)⟩
  have f5 := r0.frozen (5 + m)
  have s0 := r0.set (5 + m) (.int .i64 z)
  have s1 := r1.far (p := ⟨w.heap.size, 5 + m, none⟩) (by show w.heap.size + 1 ≠ w.heap.size; omega) (.int .i64 z)
  have o4 := o3.keptT (by decide) (but_set _ w.heap.size (5 + m) (.int .i64 z)) (blk_type r0)
  have b4 := b3.setCell (p := ⟨w.heap.size, 5 + m, none⟩) (Nat.le_refl _) (.int .i64 z)
  subst hL2
  rw [HS.out] at s0
  have hL' := hid (HL.out A2 c2)
  obtain ⟨cs', hcs⟩ : ∃ cs', ledC zs (.slice A2 locks.length c2) (st.set m z) us = cs' := ⟨_, rfl⟩
  have HC := hid hcs
  rw [hcs] at s0 hL'
  have hld : ((w2.setCell ⟨w.heap.size, 4, none⟩ (.slice A2 locks.length c2)).setCell ⟨w.heap.size, 5 + m, none⟩ (.int .i64 z)).heap[w.heap.size]? = some (.cells cs'.toArray 80 (0, 0)) := s0
  have hs : ((w2.setCell ⟨w.heap.size, 4, none⟩ (.slice A2 locks.length c2)).setCell ⟨w.heap.size, 5 + m, none⟩ (.int .i64 z)).heap[w.heap.size + 1]? = some (.cells led0.toArray 80 (0, 0)) := s1
  clear hcs q0 q1 r0 r1 o2' o3 b2 b3
  go_wp2_with (first
    | (refine wpList_load_row rfl 80 _ rfl w.heap.size rfl 80 cs'.toArray (0, 0) _ hld Tryz.underlying80 rfl hL'.out.info ?_)
    | (refine wpList_store_rowTo rfl 80 _ _ rfl rfl (w.heap.size + 1) cs'.toArray rfl rfl 80 led0.toArray hs hL'.out.info (led0_led.size.trans hL'.out.size.symm) hL'.out.2 ?_))
  have h2 := setRow_heap _ _ _ cs'.toArray _ _ hs
  have b9 := below_setRow b4 (Nat.le_succ _) cs'.toArray
  have o9 := o4.keptT (by decide) (but_setRow _ (w.heap.size + 1) cs'.toArray) (blk_type s1)
  refine bodyPost_ret (v := .agg cs'.toArray) (results_cell_row (p := 6) (by kernel_rfl) _ _ (w.heap.size + 1) 80 _ (0, 0) _ rfl h2 Tryz.underlying80 rfl hL'.out.info) rfl ⟨A2, c2, by rw [HC.out], o9, b9⟩
end Go.Proofs.YteaibflloeipaaaGreatDoor
/- Laws on coordinators: a coordinator is boxed. -/
/- On to the world behind D. -/
/- An exact law begins: the argument's box, its size, a copy for the model. -/
/- The program's own copy of the argument is boxed. -/
/- The program's copy is as the argument; the region draws. -/
/- Laws on functions that answer numbers. -/
/- What the boxes hold is read again. -/
/- The coordinator with the slices P4 and P5 is boxed as P6, in block P7, behind it the world P3; ahead of region P1. -/
/- The draw, the program's answer, the model's, and that they are the same: behind it w5, all facts on it by way of dx. -/
/-
  Walks: what the program's ledger is after a vote.
-/
namespace Go.Proofs.YteaibflloeipaaaGreatDoor
open Go.RowKit Wo Pu Rf Lk Sh

/-- Behind it: a ledger and a word; a false one tells nothing. -/
def LedBad (w : World) (e : Ending) (w' : World) : Prop := ∃ cs', Led cs' ∧ e = .returned (.tuple #[.agg cs'.toArray, .bool false]) ∧ Below w.heap.size w w'
def PrepO (b : Bool) (zs : List Int) (n : Nat) (qs st : List Int) (us : List Value) (w : World) (e : Ending) (w' : World) : Prop :=
  (b = false ∧ LedBad w e w') ∨ (b = true ∧ ∃ A' c', e = .returned (.tuple #[.agg (ledC zs (.slice A' n c') st us).toArray, .bool true]) ∧ OwnI w' w.heap.size (.slice A' n c') qs ∧ Below w.heap.size w w')
set_option maxRecDepth 100000 in
set_option maxHeartbeats 8000000 in
theorem prepared_is (b : Bool) (zs st locks : List Int) (A : Option Addr) (c : Nat) (us : List Value) (m : Nat) (AL : Option Addr) (cL : Nat) (ups : List Up) (x : Int) (w : World) (er0 er1 : Addr) (h1 : zs.length = 4) (h2 : st.length = 12) (h3 : us.length = 12) (hu : ∀ u ∈ us, u.oneCell' = true)
    (hr : Row w w.heap.size A (ints locks)) (hl : LV locks) (hm : m < 12) (hU : Row w w.heap.size AL (upsV ups)) (uv : UV ups) (hlen : ups.length ≤ 1048600) (hE : Errs er0 er1 w) (hx : st[m]? = some x) (hb : b = true ↔ x = 0 ∧ Fits zs ups ∧ Fits locks (lk m ups)) :
    Calls Tryz.prog 111 #[.agg (ledC zs (.slice A locks.length c) st us).toArray, .int .i64 (m : Int), .slice AL ups.length cL] w (PrepO b zs locks.length (setR locks (lk m ups)) (st.set m 1) (us.set m (.slice AL ups.length cL)) w) := by
  obtain ⟨bu, hbu⟩ := bool_of (Fits zs ups)
  obtain ⟨bl, hbl⟩ := bool_of (Fits locks (lk m ups))
  have hl4 := hl.1
  have tv : TV (m : Int) := by unfold TV; omega
  have hI : (Tryz.prog.info? 76).map (·.size) = some (ints zs).length := by rw [ints_length, h1]; exact info_refsJ
  have hJ : ∀ ys : List Int, ys.length = 4 → (Tryz.prog.info? 76).map (·.size) = some (ints ys).toArray.size := fun ys hy => by rw [List.size_toArray, ints_length, hy]; exact info_refsJ
  obtain ⟨ys, hys⟩ : ∃ ys, (if bu then setR zs ups else zs) = ys := ⟨_, rfl⟩
  have hyl : ys.length = 4 := by rw [← hys]; cases bu with
    | false => exact h1
    | true => show (setR zs ups).length = 4; rw [setR_length]; exact h1
  have CU : Hid (∀ y, Row y y.heap.size AL (upsV ups) → Calls Tryz.prog 137 #[.agg (ints zs).toArray, .slice AL ups.length cL] y (Updt bu zs ups y)) := fun y hy => updated_is bu AL cL zs ups y h1 hy (refs4_of uv) hlen hbu
  have CT : Hid (∀ y, Row y y.heap.size A (ints locks) → Row y y.heap.size AL (upsV ups) → Errs er0 er1 y → ∃ q, Calls Tryz.prog 138 #[.slice A locks.length c, .int .i64 (m : Int), .slice AL ups.length cL] y (Took q bl y) ∧ q.length = locks.length ∧ (bl = true → q = setR locks (lk m ups))) := fun y hy hyu he => by
    cases bl with
    | true => exact ⟨_, implLocksTake_is .yes er0 er1 A AL c cL locks m ups y he hy hyu (by omega) hlen ⟨hl, tv, uv, hbl.1 rfl⟩, by show (setR locks (lk m ups)).length = _; rw [setR_length], fun _ => rfl⟩
    | false => exact ⟨_, implLocksTake_is .no er0 er1 A AL c cL locks m ups y he hy hyu (by omega) hlen ⟨hl, tv, uv, fun e => by have := hbl.2 e; cases this⟩, rfl, fun e => by cases e⟩
  have HB : Hid (b = (decide (x = 0) && bu && bl)) := by
    show b = _
    rw [Bool.eq_iff_iff, hb]
    simp only [Bool.and_eq_true, decide_eq_true_eq, hbu, hbl, and_assoc]
  have hL := hid (Led.mk_ (L := .slice A locks.length c) (us := us) h1 h2 h3 rfl hu)
  have HL : Hid (∀ A' c', Led (ledC zs (.slice A' locks.length c') (st.set m 1) (us.set m (.slice AL ups.length cL)))) := fun A' c' => Led.mk_ h1 (by rw [List.length_set]; exact h2) (by rw [List.length_set]; exact h3) rfl (fun u hu' => by
    rcases List.mem_or_eq_of_mem_set hu' with e | rfl
    · exact hu u e
    · rfl)
  have HS : Hid (∀ A' c', (((ledC zs (.slice A locks.length c) st us).set 4 (.slice A' locks.length c')).set (17 + m) (.slice AL ups.length cL)).set (5 + m) (.int .i64 1) = ledC zs (.slice A' locks.length c') (st.set m 1) (us.set m (.slice AL ups.length cL))) := fun A' c' => by rw [ledC_set_locks h1, ledC_set_ups h1 h2, ledC_set_state h1 h2 hm]
  have HY := hid (ledC_locks (L := .slice A locks.length c) (st := st) (us := us) h1)
  have HX : Hid ((ledC zs (.slice A locks.length c) st us)[5 + m]? = some (.int .i64 x)) := by
    show _ = _
    rw [ledC_state h1 h2 hm]
    rw [List.getElem?_eq_getElem (by omega)] at hx
    injection hx with hx
    rw [hx]
  have HR : Hid (∀ j v, (ints zs)[j]? = some v → (ledC zs (.slice A locks.length c) st us)[j]? = some v) := fun j v h => ledC_range h
  obtain ⟨cs, hcs⟩ : ∃ cs, ledC zs (.slice A locks.length c) st us = cs := ⟨_, rfl⟩
  rw [hcs] at hL HS HY HX HR ⊢
  have HJ := hid hJ
  have HYS := hid hys
  have HYL := hid hyl
  have HE := hid hE
  clear hcs hbu hbl hb hl h1 h2 h3 hu hl4 tv hJ hys hyl uv hx hE
  have a0 := (Arr4.new_ w 80 cs).alloc (.cells led0.toArray 80)
  have a1 := Arr4.new_ (w.alloc (.cells cs.toArray 80)) 80 led0
  have b1 := ((Below.refl w.heap.size w).alloc (Nat.le_refl _) (.cells cs.toArray 80)).alloc (by simp) (.cells led0.toArray 80)
  rw [World.size_alloc] at a1
  go_enter Tryz.func111, Tryz.ntmps111
  go_upto_region 1 with fail
  obtain ⟨W, hW⟩ : ∃ x, (w.alloc (.cells cs.toArray 80)).alloc (.cells led0.toArray 80) = x := ⟨_, rfl⟩
  change Code.wp _ _ _ _ ((w.alloc (.cells cs.toArray 80)).alloc (.cells led0.toArray 80))
  rw [hW] at a0 a1 b1 ⊢
  clear hW
  have hrng : W.rangeAt w.heap.size 0 (ints zs) := fun j v hj => by rw [Nat.zero_add]; exact a0.get_ (HR.out j v hj)
  go_wp2_with (refine wpList_load_mid rfl 76 _ rfl w.heap.size 0 rfl (ints zs) _ hrng Tryz.underlying76 rfl hI ?_)
  refine (CU.out _ (row_on hU b1)).mono ?_
  rintro e w2 ⟨rfl, d2⟩
  rw [HYS.out]
  clear hrng
  have b2 := b1.trans (d2.mono b1.size)
  have a02 := a0.below d2 a0.lt
  have a12 := a1.below d2 a1.lt
  clear a0 a1 b1 d2
  have hs := heap_alloc_new w2 (.cells (ints [0, 0, 0, 0]).toArray 76)
  have a03 := (a02.alloc (.cells (ints [0, 0, 0, 0]).toArray 76)).farRow (g' := w2.heap.size) (Nat.ne_of_lt a02.lt) (ints ys).toArray
  have a13 := (a12.alloc (.cells (ints [0, 0, 0, 0]).toArray 76)).farRow (g' := w2.heap.size) (Nat.ne_of_lt a12.lt) (ints ys).toArray
  have b3 := below_setRow (g := w2.heap.size) (b2.alloc b2.size (.cells (ints [0, 0, 0, 0]).toArray 76)) b2.size (ints ys).toArray
  obtain ⟨w3, hw3⟩ : ∃ x, (w2.alloc (.cells (ints [0, 0, 0, 0]).toArray 76)).setRow w2.heap.size (ints ys).toArray = x := ⟨_, rfl⟩
  rw [hw3] at a03 a13 b3
  clear a02 a12 b2
  go_upto_region 2 with (refine wpList_store_rowTo rfl 76 _ _ rfl rfl w2.heap.size (ints ys).toArray rfl rfl 76 (ints [0, 0, 0, 0]).toArray hs (HJ.out _ HYL.out) (by rw [List.size_toArray, List.size_toArray, ints_length, ints_length, HYL.out]; rfl) (ints_ones _) ?_)
  change Code.wp _ _ _ _ ((w2.alloc (.cells (ints [0, 0, 0, 0]).toArray 76)).setRow w2.heap.size (ints ys).toArray)
  rw [hw3]
  have y4 : w3.cell? ⟨w.heap.size, 4, none⟩ = some (.slice A locks.length c) := a03.get_ HY.out
  have HE3 := HE.out.below b3
  obtain ⟨q, CT3, hq, hq2⟩ := CT.out w3 (row_on hr b3) (row_on hU b3) HE3
  have HC3 := hid CT3
  have HQ2 := hid hq2
  clear hw3 hs CT3 hq2 CT CU HE3
  go_wp2_with fail
  refine HC3.out.mono ?_
  rintro e w4 ⟨A4, c4, rfl, o4, d4⟩
  rw [hq] at o4 ⊢
  have b4 := b3.trans (d4.mono b3.size)
  have s0 := a03.below d4 a03.lt
  have s1 := a13.below d4 a13.lt
  have o4' := o4.base (B' := w.heap.size) b3.size
  have y5 := s0.get_ HX.out
  have k0 : (0 : Int) ≤ (m : Int) := by omega
  have k1 : (m : Int) < 12 := by omega
  clear a03 a13 b3 d4 y4 HC3 o4 hr
  by_cases hx0 : x = 0
  · have e0 : (x != 0) = false := by rw [bne_eq_false_iff_eq]; exact hx0
    cases bu with
    | false =>
      have F : Hid (b = false) := by show b = false; rw [HB.out]; simp
      clear hx0
      have hL' := hL
      have hld : (w4).heap[w.heap.size]? = some (.cells (cs).toArray 80 (0, 0)) := s0
      have hs : (w4).heap[w.heap.size + 1]? = some (.cells led0.toArray 80 (0, 0)) := s1
      go_wp2_with (first
        | (refine wpList_load_row rfl 80 _ rfl w.heap.size rfl 80 (cs).toArray (0, 0) _ hld Tryz.underlying80 rfl hL'.out.info ?_)
        | (refine wpList_store_rowTo rfl 80 _ _ rfl rfl (w.heap.size + 1) (cs).toArray rfl rfl 80 led0.toArray hs hL'.out.info (led0_led.size.trans hL'.out.size.symm) hL'.out.2 ?_))
      have h2 := setRow_heap _ _ _ (cs).toArray _ _ hs
      have b9 := below_setRow b4 (Nat.le_succ _) (cs).toArray
      refine bodyPost_ret (v := .tuple #[.agg cs.toArray, .bool false]) (results_row_slot (p := 6) (s := 7) (by kernel_rfl) _ _ (w.heap.size + 1) 80 _ (0, 0) _ _ rfl rfl h2 Tryz.underlying80 hL'.out.info) rfl (.inl ⟨F.out, cs, hL.out, rfl, b9⟩)
    | true =>
      cases bl with
      | false =>
        have F : Hid (b = false) := by show b = false; rw [HB.out]; simp
        clear hx0
        have hL' := hL
        have hld : (w4).heap[w.heap.size]? = some (.cells (cs).toArray 80 (0, 0)) := s0
        have hs : (w4).heap[w.heap.size + 1]? = some (.cells led0.toArray 80 (0, 0)) := s1
        go_wp2_with (first
          | (refine wpList_load_row rfl 80 _ rfl w.heap.size rfl 80 (cs).toArray (0, 0) _ hld Tryz.underlying80 rfl hL'.out.info ?_)
          | (refine wpList_store_rowTo rfl 80 _ _ rfl rfl (w.heap.size + 1) (cs).toArray rfl rfl 80 led0.toArray hs hL'.out.info (led0_led.size.trans hL'.out.size.symm) hL'.out.2 ?_))
        have h2 := setRow_heap _ _ _ (cs).toArray _ _ hs
        have b9 := below_setRow b4 (Nat.le_succ _) (cs).toArray
        refine bodyPost_ret (v := .tuple #[.agg cs.toArray, .bool false]) (results_row_slot (p := 6) (s := 7) (by kernel_rfl) _ _ (w.heap.size + 1) 80 _ (0, 0) _ _ rfl rfl h2 Tryz.underlying80 hL'.out.info) rfl (.inl ⟨F.out, cs, hL.out, rfl, b9⟩)
      | true =>
        have F : Hid (b = true) := by show b = true; rw [HB.out]; simp [hx0]
        have eq : q = setR locks (lk m ups) := HQ2.out rfl
        obtain ⟨v4, y4⟩ := s0.has_ (i := 4) (by rw [hL.out.1]; omega)
        have f4 := s0.frozen 4
        obtain ⟨L2, hL2⟩ : ∃ L2, Value.slice A4 locks.length c4 = L2 := ⟨_, rfl⟩
        have r0 := s0.set 4 L2
        have r1 := s1.far (p := ⟨w.heap.size, 4, none⟩) (by show w.heap.size + 1 ≠ w.heap.size; omega) L2
        have o5 := o4'.keptT (by decide) (but_set w4 w.heap.size 4 L2) (blk_type s0)
        have b5 := b4.setCell (p := ⟨w.heap.size, 4, none⟩) (Nat.le_refl _) L2
        obtain ⟨v6, y6⟩ := r0.has_ (i := 17 + m) (by rw [List.length_set, hL.out.1]; omega)
        have f6 := r0.frozen (17 + m)
        have t0 := r0.set (17 + m) (.slice AL ups.length cL)
        have t1 := r1.far (p := ⟨w.heap.size, 17 + m, none⟩) (by show w.heap.size + 1 ≠ w.heap.size; omega) (.slice AL ups.length cL)
        have o6 := o5.keptT (by decide) (but_set _ w.heap.size (17 + m) (.slice AL ups.length cL)) (blk_type r0)
        have b6 := b5.setCell (p := ⟨w.heap.size, 17 + m, none⟩) (Nat.le_refl _) (.slice AL ups.length cL)
        obtain ⟨v7, y7⟩ := t0.has_ (i := 5 + m) (by rw [List.length_set, List.length_set, hL.out.1]; omega)
        have f7 := t0.frozen (5 + m)
        have u0 := t0.set (5 + m) (.int .i64 1)
        have u1 := t1.far (p := ⟨w.heap.size, 5 + m, none⟩) (by show w.heap.size + 1 ≠ w.heap.size; omega) (.int .i64 1)
        have o7 := o6.keptT (by decide) (but_set _ w.heap.size (5 + m) (.int .i64 1)) (blk_type t0)
        have b7 := b6.setCell (p := ⟨w.heap.size, 5 + m, none⟩) (Nat.le_refl _) (.int .i64 1)
        subst hL2
        rw [HS.out] at u0
        have hL' := hid (HL.out A4 c4)
        obtain ⟨cs', hcs⟩ : ∃ cs', ledC zs (.slice A4 locks.length c4) (st.set m 1) (us.set m (.slice AL ups.length cL)) = cs' := ⟨_, rfl⟩
        have HC := hid hcs
        rw [hcs] at u0 hL'
        clear hcs r0 r1 t0 t1 s0 s1 o4' o5 o6 b4 b5 b6 hx0
        have s0 := u0
        have s1 := u1
        have b4 := b7
        clear u0 u1 b7
        have hld : ((((w4.setCell ⟨w.heap.size, 4, none⟩ (.slice A4 locks.length c4)).setCell ⟨w.heap.size, 17 + m, none⟩ (.slice AL ups.length cL)).setCell ⟨w.heap.size, 5 + m, none⟩ (.int .i64 1))).heap[w.heap.size]? = some (.cells (cs').toArray 80 (0, 0)) := s0
        have hs : ((((w4.setCell ⟨w.heap.size, 4, none⟩ (.slice A4 locks.length c4)).setCell ⟨w.heap.size, 17 + m, none⟩ (.slice AL ups.length cL)).setCell ⟨w.heap.size, 5 + m, none⟩ (.int .i64 1))).heap[w.heap.size + 1]? = some (.cells led0.toArray 80 (0, 0)) := s1
        go_wp2_with (first
          | (refine wpList_load_row rfl 80 _ rfl w.heap.size rfl 80 (cs').toArray (0, 0) _ hld Tryz.underlying80 rfl hL'.out.info ?_)
          | (refine wpList_store_rowTo rfl 80 _ _ rfl rfl (w.heap.size + 1) (cs').toArray rfl rfl 80 led0.toArray hs hL'.out.info (led0_led.size.trans hL'.out.size.symm) hL'.out.2 ?_))
        have h2 := setRow_heap _ _ _ (cs').toArray _ _ hs
        have b9 := below_setRow b4 (Nat.le_succ _) (cs').toArray
        have o9 := o7.keptT (by decide) (but_setRow _ (w.heap.size + 1) cs'.toArray) (blk_type s1)
        rw [eq] at o9
        refine bodyPost_ret (v := .tuple #[.agg cs'.toArray, .bool true]) (results_row_slot (p := 6) (s := 7) (by kernel_rfl) _ _ (w.heap.size + 1) 80 _ (0, 0) _ _ rfl rfl h2 Tryz.underlying80 hL'.out.info) rfl (.inr ⟨F.out, A4, c4, by rw [HC.out], o9, b9⟩)
  · have e0 : (x != 0) = true := by rw [bne_iff_ne]; exact hx0
    have F : Hid (b = false) := by show b = false; rw [HB.out]; simp [hx0]
    clear hx0
    have hL' := hL
    have hld : (w4).heap[w.heap.size]? = some (.cells (cs).toArray 80 (0, 0)) := s0
    have hs : (w4).heap[w.heap.size + 1]? = some (.cells led0.toArray 80 (0, 0)) := s1
    go_wp2_with (first
      | (refine wpList_load_row rfl 80 _ rfl w.heap.size rfl 80 (cs).toArray (0, 0) _ hld Tryz.underlying80 rfl hL'.out.info ?_)
      | (refine wpList_store_rowTo rfl 80 _ _ rfl rfl (w.heap.size + 1) (cs).toArray rfl rfl 80 led0.toArray hs hL'.out.info (led0_led.size.trans hL'.out.size.symm) hL'.out.2 ?_))
    have h2 := setRow_heap _ _ _ (cs).toArray _ _ hs
    have b9 := below_setRow b4 (Nat.le_succ _) (cs).toArray
    refine bodyPost_ret (v := .tuple #[.agg cs.toArray, .bool false]) (results_row_slot (p := 6) (s := 7) (by kernel_rfl) _ _ (w.heap.size + 1) 80 _ (0, 0) _ _ rfl rfl h2 Tryz.underlying80 hL'.out.info) rfl (.inl ⟨F.out, cs, hL.out, rfl, b9⟩)
end Go.Proofs.YteaibflloeipaaaGreatDoor
/- Laws on coordinators: a coordinator is boxed. -/
/- On to the world behind D. -/
/- An exact law begins: the argument's box, its size, a copy for the model. -/
/- The program's own copy of the argument is boxed. -/
/- The program's copy is as the argument; the region draws. -/
/- Laws on functions that answer numbers. -/
/- What the boxes hold is read again. -/
/- The coordinator with the slices P4 and P5 is boxed as P6, in block P7, behind it the world P3; ahead of region P1. -/
/- The draw, the program's answer, the model's, and that they are the same: behind it w5, all facts on it by way of dx. -/
/-
  Walks: what the program's ledger is after a decision.
-/
namespace Go.Proofs.YteaibflloeipaaaGreatDoor
open Go.RowKit Wo Pu Rf Lk Sh

theorem but_setCells (g : Nat) : ∀ (vs : List Value) (o : Nat) (w : World), But g w (w.setCells g o vs)
  | [], _, w => World.grownBy.refl w _
  | v :: vs, o, w => (but_set w g o v).trans (but_setCells g vs (o + 1) (w.setCell ⟨g, o, none⟩ v))
theorem Arr4.setRefs {w : World} {g : Nat} {t : TypeId} {zs ys st : List Int} {L : Value} {us : List Value} (h : Arr4 w g t (ledC zs L st us)) (hz : zs.length = 4) (hy : ys.length = 4) : Arr4 (w.setCells g 0 (ints ys).toArray.toList) g t (ledC ys L st us) := by
  obtain ⟨a, b, c, d, rfl⟩ : ∃ a b c d, ys = [a, b, c, d] := by
    match ys, hy with
    | [a, b, c, d], _ => exact ⟨a, b, c, d, rfl⟩
  have := h.set4 (.int .i64 a) (.int .i64 b) (.int .i64 c) (.int .i64 d)
  obtain ⟨p, q, r, s, rfl⟩ : ∃ p q r s, zs = [p, q, r, s] := by
    match zs, hz with
    | [p, q, r, s], _ => exact ⟨p, q, r, s, rfl⟩
  exact this
theorem Arr4.but {w w' : World} {g R : Nat} {t : TypeId} {vs : List Value} (h : Arr4 w g t vs) (hb : But R w w') (hg : g ≠ R) : Arr4 w' g t vs := (hb.block g h.lt (fun e => hg (by injection e))).trans h
theorem below_but {B R : Nat} {w0 w w' : World} (h : Below B w0 w) (hb : But R w w') (hR : B ≤ R) (hB : B ≤ w.heap.size) : Below B w0 w' := h.grown hb hB fun j hj => by injection hj with hj; omega
/- The ledger of w3's block w is loaded, decided with ZZ, stored as the answer: zs there is PZ, its cells are cs3. -/
set_option linter.unusedSimpArgs false in
set_option maxRecDepth 100000 in
set_option maxHeartbeats 8000000 in
theorem aborted_is (b : Bool) (zs st locks : List Int) (A : Option Addr) (c : Nat) (us : List Value) (m : Nat) (x : Int) (w : World) (h1 : zs.length = 4) (h2 : st.length = 12) (h3 : us.length = 12) (hu : ∀ u ∈ us, u.oneCell' = true)
    (hr : Row w w.heap.size A (ints locks)) (hl : LV locks) (hm : m < 12) (hx : st[m]? = some x) (hb : b = true ↔ x = 0 ∨ x = 1) :
    Calls Tryz.prog 113 #[.agg (ledC zs (.slice A locks.length c) st us).toArray, .int .i64 (m : Int)] w (PrepO b zs locks.length (freeL m locks) (st.set m 3) us w) := by
  have HD : Hid (∀ y, Row y y.heap.size A (ints locks) → Calls Tryz.prog 139 #[.agg (ledC zs (.slice A locks.length c) st us).toArray, .int .i64 (m : Int), .int .i64 3] y (DecO zs locks.length (freeL m locks) (st.set m 3) us y)) := fun y hy => decided_is zs st locks A c us m 3 y h1 h2 h3 hu hy hl hm
  have hL := hid (Led.mk_ (L := .slice A locks.length c) (us := us) h1 h2 h3 rfl hu)
  have HL : Hid (∀ A' c', Led (ledC zs (.slice A' locks.length c') (st.set m 3) us)) := fun A' c' => Led.mk_ h1 (by rw [List.length_set]; exact h2) h3 rfl hu
  have HX : Hid ((ledC zs (.slice A locks.length c) st us)[5 + m]? = some (.int .i64 x)) := by
    show _ = _
    rw [ledC_state h1 h2 hm]
    rw [List.getElem?_eq_getElem (by omega)] at hx
    injection hx with hx
    rw [hx]
  have HB := hid hb
  obtain ⟨cs, hcs⟩ : ∃ cs, ledC zs (.slice A locks.length c) st us = cs := ⟨_, rfl⟩
  rw [hcs] at hL HX HD ⊢
  have hL3 := hL
  clear hcs hb hl h1 h2 h3 hu hx
  have a0 := (Arr4.new_ w 80 cs).alloc (.cells led0.toArray 80)
  have a1 := Arr4.new_ (w.alloc (.cells cs.toArray 80)) 80 led0
  have b1 := ((Below.refl w.heap.size w).alloc (Nat.le_refl _) (.cells cs.toArray 80)).alloc (by simp) (.cells led0.toArray 80)
  rw [World.size_alloc] at a1
  go_enter Tryz.func113, Tryz.ntmps113
  go_upto_region 1 with fail
  obtain ⟨W, hW⟩ : ∃ x, (w.alloc (.cells cs.toArray 80)).alloc (.cells led0.toArray 80) = x := ⟨_, rfl⟩
  change Code.wp _ _ _ _ ((w.alloc (.cells cs.toArray 80)).alloc (.cells led0.toArray 80))
  rw [hW] at a0 a1 b1 ⊢
  clear hW
  have y5 := a0.get_ HX.out
  have s0 := a0
  have s1 := a1
  have k0 : (0 : Int) ≤ (m : Int) := by omega
  have k1 : (m : Int) < 12 := by omega
  clear a0 a1
  by_cases hx0 : x = 0
  · have e0 : (x != 0) = false := by rw [bne_eq_false_iff_eq]; exact hx0
    have F : Hid (b = true) := HB.out.2 (.inl hx0)
    have b3 := b1
    clear hx0 b1 HX
    have hld : (W).heap[w.heap.size]? = some (.cells (cs).toArray 80 (0, 0)) := s0
    go_wp2_with (refine wpList_load_row rfl 80 _ rfl w.heap.size rfl 80 (cs).toArray (0, 0) _ hld Tryz.underlying80 rfl hL3.out.info ?_)
    refine (HD.out _ (row_on hr b3)).mono ?_
    rintro e w4 ⟨A5, c5, rfl, o5, d5⟩
    have b5 := b3.trans (d5.mono b3.size)
    have t1 := s1.below d5 s1.lt
    have o6 := o5.base (B' := w.heap.size) b3.size
    have hL' := hid (HL.out A5 c5)
    obtain ⟨cs', hcs'⟩ : ∃ cs', ledC zs (.slice A5 locks.length c5) (st.set m 3) us = cs' := ⟨_, rfl⟩
    have HC := hid hcs'
    rw [hcs'] at hL' ⊢
    clear hcs' o5 d5 b3 hld s0 s1 HD HL
    have hs : w4.heap[w.heap.size + 1]? = some (.cells led0.toArray 80 (0, 0)) := t1
    go_wp2_with (refine wpList_store_rowTo rfl 80 _ _ rfl rfl (w.heap.size + 1) cs'.toArray rfl rfl 80 led0.toArray hs hL'.out.info (led0_led.size.trans hL'.out.size.symm) hL'.out.2 ?_)
    have h2 := setRow_heap _ _ _ cs'.toArray _ _ hs
    have b9 := below_setRow b5 (Nat.le_succ _) cs'.toArray
    have o9 := o6.keptT (by decide) (but_setRow _ (w.heap.size + 1) cs'.toArray) (blk_type t1)
    refine bodyPost_ret (v := .tuple #[.agg cs'.toArray, .bool true]) (results_row_slot (p := 4) (s := 5) (by kernel_rfl) _ _ (w.heap.size + 1) 80 _ (0, 0) _ _ rfl rfl h2 Tryz.underlying80 hL'.out.info) rfl (.inr ⟨F.out, A5, c5, by rw [HC.out], o9, b9⟩)
  · have e0 : (x != 0) = true := by rw [bne_iff_ne]; exact hx0
    by_cases hx1 : x = 1
    · have e1 : (x != 1) = false := by rw [bne_eq_false_iff_eq]; exact hx1
      have F : Hid (b = true) := HB.out.2 (.inr hx1)
      have b3 := b1
      clear hx0 hx1 b1 HX
      have hld : (W).heap[w.heap.size]? = some (.cells (cs).toArray 80 (0, 0)) := s0
      go_wp2_with (refine wpList_load_row rfl 80 _ rfl w.heap.size rfl 80 (cs).toArray (0, 0) _ hld Tryz.underlying80 rfl hL3.out.info ?_)
      refine (HD.out _ (row_on hr b3)).mono ?_
      rintro e w4 ⟨A5, c5, rfl, o5, d5⟩
      have b5 := b3.trans (d5.mono b3.size)
      have t1 := s1.below d5 s1.lt
      have o6 := o5.base (B' := w.heap.size) b3.size
      have hL' := hid (HL.out A5 c5)
      obtain ⟨cs', hcs'⟩ : ∃ cs', ledC zs (.slice A5 locks.length c5) (st.set m 3) us = cs' := ⟨_, rfl⟩
      have HC := hid hcs'
      rw [hcs'] at hL' ⊢
      clear hcs' o5 d5 b3 hld s0 s1 HD HL
      have hs : w4.heap[w.heap.size + 1]? = some (.cells led0.toArray 80 (0, 0)) := t1
      go_wp2_with (refine wpList_store_rowTo rfl 80 _ _ rfl rfl (w.heap.size + 1) cs'.toArray rfl rfl 80 led0.toArray hs hL'.out.info (led0_led.size.trans hL'.out.size.symm) hL'.out.2 ?_)
      have h2 := setRow_heap _ _ _ cs'.toArray _ _ hs
      have b9 := below_setRow b5 (Nat.le_succ _) cs'.toArray
      have o9 := o6.keptT (by decide) (but_setRow _ (w.heap.size + 1) cs'.toArray) (blk_type t1)
      refine bodyPost_ret (v := .tuple #[.agg cs'.toArray, .bool true]) (results_row_slot (p := 4) (s := 5) (by kernel_rfl) _ _ (w.heap.size + 1) 80 _ (0, 0) _ _ rfl rfl h2 Tryz.underlying80 hL'.out.info) rfl (.inr ⟨F.out, A5, c5, by rw [HC.out], o9, b9⟩)
    · have e1 : (x != 1) = true := by rw [bne_iff_ne]; exact hx1
      have F : Hid (b = false) := by
        show b = false
        rw [← Bool.not_eq_true]
        exact fun e => by rcases HB.out.1 e with e | e <;> contradiction
      have b4 := b1
      clear hx0 hx1 b1 HX hL3
      have hL' := hL
      have hld : (W).heap[w.heap.size]? = some (.cells (cs).toArray 80 (0, 0)) := s0
      have hs : (W).heap[w.heap.size + 1]? = some (.cells led0.toArray 80 (0, 0)) := s1
      go_wp2_with (first
        | (refine wpList_load_row rfl 80 _ rfl w.heap.size rfl 80 (cs).toArray (0, 0) _ hld Tryz.underlying80 rfl hL'.out.info ?_)
        | (refine wpList_store_rowTo rfl 80 _ _ rfl rfl (w.heap.size + 1) (cs).toArray rfl rfl 80 led0.toArray hs hL'.out.info (led0_led.size.trans hL'.out.size.symm) hL'.out.2 ?_))
      have h2 := setRow_heap _ _ _ (cs).toArray _ _ hs
      have b9 := below_setRow b4 (Nat.le_succ _) (cs).toArray
      refine bodyPost_ret (v := .tuple #[.agg cs.toArray, .bool false]) (results_row_slot (p := 4) (s := 5) (by kernel_rfl) _ _ (w.heap.size + 1) 80 _ (0, 0) _ _ rfl rfl h2 Tryz.underlying80 hL'.out.info) rfl (.inl ⟨F.out, cs, hL.out, rfl, b9⟩)
set_option linter.unusedSimpArgs false in
set_option maxRecDepth 100000 in
set_option maxHeartbeats 8000000 in
theorem committed_is (b : Bool) (zs st locks : List Int) (A : Option Addr) (c : Nat) (us : List Value) (m : Nat) (AL : Option Addr) (cL : Nat) (ups : List Up) (x : Int) (w : World) (h1 : zs.length = 4) (h2 : st.length = 12) (h3 : us.length = 12) (hu : ∀ u ∈ us, u.oneCell' = true)
    (hr : Row w w.heap.size A (ints locks)) (hl : LV locks) (hm : m < 12) (hx : st[m]? = some x) (hb : b = true ↔ x = 1) (hU : x = 1 → us[m]? = some (.slice AL ups.length cL) ∧ Row w w.heap.size AL (upsV ups) ∧ UV ups ∧ Fits zs ups ∧ ups.length ≤ 1048600) :
    Calls Tryz.prog 112 #[.agg (ledC zs (.slice A locks.length c) st us).toArray, .int .i64 (m : Int)] w (PrepO b (setR zs ups) locks.length (freeL m locks) (st.set m 2) us w) := by
  have hyl : (setR zs ups).length = 4 := by rw [setR_length]; exact h1
  have HD : Hid (∀ y, Row y y.heap.size A (ints locks) → Calls Tryz.prog 139 #[.agg (ledC (setR zs ups) (.slice A locks.length c) st us).toArray, .int .i64 (m : Int), .int .i64 2] y (DecO (setR zs ups) locks.length (freeL m locks) (st.set m 2) us y)) := fun y hy => decided_is (setR zs ups) st locks A c us m 2 y hyl h2 h3 hu hy hl hm
  have hL := hid (Led.mk_ (L := .slice A locks.length c) (us := us) h1 h2 h3 rfl hu)
  have hL3 := hid (Led.mk_ (L := .slice A locks.length c) (us := us) hyl h2 h3 rfl hu)
  have HL : Hid (∀ A' c', Led (ledC (setR zs ups) (.slice A' locks.length c') (st.set m 2) us)) := fun A' c' => Led.mk_ hyl (by rw [List.length_set]; exact h2) h3 rfl hu
  have HX : Hid ((ledC zs (.slice A locks.length c) st us)[5 + m]? = some (.int .i64 x)) := by
    show _ = _
    rw [ledC_state h1 h2 hm]
    rw [List.getElem?_eq_getElem (by omega)] at hx
    injection hx with hx
    rw [hx]
  have HUP : Hid (∀ i, (ledC zs (.slice A locks.length c) st us)[17 + i]? = us[i]?) := fun i => ledC_ups h1 h2 i
  have HUP3 : Hid (∀ i, (ledC (setR zs ups) (.slice A locks.length c) st us)[17 + i]? = us[i]?) := fun i => ledC_ups hyl h2 i
  have HR : Hid (∀ j v, (ints zs)[j]? = some v → (ledC zs (.slice A locks.length c) st us)[j]? = some v) := fun j v h => ledC_range h
  have HB := hid hb
  have hI : (Tryz.prog.info? 76).map (·.size) = some (ints zs).length := by rw [ints_length, h1]; exact info_refsJ
  have H1 := hid h1
  obtain ⟨ys, hys⟩ : ∃ ys, setR zs ups = ys := ⟨_, rfl⟩
  have HYS := hid hys
  have CU : Hid (x = 1 → ∀ y, Row y y.heap.size AL (upsV ups) → Calls Tryz.prog 137 #[.agg (ints zs).toArray, .slice AL ups.length cL] y (Updt true zs ups y)) := fun e y hy => updated_is true AL cL zs ups y h1 hy (refs4_of (hU e).2.2.1) (hU e).2.2.2.2 ⟨fun _ => (hU e).2.2.2.1, fun _ => rfl⟩
  have HUU := hid hU
  rw [hys] at hyl HD hL3 HL HUP3 ⊢
  have hJ : (Tryz.prog.info? 76).map (·.size) = some (ints ys).toArray.size := by rw [List.size_toArray, ints_length, hyl]; exact info_refsJ
  have HYL := hid hyl
  obtain ⟨cs, hcs⟩ : ∃ cs, ledC zs (.slice A locks.length c) st us = cs := ⟨_, rfl⟩
  have HC0 := hid hcs
  rw [hcs] at hL HX HUP HR ⊢
  obtain ⟨cs3, hcs3⟩ : ∃ cs, ledC ys (.slice A locks.length c) st us = cs := ⟨_, rfl⟩
  have HC3 := hid hcs3
  rw [hcs3] at hL3 HD HUP3
  clear hcs hcs3 hb hl h1 h2 h3 hu hx hys hyl hU
  have a0 := (Arr4.new_ w 80 cs).alloc (.cells led0.toArray 80)
  have a1 := Arr4.new_ (w.alloc (.cells cs.toArray 80)) 80 led0
  have b1 := ((Below.refl w.heap.size w).alloc (Nat.le_refl _) (.cells cs.toArray 80)).alloc (by simp) (.cells led0.toArray 80)
  rw [World.size_alloc] at a1
  go_enter Tryz.func112, Tryz.ntmps112
  go_upto_region 1 with fail
  obtain ⟨W, hW⟩ : ∃ x, (w.alloc (.cells cs.toArray 80)).alloc (.cells led0.toArray 80) = x := ⟨_, rfl⟩
  change Code.wp _ _ _ _ ((w.alloc (.cells cs.toArray 80)).alloc (.cells led0.toArray 80))
  rw [hW] at a0 a1 b1 ⊢
  clear hW
  have y5 := a0.get_ HX.out
  have s0 := a0
  have s1 := a1
  have k0 : (0 : Int) ≤ (m : Int) := by omega
  have k1 : (m : Int) < 12 := by omega
  clear a0 a1
  by_cases hx1 : x = 1
  · have e1 : (x != 1) = false := by rw [bne_eq_false_iff_eq]; exact hx1
    have F : Hid (b = true) := HB.out.2 hx1
    obtain ⟨u1, u2, -, -, -⟩ := HUU.out hx1
    have CV := hid (CU.out hx1)
    have hy17 : cs[17 + m]? = some (.slice AL ups.length cL) := by rw [HUP.out]; exact u1
    have hrng : W.rangeAt w.heap.size 0 (ints zs) := fun j v hj => by rw [Nat.zero_add]; exact s0.get_ (HR.out j v hj)
    have hS : W.cell? ⟨w.heap.size, 17 + m, none⟩ = some (.slice AL ups.length cL) := s0.get_ hy17
    have H17 := hid hy17
    clear hx1 HX CU u1 HUU hy17
    go_upto_region 3 with fail
    refine wp_region_held_drew (S := fun y => y.cell? ⟨w.heap.size, 17 + m, none⟩ = some (.slice AL ups.length cL)) (by kernel_rfl) hS (fun hHeld => ?_)
    try simp only [Act.put, List.getElem_toArray, List.getElem_cons_succ, List.getElem_cons_zero, List.setIfInBounds_toArray, List.set_cons_zero, List.set_cons_succ]
    refine wpAnyH_take (i := 0) (oi := _) (v := ?_) rfl (by kernel_rfl) (by kernel_rfl) (by kernel_rfl) (fun _ _ _ h => h) (Or.inl ⟨by rfl, ?_⟩) hHeld ?_
    rotate_left
    · (intro w' hSw; (try dsimp only at hSw); go_simp <;> with_reducible rfl)
    try simp only [Act.put, List.getElem_toArray, List.getElem_cons_succ, List.getElem_cons_zero, List.setIfInBounds_toArray, List.set_cons_zero, List.set_cons_succ]
    refine wpAnyH_take (i := 2) (oi := _) (v := ?_) rfl (by kernel_rfl) (by kernel_rfl) (by kernel_rfl) (fun _ _ _ h => h) (Or.inl ⟨by rfl, ?_⟩) hHeld ?_
    rotate_left
    · (intro w' hSw; (try dsimp only at hSw); go_simp <;> with_reducible rfl)
    try simp only [Act.put, List.getElem_toArray, List.getElem_cons_succ, List.getElem_cons_zero, List.setIfInBounds_toArray, List.set_cons_zero, List.set_cons_succ]
    refine wpAnyH_take (i := 3) (oi := _) (v := ?_) rfl (by kernel_rfl) (by kernel_rfl) (by kernel_rfl) (fun _ _ _ h => h) (Or.inl ⟨by rfl, ?_⟩) hHeld ?_
    rotate_left
    · (intro w' hSw; (try dsimp only at hSw); go_simp <;> with_reducible rfl)
    try simp only [Act.put, List.getElem_toArray, List.getElem_cons_succ, List.getElem_cons_zero, List.setIfInBounds_toArray, List.set_cons_zero, List.set_cons_succ]
    refine wpAnyH_take (i := 4) (oi := _) (v := ?_) rfl (by kernel_rfl) (by kernel_rfl) (by kernel_rfl) (fun _ _ _ h => h) (Or.inl ⟨by rfl, ?_⟩) hHeld ?_
    rotate_left
    · (intro w' hSw; (try dsimp only at hSw); go_simp <;> with_reducible rfl)
    try simp only [Act.put, List.getElem_toArray, List.getElem_cons_succ, List.getElem_cons_zero, List.setIfInBounds_toArray, List.set_cons_zero, List.set_cons_succ]
    refine wpAnyH_take (i := 5) (oi := _) (v := ?_) rfl (by kernel_rfl) (by kernel_rfl) (by kernel_rfl) (fun _ _ _ h => h) (Or.inl ⟨by rfl, ?_⟩) hHeld ?_
    rotate_left
    · (intro w' hSw; (try dsimp only at hSw); go_simp <;> with_reducible rfl)
    try simp only [Act.put, List.getElem_toArray, List.getElem_cons_succ, List.getElem_cons_zero, List.setIfInBounds_toArray, List.set_cons_zero, List.set_cons_succ]
    refine wpAnyH_ready (rs := [1]) (by kernel_rfl) (by simp) (AllReadyH.cons (o := _) rfl (fun K hK => ?_) AllReadyH.nil)
    try simp only [Act.put, List.getElem_toArray, List.getElem_cons_succ, List.getElem_cons_zero, List.setIfInBounds_toArray, List.set_cons_zero, List.set_cons_succ]
    refine wp_load_mid 76 _ rfl w.heap.size 0 rfl (ints zs) _ hrng Tryz.underlying76 rfl hI ?_
    refine hK.out _ _ hS (fun hHeld => ?_)
    clear hK K
    try simp only [Act.put, List.getElem_toArray, List.getElem_cons_succ, List.getElem_cons_zero, List.setIfInBounds_toArray, List.set_cons_zero, List.set_cons_succ]
    refine wpAnyH_ready (rs := [6]) (by kernel_rfl) (by simp) (AllReadyH.cons (o := _) rfl (fun K hK => ?_) AllReadyH.nil)
    try simp only [Act.put, List.getElem_toArray, List.getElem_cons_succ, List.getElem_cons_zero, List.setIfInBounds_toArray, List.set_cons_zero, List.set_cons_succ]
    go_simp
    go_at_call 137
    refine (CV.out _ (row_on u2 (Wo.Below.drewN b1 1))).mono ?_
    rintro e w2 ⟨rfl, d2⟩
    simp only [if_true]
    rw [HYS.out]
    have b1d := Wo.Below.drewN b1 1
    have b2 := b1d.trans (d2.mono b1d.size)
    have s0d : Arr4 (W.drewN 1) w.heap.size 80 cs := s0
    have s1d : Arr4 (W.drewN 1) (w.heap.size + 1) 80 led0 := s1
    have q0 : Arr4 w2 w.heap.size 80 cs := s0d.below d2 s0d.lt
    have q1 : Arr4 w2 (w.heap.size + 1) 80 led0 := s1d.below d2 s1d.lt
    have hS2 : w2.cell? ⟨w.heap.size, 17 + m, none⟩ = some (.slice AL ups.length cL) := q0.get_ H17.out
    refine hK.out _ _ hS2 (fun hHeld => ?_)
    clear hK K
    try simp only [Act.put, List.getElem_toArray, List.getElem_cons_succ, List.getElem_cons_zero, List.setIfInBounds_toArray, List.set_cons_zero, List.set_cons_succ]
    refine wpAnyH_take (i := 7) (oi := _) (v := ?_) rfl (by kernel_rfl) (by kernel_rfl) (by kernel_rfl) (fun _ _ _ h => h) (Or.inl ⟨by rfl, ?_⟩) hHeld ?_
    rotate_left
    · (intro w' hSw; (try dsimp only at hSw); go_simp <;> with_reducible rfl)
    try simp only [Act.put, List.getElem_toArray, List.getElem_cons_succ, List.getElem_cons_zero, List.setIfInBounds_toArray, List.set_cons_zero, List.set_cons_succ]
    refine wpAnyH_take (i := 8) (oi := _) (v := ?_) rfl (by kernel_rfl) (by kernel_rfl) (by kernel_rfl) (fun _ _ _ h => h) (Or.inl ⟨by rfl, ?_⟩) hHeld ?_
    rotate_left
    · (intro w' hSw; (try dsimp only at hSw); go_simp <;> with_reducible rfl)
    try simp only [Act.put, List.getElem_toArray, List.getElem_cons_succ, List.getElem_cons_zero, List.setIfInBounds_toArray, List.set_cons_zero, List.set_cons_succ]
    refine wpAnyH_take (i := 9) (oi := _) (v := ?_) rfl (by kernel_rfl) (by kernel_rfl) (by kernel_rfl) (fun _ _ _ h => h) (Or.inl ⟨by rfl, ?_⟩) hHeld ?_
    rotate_left
    · (intro w' hSw; (try dsimp only at hSw); go_simp <;> with_reducible rfl)
    try simp only [Act.put, List.getElem_toArray, List.getElem_cons_succ, List.getElem_cons_zero, List.setIfInBounds_toArray, List.set_cons_zero, List.set_cons_succ]
    refine wpAnyH_take (i := 10) (oi := _) (v := ?_) rfl (by kernel_rfl) (by kernel_rfl) (by kernel_rfl) (fun _ _ _ h => h) (Or.inl ⟨by rfl, ?_⟩) hHeld ?_
    rotate_left
    · (intro w' hSw; (try dsimp only at hSw); go_simp <;> with_reducible rfl)
    try simp only [Act.put, List.getElem_toArray, List.getElem_cons_succ, List.getElem_cons_zero, List.setIfInBounds_toArray, List.set_cons_zero, List.set_cons_succ]
    refine wpAnyH_ready (rs := [11]) (by kernel_rfl) (by simp) (AllReadyH.cons (o := _) rfl (fun K hK => ?_) AllReadyH.nil)
    try simp only [Act.put, List.getElem_toArray, List.getElem_cons_succ, List.getElem_cons_zero, List.setIfInBounds_toArray, List.set_cons_zero, List.set_cons_succ]
    have hth : w2.there w.heap.size 0 (ints ys).toArray.size := fun j hj => by
      rw [List.size_toArray, ints_length, HYL.out] at hj
      rw [Nat.zero_add]
      obtain ⟨v, hv⟩ := q0.has_ (i := j) (by rw [hL.out.1]; omega)
      exact ⟨by rw [hv]; rfl, q0.frozen j⟩
    refine wp_store_mid 76 _ _ rfl w.heap.size 0 (ints ys).toArray rfl rfl hth hJ (ints_ones _) ?_
    have hbut := but_setCells w.heap.size (ints ys).toArray.toList 0 w2
    have s0 : Arr4 (w2.setCells w.heap.size 0 (ints ys).toArray.toList) w.heap.size 80 cs3 := by
      rw [← HC3.out]
      rw [← HC0.out] at q0
      exact q0.setRefs H1.out HYL.out
    have s1 := q1.but hbut (by omega)
    have b3 := below_but b2 hbut (Nat.le_refl _) b2.size
    have hS3 : (w2.setCells w.heap.size 0 (ints ys).toArray.toList).cell? ⟨w.heap.size, 17 + m, none⟩ = some (.slice AL ups.length cL) := s0.get_ (by rw [HUP3.out, ← HUP.out]; exact H17.out)
    refine hK.out _ _ hS3 (fun hHeld => ?_)
    clear hK K
    try simp only [Act.put, List.getElem_toArray, List.getElem_cons_succ, List.getElem_cons_zero, List.setIfInBounds_toArray, List.set_cons_zero, List.set_cons_succ]
    refine wpAnyH_done (by kernel_rfl) ?_ _
    clear hHeld s0d s1d q0 q1 hbut b2 b1d b1 d2 hth hrng hS hS2 hS3 y5
    have hld : ((w2.setCells w.heap.size 0 (ints ys).toArray.toList)).heap[w.heap.size]? = some (.cells (cs3).toArray 80 (0, 0)) := s0
    go_wp2_with (refine wpList_load_row rfl 80 _ rfl w.heap.size rfl 80 (cs3).toArray (0, 0) _ hld Tryz.underlying80 rfl hL3.out.info ?_)
    refine (HD.out _ (row_on hr b3)).mono ?_
    rintro e w4 ⟨A5, c5, rfl, o5, d5⟩
    have b5 := b3.trans (d5.mono b3.size)
    have t1 := s1.below d5 s1.lt
    have o6 := o5.base (B' := w.heap.size) b3.size
    have hL' := hid (HL.out A5 c5)
    obtain ⟨cs', hcs'⟩ : ∃ cs', ledC ys (.slice A5 locks.length c5) (st.set m 2) us = cs' := ⟨_, rfl⟩
    have HC := hid hcs'
    rw [hcs'] at hL' ⊢
    clear hcs' o5 d5 b3 hld s0 s1 HD HL
    have hs : w4.heap[w.heap.size + 1]? = some (.cells led0.toArray 80 (0, 0)) := t1
    go_wp2_with (refine wpList_store_rowTo rfl 80 _ _ rfl rfl (w.heap.size + 1) cs'.toArray rfl rfl 80 led0.toArray hs hL'.out.info (led0_led.size.trans hL'.out.size.symm) hL'.out.2 ?_)
    have h2 := setRow_heap _ _ _ cs'.toArray _ _ hs
    have b9 := below_setRow b5 (Nat.le_succ _) cs'.toArray
    have o9 := o6.keptT (by decide) (but_setRow _ (w.heap.size + 1) cs'.toArray) (blk_type t1)
    refine bodyPost_ret (v := .tuple #[.agg cs'.toArray, .bool true]) (results_row_slot (p := 4) (s := 5) (by kernel_rfl) _ _ (w.heap.size + 1) 80 _ (0, 0) _ _ rfl rfl h2 Tryz.underlying80 hL'.out.info) rfl (.inr ⟨F.out, A5, c5, by rw [HC.out], o9, b9⟩)
  · have e1 : (x != 1) = true := by rw [bne_iff_ne]; exact hx1
    have F : Hid (b = false) := by
      show b = false
      rw [← Bool.not_eq_true]
      exact fun e => hx1 (HB.out.1 e)
    have b4 := b1
    clear hx1 b1 HX hL3
    have hL' := hL
    have hld : (W).heap[w.heap.size]? = some (.cells (cs).toArray 80 (0, 0)) := s0
    have hs : (W).heap[w.heap.size + 1]? = some (.cells led0.toArray 80 (0, 0)) := s1
    go_wp2_with (first
      | (refine wpList_load_row rfl 80 _ rfl w.heap.size rfl 80 (cs).toArray (0, 0) _ hld Tryz.underlying80 rfl hL'.out.info ?_)
      | (refine wpList_store_rowTo rfl 80 _ _ rfl rfl (w.heap.size + 1) (cs).toArray rfl rfl 80 led0.toArray hs hL'.out.info (led0_led.size.trans hL'.out.size.symm) hL'.out.2 ?_))
    have h2 := setRow_heap _ _ _ (cs).toArray _ _ hs
    have b9 := below_setRow b4 (Nat.le_succ _) (cs).toArray
    refine bodyPost_ret (v := .tuple #[.agg cs.toArray, .bool false]) (results_row_slot (p := 4) (s := 5) (by kernel_rfl) _ _ (w.heap.size + 1) 80 _ (0, 0) _ _ rfl rfl h2 Tryz.underlying80 hL'.out.info) rfl (.inl ⟨F.out, cs, hL.out, rfl, b9⟩)
end Go.Proofs.YteaibflloeipaaaGreatDoor
/- Laws on coordinators: a coordinator is boxed. -/
/- On to the world behind D. -/
/- An exact law begins: the argument's box, its size, a copy for the model. -/
/- The program's own copy of the argument is boxed. -/
/- The program's copy is as the argument; the region draws. -/
/- Laws on functions that answer numbers. -/
/- What the boxes hold is read again. -/
/- The coordinator with the slices P4 and P5 is boxed as P6, in block P7, behind it the world P3; ahead of region P1. -/
/- The draw, the program's answer, the model's, and that they are the same: behind it w5, all facts on it by way of dx. -/
/-
  Walks: what a record tells the program's ledger.
-/
namespace Go.Proofs.YteaibflloeipaaaGreatDoor
open Go.RowKit Wo Pu Rf Lk Sh

/-- A record that is right by itself. -/
def RightR (r : Rec) : Prop := TV r.t ∧ ((r.k = 1 ∧ UV r.us) ∨ (r.k = 2 ∧ r.us.length = 0) ∨ (r.k = 3 ∧ r.us.length = 0))
/-- What it tells. -/
def entV (A : Option Addr) (c : Nat) (r : Rec) : Value :=
  if r.k = 1 then .iface 171 (.agg #[.int .i64 r.t, .slice A r.us.length c]) else if r.k = 2 then .iface 173 (.agg #[.int .i64 r.t]) else .iface 174 (.agg #[.int .i64 r.t])
def EntO (A : Option Addr) (c : Nat) (r : Rec) (b : Bool) (w : World) (e : Ending) (w' : World) : Prop := e = .returned (.tuple #[if b then entV A c r else .nilIface, .bool b]) ∧ Below w.heap.size w w'
/- The end: nothing is told. -/
set_option maxRecDepth 100000 in
set_option maxHeartbeats 4000000 in
theorem entry_is (b : Bool) (A : Option Addr) (c : Nat) (r : Rec) (w : World) (hu : Row w w.heap.size A (upsV r.us)) (hul : r.us.length ≤ 1048600) (hb : b = true ↔ RightR r) :
    Calls Tryz.prog 80 #[.agg #[.int .i64 r.k, .int .i64 r.t, .slice A r.us.length c]] w (EntO A c r b w) := by
  obtain ⟨vt, hvt⟩ := bool_of (TV r.t)
  obtain ⟨vu, hvu⟩ := bool_of (UV r.us)
  have CT : Hid (∀ x, Calls Tryz.prog 41 #[.int .i64 r.t] x (Same (.bool vt) x)) := fun x => txnValid_is vt r.t x hvt
  have CU : Hid (∀ x, Row x x.heap.size A (upsV r.us) → Calls Tryz.prog 110 #[.slice A r.us.length c] x (Ret (.bool vu) x)) := fun x hx => implUpdatesValid_is vu A c r.us x hx hul hvu
  have HB := hid hb
  have HT := hid hvt
  have HU := hid hvu
  have b1 := (Below.refl w.heap.size w).alloc (Nat.le_refl _) (.cells #[.int .i64 r.k, .int .i64 r.t, .slice A r.us.length c] 128)
  have x1 := Blk3s.new_ w 128 (.int .i64 r.k) (.int .i64 r.t) (.slice A r.us.length c)
  clear hb hvt hvu
  go_enter Tryz.func80, Tryz.ntmps80
  go_upto_region 1 with fail
  obtain ⟨w1, hw1⟩ : ∃ x, w.alloc (.cells #[.int .i64 r.k, .int .i64 r.t, .slice A r.us.length c] 128) = x := ⟨_, rfl⟩
  rw [hw1] at b1 x1 ⊢
  clear hw1
  obtain ⟨y0, y1, y2, -⟩ := id x1.reads
  go_wp2_with fail
  refine (CT.out _).mono ?_
  rintro e w2 ⟨rfl, rfl⟩
  cases vt with
  | false =>
    have F : Hid (b = false) := by
      show b = false
      rw [← Bool.not_eq_true]
      exact fun e => by have := HT.out.2 (HB.out.1 e).1; cases this
    go_wp2
    go_ret2
    rw [F.out]
    exact ⟨rfl, b1⟩
  | true =>
    have tv := hid (HT.out.1 rfl)
    by_cases h1 : r.k = 1
    · have e1 : (r.k == 1) = true := by rw [beq_iff_eq]; exact h1
      have e2 : (r.k == 2) = false := by rw [beq_eq_false_iff_ne]; omega
      have e3 : (r.k == 3) = false := by rw [beq_eq_false_iff_ne]; omega
      have HV : Hid (entV A c r = .iface 171 (.agg #[.int .i64 r.t, .slice A r.us.length c])) := by show _ = _; unfold entV; rw [if_pos h1]
      have H1 := hid h1
      clear h1
      go_wp2_with fail
      refine (CU.out _ (row_on hu b1)).mono ?_
      rintro e w2 ⟨rfl, d2⟩
      replace x1 := x1.later d2
      replace b1 := b1.trans (d2.mono b1.size)
      clear y0 y1 y2 d2
      obtain ⟨y0, y1, y2, -⟩ := id x1.reads
      cases vu with
      | true =>
        have F : Hid (b = true) := HB.out.2 ⟨tv.out, .inl ⟨H1.out, HU.out.1 rfl⟩⟩
        clear hu hul
        go_wp2
        go_ret2
        rw [F.out]
        refine ⟨?_, b1⟩
        rw [if_pos rfl, HV.out]
        rfl
      | false =>
        have F : Hid (b = false) := by
          show b = false
          rw [← Bool.not_eq_true]
          intro e
          have h1 := H1.out
          rcases (HB.out.1 e).2 with h | h | h
          · have := HU.out.2 h.2; cases this
          · omega
          · omega
        clear hu hul
        go_wp2
        go_ret2
        rw [F.out]
        exact ⟨rfl, b1⟩
    · have e1 : (r.k == 1) = false := by rw [beq_eq_false_iff_ne]; exact h1
      clear CU
      by_cases h0 : r.us.length = 0
      · have e0 : ((r.us.length : Int) == 0) = true := by rw [beq_iff_eq]; omega
        by_cases h2 : r.k = 2
        · have e2 : (r.k == 2) = true := by rw [beq_iff_eq]; exact h2
          have HV : Hid (entV A c r = .iface 173 (.agg #[.int .i64 r.t])) := by show _ = _; unfold entV; rw [if_neg h1, if_pos h2]
          have F : Hid (b = true) := HB.out.2 ⟨tv.out, .inr (.inl ⟨h2, h0⟩)⟩
          clear h1 h2 h0 hu hul
          go_wp2
          go_ret2
          rw [F.out]
          refine ⟨?_, b1⟩
          rw [if_pos rfl, HV.out]
          rfl
        · have e2 : (r.k == 2) = false := by rw [beq_eq_false_iff_ne]; exact h2
          by_cases h3 : r.k = 3
          · have e3 : (r.k == 3) = true := by rw [beq_iff_eq]; exact h3
            have HV : Hid (entV A c r = .iface 174 (.agg #[.int .i64 r.t])) := by show _ = _; unfold entV; rw [if_neg h1, if_neg h2]
            have F : Hid (b = true) := HB.out.2 ⟨tv.out, .inr (.inr ⟨h3, h0⟩)⟩
            clear h1 h2 h3 h0 hu hul
            go_wp2
            go_ret2
            rw [F.out]
            refine ⟨?_, b1⟩
            rw [if_pos rfl, HV.out]
            rfl
          · have e3 : (r.k == 3) = false := by rw [beq_eq_false_iff_ne]; exact h3
            have F : Hid (b = false) := by
              show b = false
              rw [← Bool.not_eq_true]
              exact fun e => by rcases (HB.out.1 e).2 with h | h | h <;> omega
            clear h1 h2 h3 h0 hu hul
            go_wp2
            go_ret2
            rw [F.out]
            exact ⟨rfl, b1⟩
      · have e0 : ((r.us.length : Int) == 0) = false := by rw [beq_eq_false_iff_ne]; omega
        have F : Hid (b = false) := by
          show b = false
          rw [← Bool.not_eq_true]
          exact fun e => by rcases (HB.out.1 e).2 with h | h | h <;> omega
        clear h0 hu hul
        by_cases h2 : r.k = 2
        · have e2 : (r.k == 2) = true := by rw [beq_iff_eq]; exact h2
          have e3 : (r.k == 3) = false := by rw [beq_eq_false_iff_ne]; omega
          clear h1 h2
          go_wp2
          go_ret2
          rw [F.out]
          exact ⟨rfl, b1⟩
        · have e2 : (r.k == 2) = false := by rw [beq_eq_false_iff_ne]; exact h2
          by_cases h3 : r.k = 3
          · have e3 : (r.k == 3) = true := by rw [beq_iff_eq]; exact h3
            clear h1 h2 h3
            go_wp2
            go_ret2
            rw [F.out]
            exact ⟨rfl, b1⟩
          · have e3 : (r.k == 3) = false := by rw [beq_eq_false_iff_ne]; exact h3
            clear h1 h2 h3
            go_wp2
            go_ret2
            rw [F.out]
            exact ⟨rfl, b1⟩
end Go.Proofs.YteaibflloeipaaaGreatDoor
/- Laws on coordinators: a coordinator is boxed. -/
/- On to the world behind D. -/
/- An exact law begins: the argument's box, its size, a copy for the model. -/
/- The program's own copy of the argument is boxed. -/
/- The program's copy is as the argument; the region draws. -/
/- Laws on functions that answer numbers. -/
/- What the boxes hold is read again. -/
/- The coordinator with the slices P4 and P5 is boxed as P6, in block P7, behind it the world P3; ahead of region P1. -/
/- The draw, the program's answer, the model's, and that they are the same: behind it w5, all facts on it by way of dx. -/
/-
  Walks: the program's ledger after one more record.
-/
namespace Go.Proofs.YteaibflloeipaaaGreatDoor
open Go.RowKit Wo Pu Rf Lk Sh

theorem PrepO.form {b : Bool} {zs : List Int} {n : Nat} {qs st : List Int} {us : List Value} {w w' : World} {e : Ending} (h : PrepO b zs n qs st us w e w') (hL : ∀ A c, Led (ledC zs (.slice A n c) st us)) :
    ∃ X, e = .returned (.tuple #[.agg X.toArray, .bool b]) ∧ Led X ∧ Below w.heap.size w w' ∧ (b = true → ∃ A' c', X = ledC zs (.slice A' n c') st us ∧ OwnI w' w.heap.size (.slice A' n c') qs) := by
  rcases h with ⟨rfl, cs', h1, h2, h3⟩ | ⟨rfl, A', c', h2, h4, h3⟩
  · exact ⟨cs', h2, h1, h3, fun e => by cases e⟩
  · exact ⟨_, h2, hL A' c', h3, fun _ => ⟨A', c', rfl, h4⟩⟩
theorem upd_old {rs : List Rec} {s s' : St} {r : Rec} (hi : Inv rs s) (hs : Step rs s r s') {t : Int} (ht : r.t ≠ t ∨ r.k ≠ 1) : Sh.upd (rs ++ [r]) t = Sh.upd rs t := by
  rw [upd_snoc rs r t, if_neg]
  · rintro ⟨e1, e2⟩
    rcases ht with h | h <;> contradiction
  · intro e1 e2
    have : Sh.ask rs r.t = 0 := by cases hs <;> first | assumption | omega
    exact ask_fresh hi (by rw [← e1]; exact this)
/-- What a ledger holds after a vote. -/
theorem LdV.prep {w' : World} {B : Nat} {A' AL : Option Addr} {c' cL : Nat} {us : List Value} {rs : List Rec} {s : St} {r : Rec} {m : Nat} (hi : Inv rs s) (hm : m < 12) (hr : r.t = (m : Int)) (hk : r.k = 1)
    (hs : Step rs s r ⟨s.refs, setR s.locks (lk r.t r.us)⟩) (h2 : us.length = 12) (h3 : ∀ u ∈ us, u.oneCell' = true)
    (h5 : ∀ t : Nat, t < 12 → (Sh.ask rs (t : Int) = 1 ∨ Sh.ask rs (t : Int) = 2) → ∃ A' c', us[t]? = some (.slice A' (Sh.upd rs t).length c') ∧ Row w' B A' (upsV (Sh.upd rs t)))
    (hU : Row w' B AL (upsV r.us)) (ho : OwnI w' B (.slice A' s.locks.length c') (setR s.locks (lk m r.us))) :
    LdV w' B (ledC s.refs (.slice A' s.locks.length c') ((stL rs).set m 1) (us.set m (.slice AL r.us.length cL))) (rs ++ [r]) ⟨s.refs, setR s.locks (lk r.t r.us)⟩ := by
  have hl : (setR s.locks (lk r.t r.us)).length = s.locks.length := setR_length _ _
  have ha : Sh.ask rs r.t = 0 := (step_1 hs hk).1
  refine ⟨A', c', us.set m (.slice AL r.us.length cL), ?_, by rw [List.length_set]; exact h2, fun u hu => ?_, ?_, fun t ht hat => ?_⟩
  · rw [stL_snoc hr, hk, hl]
  · rcases List.mem_or_eq_of_mem_set hu with e | rfl
    · exact h3 u e
    · rfl
  · rw [hl, hr]; exact ho
  · rw [ask_snoc] at hat
    by_cases e : r.t = (t : Int)
    · have em : m = t := by omega
      subst em
      have eu : Sh.upd (rs ++ [r]) (m : Int) = r.us := by
        rw [upd_snoc rs r m fun e1 _ => ask_fresh hi (by rw [← e1]; exact ha), if_pos ⟨e, hk⟩]
      rw [eu]
      exact ⟨AL, cL, by rw [List.getElem?_set_self (by omega)], hU⟩
    · rw [if_neg e] at hat
      rw [upd_old hi hs (.inl e)]
      obtain ⟨A2, c2, q1, q2⟩ := h5 t ht hat
      exact ⟨A2, c2, by rw [List.getElem?_set_ne (by omega)]; exact q1, q2⟩
/-- .. and after a decision. -/
theorem LdV.deci {w' : World} {B : Nat} {A' : Option Addr} {c' : Nat} {us : List Value} {rs : List Rec} {s s' : St} {r : Rec} {m : Nat} (hi : Inv rs s) (hr : r.t = (m : Int)) (hk : r.k ≠ 1)
    (hs : Step rs s r s') (hl : s'.locks = freeL m s.locks) (h2 : us.length = 12) (h3 : ∀ u ∈ us, u.oneCell' = true)
    (h5 : ∀ t : Nat, t < 12 → (Sh.ask rs (t : Int) = 1 ∨ Sh.ask rs (t : Int) = 2) → ∃ A' c', us[t]? = some (.slice A' (Sh.upd rs t).length c') ∧ Row w' B A' (upsV (Sh.upd rs t)))
    (ho : OwnI w' B (.slice A' s.locks.length c') (freeL m s.locks)) :
    LdV w' B (ledC s'.refs (.slice A' s.locks.length c') ((stL rs).set m r.k) us) (rs ++ [r]) s' := by
  have hll : s'.locks.length = s.locks.length := by rw [hl, free_length]
  refine ⟨A', c', us, ?_, h2, h3, ?_, fun t ht hat => ?_⟩
  · rw [stL_snoc hr, hll]
  · rw [hll, hl]; exact ho
  · rw [ask_snoc] at hat
    by_cases e : r.t = (t : Int)
    · rw [if_pos e] at hat
      have h2k : r.k = 2 := hat.resolve_left hk
      rw [upd_old hi hs (.inr hk)]
      exact h5 t ht (.inl (by rw [← e]; exact (step_2 hs h2k).1))
    · rw [if_neg e] at hat
      rw [upd_old hi hs (.inl e)]
      exact h5 t ht hat
/-! ### The method of an entry. -/
theorem transaction_is (t : Int) (w : World) : Calls Tryz.prog 186 #[.int .i64 t] w (Same (.int .i64 t) w) := by
  go_enter Tryz.func186, Tryz.ntmps186
  go_wp2
  go_ret
  exact ⟨rfl, rfl⟩
theorem method1 (x : Int) (u : Value) (w : World) : (method 387 171 (.agg #[.int .i64 x, u]) "loop.example/atomicpush/impl.transaction").run Tryz.prog w = .ok (186, .int .i64 x) w := by kernel_rfl
theorem method2 (x : Int) (w : World) : (method 387 173 (.agg #[.int .i64 x]) "loop.example/atomicpush/impl.transaction").run Tryz.prog w = .ok (186, .int .i64 x) w := by kernel_rfl
theorem method3 (x : Int) (w : World) : (method 387 174 (.agg #[.int .i64 x]) "loop.example/atomicpush/impl.transaction").run Tryz.prog w = .ok (186, .int .i64 x) w := by kernel_rfl
theorem assert11 (v : Value) (w : World) : (Instr.typeAssert (.iface 171 v) 139 171 true).run Tryz.prog w = .ok (.tuple #[v, .bool true]) w := by kernel_rfl
theorem assert21 (v : Value) (w : World) : (Instr.typeAssert (.iface 173 v) 139 171 true).run Tryz.prog w = .ok (.tuple #[.agg #[.int .i64 0, .slice none 0 0], .bool false]) w := by kernel_rfl
theorem assert31 (v : Value) (w : World) : (Instr.typeAssert (.iface 174 v) 139 171 true).run Tryz.prog w = .ok (.tuple #[.agg #[.int .i64 0, .slice none 0 0], .bool false]) w := by kernel_rfl
theorem assert22 (v : Value) (w : World) : (Instr.typeAssert (.iface 173 v) 139 173 true).run Tryz.prog w = .ok (.tuple #[v, .bool true]) w := by kernel_rfl
theorem assert32 (v : Value) (w : World) : (Instr.typeAssert (.iface 174 v) 139 173 true).run Tryz.prog w = .ok (.tuple #[.agg #[.int .i64 0], .bool false]) w := by kernel_rfl
theorem assert33 (v : Value) (w : World) : (Instr.typeAssert (.iface 174 v) 139 174 true).run Tryz.prog w = .ok (.tuple #[v, .bool true]) w := by kernel_rfl
/-- Behind it: the ledger after one more record. -/
def FolO (B : Nat) (rs : List Rec) (r : Rec) (s' : St) (b : Bool) (w : World) (e : Ending) (w' : World) : Prop := ∃ X, e = .returned (.tuple #[.agg X.toArray, .bool b]) ∧ Led X ∧ (b = true → LdV w' B X (rs ++ [r]) s') ∧ Below w.heap.size w w'
set_option maxRecDepth 100000 in
set_option maxHeartbeats 8000000 in
theorem followed_1 (b : Bool) (s' : St) (B : Nat) (cs : List Value) (rs : List Rec) (s : St) (AL : Option Addr) (cL : Nat) (r : Rec) (w : World) (er0 er1 : Addr) (hB : B ≤ w.heap.size) (hv : LdV w B cs rs s) (hi : Inv rs s) (ht : RightR r) (hk : r.k = 1)
    (hU : Row w B AL (upsV r.us)) (hlen : r.us.length ≤ 1048600) (hE : Errs er0 er1 w) (hST : StepTo rs s r b s') :
    Calls Tryz.prog 81 #[.agg cs.toArray, .iface 171 (.agg #[.int .i64 r.t, .slice AL r.us.length cL])] w (FolO B rs r s' b w) := by
  obtain ⟨A, c, us, hcs, h2, h3, ho, h5⟩ := hv
  obtain ⟨m, hm⟩ := Int.eq_ofNat_of_zero_le ht.1.1
  have hm12 : m < 12 := by have := ht.1.2; omega
  have h1 : s.refs.length = 4 := hi.refs.1
  have hl0 : s.locks.length = 4 := hi.locks.1
  have uv : UV r.us := by
    rcases ht.2 with h | h | h
    · exact h.2
    · omega
    · omega
  have hbb : b = true ↔ Sh.ask rs (m : Int) = 0 ∧ Fits s.refs r.us ∧ Fits s.locks (lk m r.us) := by
    constructor
    · intro e
      rcases hST with ⟨-, h⟩ | ⟨h, -⟩
      · obtain ⟨q1, q2, q3, q4⟩ := step_1 h hk
        rw [hm] at q1 q4
        exact ⟨q1, q3, q4⟩
      · rw [h] at e; cases e
    · rintro ⟨q1, q2, q3⟩
      rcases hST with ⟨h, -⟩ | ⟨-, h, -⟩
      · exact h
      · exact absurd ⟨_, Step.prepare hk (by rw [hm]; exact q1) uv q2 (by rw [hm]; exact q3)⟩ h
  obtain ⟨A0, c0, ei, hrow, -⟩ := id ho.form
  injection ei with e1 e2 e3
  subst e1 e3
  have CP : Hid (∀ y, Below w.heap.size w y → Calls Tryz.prog 111 #[.agg cs.toArray, .int .i64 (m : Int), .slice AL r.us.length cL] y (PrepO b s.refs s.locks.length (setR s.locks (lk m r.us)) ((stL rs).set m 1) (us.set m (.slice AL r.us.length cL)) y)) := fun y hy => by
    rw [hcs]
    exact prepared_is b s.refs (stL rs) s.locks A c us m AL cL r.us _ y er0 er1 h1 (stL_length rs) h2 h3 (row_on hrow hy) hi.locks hm12 ((hU.below hy hB).more (Nat.le_trans hB hy.size)) uv hlen (hE.below hy) (stL_get hm12) hbb
  have HLed : Hid (∀ A c, Led (ledC s.refs (.slice A s.locks.length c) ((stL rs).set m 1) (us.set m (.slice AL r.us.length cL)))) := fun A c => Led.mk_ h1 (by rw [List.length_set]; exact stL_length rs) (by rw [List.length_set]; exact h2) rfl (fun u hu => by
    rcases List.mem_or_eq_of_mem_set hu with e | rfl
    · exact h3 u e
    · rfl)
  have HEnd : Hid (∀ (w' : World) A' c', OwnI w' w.heap.size (.slice A' s.locks.length c') (setR s.locks (lk m r.us)) → Below w.heap.size w w' → b = true → LdV w' B (ledC s.refs (.slice A' s.locks.length c') ((stL rs).set m 1) (us.set m (.slice AL r.us.length cL))) (rs ++ [r]) s') := fun w' A' c' ho' hb' e => by
    rcases hST with ⟨-, h⟩ | ⟨h, -⟩
    · have es : s' = ⟨s.refs, setR s.locks (lk r.t r.us)⟩ := by
        cases h with
        | prepare _ _ _ _ _ => rfl
        | commit k _ _ => omega
        | abort k _ _ => omega
      subst es
      exact LdV.prep hi hm12 hm hk h h2 h3 (fun t ht ha => by obtain ⟨A2, c2, q1, q2⟩ := h5 t ht ha; exact ⟨A2, c2, q1, q2.below hb' hB⟩) (hU.below hb' hB) (ho'.base hB)
    · rw [h] at e; cases e
  have hL := hid (show Led cs by rw [hcs]; exact Led.mk_ h1 (stL_length rs) h2 rfl h3)
  clear hcs h2 h3 h5 hbb uv hST hi ht hk h1 hl0 ho hrow hE
  rw [hm]
  clear hm
  have a0 := (Arr4.new_ w 80 cs).alloc (.cells led0.toArray 80)
  have a1 := Arr4.new_ (w.alloc (.cells cs.toArray 80)) 80 led0
  have b1 := ((Below.refl w.heap.size w).alloc (Nat.le_refl _) (.cells cs.toArray 80)).alloc (by simp) (.cells led0.toArray 80)
  rw [World.size_alloc] at a1
  go_enter Tryz.func81, Tryz.ntmps81
  go_upto_region 1 with fail
  obtain ⟨W, hW⟩ : ∃ x, (w.alloc (.cells cs.toArray 80)).alloc (.cells led0.toArray 80) = x := ⟨_, rfl⟩
  change Code.wp _ _ _ _ ((w.alloc (.cells cs.toArray 80)).alloc (.cells led0.toArray 80))
  rw [hW] at a0 a1 b1 ⊢
  clear hW
  have hmeth := method1 (m : Int) (.slice AL r.us.length cL) W
  go_wp2_with fail
  refine (transaction_is _ _).mono ?_
  rintro e _ ⟨rfl, rfl⟩
  clear hmeth
  have al := (Below.refl W.heap.size W).alloc (Nat.le_refl _) (.cells #[.int .i64 (m : Int), .slice AL r.us.length cL] 171)
  have x2 := Blk2s.new_ W 171 (.int .i64 (m : Int)) (.slice AL r.us.length cL)
  have hass := assert11 (.agg #[.int .i64 (m : Int), .slice AL r.us.length cL]) W
  go_upto_region 5 with fail
  obtain ⟨w3, hw3⟩ : ∃ x, W.alloc (.cells #[.int .i64 (m : Int), .slice AL r.us.length cL] 171) = x := ⟨_, rfl⟩
  rw [hw3] at al x2 ⊢
  clear hw3
  have q0 := a0.below al a0.lt
  have q1 := a1.below al a1.lt
  have b3 := b1.trans (al.mono b1.size)
  obtain ⟨-, y1, -⟩ := id x2.reads
  have hld : w3.heap[w.heap.size]? = some (.cells cs.toArray 80 (0, 0)) := q0
  clear a0 a1 b1 al x2
  go_wp2_with (refine wpList_load_row rfl 80 _ rfl w.heap.size rfl 80 cs.toArray (0, 0) _ hld Tryz.underlying80 rfl hL.out.info ?_)
  refine (CP.out _ b3).mono ?_
  rintro e w4 hP
  obtain ⟨X, rfl, hX, d4, hXX⟩ := hP.form HLed.out
  have HX := hid hX
  have b4 := b3.trans (d4.mono b3.size)
  have s1 := q1.below d4 q1.lt
  have HXX := hid hXX
  have z3 := b3.size
  have hs : w4.heap[w.heap.size + 1]? = some (.cells led0.toArray 80 (0, 0)) := s1
  clear q0 q1 b3 d4 hXX hX hld CP HLed y1
  go_wp2_with (refine wpList_store_rowTo rfl 80 _ _ rfl rfl (w.heap.size + 1) X.toArray rfl rfl 80 led0.toArray hs HX.out.info (led0_led.size.trans HX.out.size.symm) HX.out.2 ?_)
  have h2 := setRow_heap _ _ _ X.toArray _ _ hs
  have b9 := below_setRow b4 (Nat.le_succ _) X.toArray
  refine bodyPost_ret (v := .tuple #[.agg X.toArray, .bool b]) (results_row_slot (p := 4) (s := 5) (by kernel_rfl) _ _ (w.heap.size + 1) 80 _ (0, 0) _ _ rfl rfl h2 Tryz.underlying80 HX.out.info) rfl ⟨X, rfl, HX.out, fun e => ?_, b9⟩
  obtain ⟨A', c', eX, ho'⟩ := HXX.out e
  have o9 := (ho'.base (B' := w.heap.size) z3).keptT (by decide) (but_setRow w4 (w.heap.size + 1) X.toArray) (blk_type s1)
  rw [eX] at o9 b9 ⊢
  exact HEnd.out _ A' c' o9 b9 e
set_option maxRecDepth 100000 in
set_option maxHeartbeats 8000000 in
theorem followed_2 (b : Bool) (s' : St) (B : Nat) (cs : List Value) (rs : List Rec) (s : St) (r : Rec) (w : World) (hB : B ≤ w.heap.size) (hv : LdV w B cs rs s) (hi : Inv rs s) (ht : RightR r) (hk : r.k = 2) (hlen : ∀ x ∈ rs, x.us.length ≤ 1048576) (hST : StepTo rs s r b s') :
    Calls Tryz.prog 81 #[.agg cs.toArray, .iface 173 (.agg #[.int .i64 r.t])] w (FolO B rs r s' b w) := by
  obtain ⟨A, c, us, hcs, h2, h3, ho, h5⟩ := hv
  obtain ⟨m, hm⟩ := Int.eq_ofNat_of_zero_le ht.1.1
  have hm12 : m < 12 := by have := ht.1.2; omega
  have h1 : s.refs.length = 4 := hi.refs.1
  have hl0 : s.locks.length = 4 := hi.locks.1
  have hu0 : r.us = [] := by
    rcases ht.2 with h | h | h
    · omega
    · exact List.eq_nil_of_length_eq_zero h.2
    · exact List.eq_nil_of_length_eq_zero h.2
  have hbb : b = true ↔ Sh.ask rs (m : Int) = 1 := by
    constructor
    · intro e
      rcases hST with ⟨-, h⟩ | ⟨h, -⟩
      · rw [← hm]; exact (step_2 h hk).1
      · rw [h] at e; cases e
    · intro q1
      rcases hST with ⟨h, -⟩ | ⟨-, h, -⟩
      · exact h
      · exact absurd ⟨_, Step.commit hk (by rw [hm]; exact q1) hu0⟩ h
  obtain ⟨A0, c0, ei, hrow, -⟩ := id ho.form
  injection ei with e1 e2 e3
  subst e1 e3
  have CP : Hid (∀ y, Below w.heap.size w y → Calls Tryz.prog 112 #[.agg cs.toArray, .int .i64 (m : Int)] y (PrepO b (setR s.refs (Sh.upd rs m)) s.locks.length (freeL m s.locks) ((stL rs).set m 2) us y)) := fun y hy => by
    rw [hcs]
    by_cases ha : Sh.ask rs (m : Int) = 1
    · obtain ⟨A2, c2, q1, q2⟩ := h5 m hm12 (.inl ha)
      obtain ⟨-, p2, p3, -⟩ := hi.prep m ha
      exact committed_is b s.refs (stL rs) s.locks A c us m A2 c2 (Sh.upd rs m) _ y h1 (stL_length rs) h2 h3 (row_on hrow hy) hi.locks hm12 (stL_get hm12) hbb (fun _ => ⟨q1, (q2.below hy hB).more (Nat.le_trans hB hy.size), p2, p3, by have := upd_len hlen (t := (m : Int)); omega⟩)
    · exact committed_is b s.refs (stL rs) s.locks A c us m none 0 (Sh.upd rs m) _ y h1 (stL_length rs) h2 h3 (row_on hrow hy) hi.locks hm12 (stL_get hm12) hbb (fun e => absurd e ha)
  have HLed : Hid (∀ A c, Led (ledC (setR s.refs (Sh.upd rs m)) (.slice A s.locks.length c) ((stL rs).set m 2) us)) := fun A c => Led.mk_ (by rw [setR_length]; exact h1) (by rw [List.length_set]; exact stL_length rs) h2 rfl h3
  have HEnd : Hid (∀ (w' : World) A' c', OwnI w' w.heap.size (.slice A' s.locks.length c') (freeL m s.locks) → Below w.heap.size w w' → b = true → LdV w' B (ledC (setR s.refs (Sh.upd rs m)) (.slice A' s.locks.length c') ((stL rs).set m 2) us) (rs ++ [r]) s') := fun w' A' c' ho' hb' e => by
    rcases hST with ⟨-, h⟩ | ⟨h, -⟩
    · have es : s' = ⟨setR s.refs (Sh.upd rs r.t), freeL r.t s.locks⟩ := by
        cases h with
        | prepare k _ _ _ _ => omega
        | commit k _ _ => first | rfl | omega
        | abort k _ _ => first | rfl | omega
      subst es
      have := LdV.deci (w' := w') (B := B) (A' := A') (c' := c') hi hm (by omega) h (by rw [hm]) h2 h3 (fun t ht ha => by obtain ⟨A2, c2, q1, q2⟩ := h5 t ht ha; exact ⟨A2, c2, q1, q2.below hb' hB⟩) (ho'.base hB)
      rw [hk] at this
      rw [hm] at this ⊢
      exact this
    · rw [h] at e; cases e
  have hL := hid (show Led cs by rw [hcs]; exact Led.mk_ h1 (stL_length rs) h2 rfl h3)
  clear hcs h2 h3 h5 hbb hST hi ht hk h1 hl0 ho hrow hu0 hlen
  rw [hm]
  clear hm
  have a0 := (Arr4.new_ w 80 cs).alloc (.cells led0.toArray 80)
  have a1 := Arr4.new_ (w.alloc (.cells cs.toArray 80)) 80 led0
  have b1 := ((Below.refl w.heap.size w).alloc (Nat.le_refl _) (.cells cs.toArray 80)).alloc (by simp) (.cells led0.toArray 80)
  rw [World.size_alloc] at a1
  go_enter Tryz.func81, Tryz.ntmps81
  go_upto_region 1 with fail
  obtain ⟨W, hW⟩ : ∃ x, (w.alloc (.cells cs.toArray 80)).alloc (.cells led0.toArray 80) = x := ⟨_, rfl⟩
  change Code.wp _ _ _ _ ((w.alloc (.cells cs.toArray 80)).alloc (.cells led0.toArray 80))
  rw [hW] at a0 a1 b1 ⊢
  clear hW
  have hmeth := method2 (m : Int) W
  go_wp2_with fail
  refine (transaction_is _ _).mono ?_
  rintro e _ ⟨rfl, rfl⟩
  clear hmeth
  have al := (Below.refl W.heap.size W).alloc (Nat.le_refl _) (.cells #[.int .i64 (m : Int)] 173)
  have x2 := Blk1.new_ W 173 (.int .i64 (m : Int))
  have hass := assert21 (.agg #[.int .i64 (m : Int)]) W
  have hass2 := assert22 (.agg #[.int .i64 (m : Int)]) W
  go_upto_region 8 with fail
  obtain ⟨w3, hw3⟩ : ∃ x, W.alloc (.cells #[.int .i64 (m : Int)] 173) = x := ⟨_, rfl⟩
  rw [hw3] at al x2 ⊢
  clear hw3
  have q0 := a0.below al a0.lt
  have q1 := a1.below al a1.lt
  have b3 := b1.trans (al.mono b1.size)
  have hld : w3.heap[w.heap.size]? = some (.cells cs.toArray 80 (0, 0)) := q0
  clear a0 a1 b1 al x2
  go_wp2_with (refine wpList_load_row rfl 80 _ rfl w.heap.size rfl 80 cs.toArray (0, 0) _ hld Tryz.underlying80 rfl hL.out.info ?_)
  refine (CP.out _ b3).mono ?_
  rintro e w4 hP
  obtain ⟨X, rfl, hX, d4, hXX⟩ := hP.form HLed.out
  have HX := hid hX
  have b4 := b3.trans (d4.mono b3.size)
  have s1 := q1.below d4 q1.lt
  have HXX := hid hXX
  have z3 := b3.size
  have hs : w4.heap[w.heap.size + 1]? = some (.cells led0.toArray 80 (0, 0)) := s1
  clear q0 q1 b3 d4 hXX hX hld CP HLed
  go_wp2_with (refine wpList_store_rowTo rfl 80 _ _ rfl rfl (w.heap.size + 1) X.toArray rfl rfl 80 led0.toArray hs HX.out.info (led0_led.size.trans HX.out.size.symm) HX.out.2 ?_)
  have h2 := setRow_heap _ _ _ X.toArray _ _ hs
  have b9 := below_setRow b4 (Nat.le_succ _) X.toArray
  refine bodyPost_ret (v := .tuple #[.agg X.toArray, .bool b]) (results_row_slot (p := 4) (s := 5) (by kernel_rfl) _ _ (w.heap.size + 1) 80 _ (0, 0) _ _ rfl rfl h2 Tryz.underlying80 HX.out.info) rfl ⟨X, rfl, HX.out, fun e => ?_, b9⟩
  obtain ⟨A', c', eX, ho'⟩ := HXX.out e
  have o9 := (ho'.base (B' := w.heap.size) z3).keptT (by decide) (but_setRow w4 (w.heap.size + 1) X.toArray) (blk_type s1)
  rw [eX] at o9 b9 ⊢
  exact HEnd.out _ A' c' o9 b9 e
set_option maxRecDepth 100000 in
set_option maxHeartbeats 8000000 in
theorem followed_3 (b : Bool) (s' : St) (B : Nat) (cs : List Value) (rs : List Rec) (s : St) (r : Rec) (w : World) (hB : B ≤ w.heap.size) (hv : LdV w B cs rs s) (hi : Inv rs s) (ht : RightR r) (hk : r.k = 3) (hST : StepTo rs s r b s') :
    Calls Tryz.prog 81 #[.agg cs.toArray, .iface 174 (.agg #[.int .i64 r.t])] w (FolO B rs r s' b w) := by
  obtain ⟨A, c, us, hcs, h2, h3, ho, h5⟩ := hv
  obtain ⟨m, hm⟩ := Int.eq_ofNat_of_zero_le ht.1.1
  have hm12 : m < 12 := by have := ht.1.2; omega
  have h1 : s.refs.length = 4 := hi.refs.1
  have hl0 : s.locks.length = 4 := hi.locks.1
  have hu0 : r.us = [] := by
    rcases ht.2 with h | h | h
    · omega
    · exact List.eq_nil_of_length_eq_zero h.2
    · exact List.eq_nil_of_length_eq_zero h.2
  have hbb : b = true ↔ Sh.ask rs (m : Int) = 0 ∨ Sh.ask rs (m : Int) = 1 := by
    constructor
    · intro e
      rcases hST with ⟨-, h⟩ | ⟨h, -⟩
      · rw [← hm]; exact (step_3 h hk).1
      · rw [h] at e; cases e
    · intro q1
      rcases hST with ⟨h, -⟩ | ⟨-, h, -⟩
      · exact h
      · exact absurd ⟨_, Step.abort hk (by rw [hm]; exact q1) hu0⟩ h
  obtain ⟨A0, c0, ei, hrow, -⟩ := id ho.form
  injection ei with e1 e2 e3
  subst e1 e3
  have CP : Hid (∀ y, Below w.heap.size w y → Calls Tryz.prog 113 #[.agg cs.toArray, .int .i64 (m : Int)] y (PrepO b s.refs s.locks.length (freeL m s.locks) ((stL rs).set m 3) us y)) := fun y hy => by
    rw [hcs]
    exact aborted_is b s.refs (stL rs) s.locks A c us m _ y h1 (stL_length rs) h2 h3 (row_on hrow hy) hi.locks hm12 (stL_get hm12) hbb
  have HLed : Hid (∀ A c, Led (ledC s.refs (.slice A s.locks.length c) ((stL rs).set m 3) us)) := fun A c => Led.mk_ h1 (by rw [List.length_set]; exact stL_length rs) h2 rfl h3
  have HEnd : Hid (∀ (w' : World) A' c', OwnI w' w.heap.size (.slice A' s.locks.length c') (freeL m s.locks) → Below w.heap.size w w' → b = true → LdV w' B (ledC s.refs (.slice A' s.locks.length c') ((stL rs).set m 3) us) (rs ++ [r]) s') := fun w' A' c' ho' hb' e => by
    rcases hST with ⟨-, h⟩ | ⟨h, -⟩
    · have es : s' = ⟨s.refs, freeL r.t s.locks⟩ := by
        cases h with
        | prepare k _ _ _ _ => omega
        | commit k _ _ => first | rfl | omega
        | abort k _ _ => first | rfl | omega
      subst es
      have := LdV.deci (w' := w') (B := B) (A' := A') (c' := c') hi hm (by omega) h (by rw [hm]) h2 h3 (fun t ht ha => by obtain ⟨A2, c2, q1, q2⟩ := h5 t ht ha; exact ⟨A2, c2, q1, q2.below hb' hB⟩) (ho'.base hB)
      rw [hk] at this
      rw [hm] at this ⊢
      exact this
    · rw [h] at e; cases e
  have hL := hid (show Led cs by rw [hcs]; exact Led.mk_ h1 (stL_length rs) h2 rfl h3)
  clear hcs h2 h3 h5 hbb hST hi ht hk h1 hl0 ho hrow hu0
  rw [hm]
  clear hm
  have a0 := (Arr4.new_ w 80 cs).alloc (.cells led0.toArray 80)
  have a1 := Arr4.new_ (w.alloc (.cells cs.toArray 80)) 80 led0
  have b1 := ((Below.refl w.heap.size w).alloc (Nat.le_refl _) (.cells cs.toArray 80)).alloc (by simp) (.cells led0.toArray 80)
  rw [World.size_alloc] at a1
  go_enter Tryz.func81, Tryz.ntmps81
  go_upto_region 1 with fail
  obtain ⟨W, hW⟩ : ∃ x, (w.alloc (.cells cs.toArray 80)).alloc (.cells led0.toArray 80) = x := ⟨_, rfl⟩
  change Code.wp _ _ _ _ ((w.alloc (.cells cs.toArray 80)).alloc (.cells led0.toArray 80))
  rw [hW] at a0 a1 b1 ⊢
  clear hW
  have hmeth := method3 (m : Int) W
  go_wp2_with fail
  refine (transaction_is _ _).mono ?_
  rintro e _ ⟨rfl, rfl⟩
  clear hmeth
  have al := (Below.refl W.heap.size W).alloc (Nat.le_refl _) (.cells #[.int .i64 (m : Int)] 174)
  have x2 := Blk1.new_ W 174 (.int .i64 (m : Int))
  have hass := assert31 (.agg #[.int .i64 (m : Int)]) W
  have hass2 := assert32 (.agg #[.int .i64 (m : Int)]) W
  have hass3 := assert33 (.agg #[.int .i64 (m : Int)]) W
  go_upto_region 11 with fail
  obtain ⟨w3, hw3⟩ : ∃ x, W.alloc (.cells #[.int .i64 (m : Int)] 174) = x := ⟨_, rfl⟩
  rw [hw3] at al x2 ⊢
  clear hw3
  have q0 := a0.below al a0.lt
  have q1 := a1.below al a1.lt
  have b3 := b1.trans (al.mono b1.size)
  have hld : w3.heap[w.heap.size]? = some (.cells cs.toArray 80 (0, 0)) := q0
  clear a0 a1 b1 al x2
  go_wp2_with (refine wpList_load_row rfl 80 _ rfl w.heap.size rfl 80 cs.toArray (0, 0) _ hld Tryz.underlying80 rfl hL.out.info ?_)
  refine (CP.out _ b3).mono ?_
  rintro e w4 hP
  obtain ⟨X, rfl, hX, d4, hXX⟩ := hP.form HLed.out
  have HX := hid hX
  have b4 := b3.trans (d4.mono b3.size)
  have s1 := q1.below d4 q1.lt
  have HXX := hid hXX
  have z3 := b3.size
  have hs : w4.heap[w.heap.size + 1]? = some (.cells led0.toArray 80 (0, 0)) := s1
  clear q0 q1 b3 d4 hXX hX hld CP HLed
  go_wp2_with (refine wpList_store_rowTo rfl 80 _ _ rfl rfl (w.heap.size + 1) X.toArray rfl rfl 80 led0.toArray hs HX.out.info (led0_led.size.trans HX.out.size.symm) HX.out.2 ?_)
  have h2 := setRow_heap _ _ _ X.toArray _ _ hs
  have b9 := below_setRow b4 (Nat.le_succ _) X.toArray
  refine bodyPost_ret (v := .tuple #[.agg X.toArray, .bool b]) (results_row_slot (p := 4) (s := 5) (by kernel_rfl) _ _ (w.heap.size + 1) 80 _ (0, 0) _ _ rfl rfl h2 Tryz.underlying80 HX.out.info) rfl ⟨X, rfl, HX.out, fun e => ?_, b9⟩
  obtain ⟨A', c', eX, ho'⟩ := HXX.out e
  have o9 := (ho'.base (B' := w.heap.size) z3).keptT (by decide) (but_setRow w4 (w.heap.size + 1) X.toArray) (blk_type s1)
  rw [eX] at o9 b9 ⊢
  exact HEnd.out _ A' c' o9 b9 e
theorem followed_is (b : Bool) (s' : St) (B : Nat) (cs : List Value) (rs : List Rec) (s : St) (AL : Option Addr) (cL : Nat) (r : Rec) (w : World) (er0 er1 : Addr) (hB : B ≤ w.heap.size) (hv : LdV w B cs rs s) (hi : Inv rs s) (ht : RightR r)
    (hU : Row w B AL (upsV r.us)) (hlen : r.us.length ≤ 1048576) (hlen2 : ∀ x ∈ rs, x.us.length ≤ 1048576) (hE : Errs er0 er1 w) (hST : StepTo rs s r b s') :
    Calls Tryz.prog 81 #[.agg cs.toArray, entV AL cL r] w (FolO B rs r s' b w) := by
  unfold entV
  rcases ht.2 with h | h | h
  · rw [if_pos h.1]
    exact followed_1 b s' B cs rs s AL cL r w er0 er1 hB hv hi ht h.1 hU (by omega) hE hST
  · rw [if_neg (by omega), if_pos h.1]
    exact followed_2 b s' B cs rs s r w hB hv hi ht h.1 hlen2 hST
  · rw [if_neg (by omega), if_neg (by omega)]
    exact followed_3 b s' B cs rs s r w hB hv hi ht h.1 hST
end Go.Proofs.YteaibflloeipaaaGreatDoor
/- Laws on coordinators: a coordinator is boxed. -/
/- On to the world behind D. -/
/- An exact law begins: the argument's box, its size, a copy for the model. -/
/- The program's own copy of the argument is boxed. -/
/- The program's copy is as the argument; the region draws. -/
/- Laws on functions that answer numbers. -/
/- What the boxes hold is read again. -/
/- The coordinator with the slices P4 and P5 is boxed as P6, in block P7, behind it the world P3; ahead of region P1. -/
/- The draw, the program's answer, the model's, and that they are the same: behind it w5, all facts on it by way of dx. -/
/-
  Walks: the program's ledger of all records of a shard.
-/
namespace Go.Proofs.YteaibflloeipaaaGreatDoor
open Go.RowKit Wo Pu Rf Lk Sh

/-- Behind it: a ledger, and whether the shard is valid; then it is the ledger of all its records. -/
def ReadB (B : Nat) (rs : List Rec) (b : Bool) (w : World) (e : Ending) (w' : World) : Prop := ∃ X, e = .returned (.tuple #[.agg X.toArray, .bool b]) ∧ Led X ∧ (b = true → ∃ s, Rcv rs s ∧ LdV w' B X rs s) ∧ Below w.heap.size w w'
/-- .. all of it below the call. -/
def ReadO (rs : List Rec) (b : Bool) (w : World) (e : Ending) (w' : World) : Prop := ∃ X, e = .returned (.tuple #[.agg X.toArray, .bool b]) ∧ Led X ∧ (b = true → ∃ s, Rcv rs s ∧ LdV w' w.heap.size X rs s) ∧ Below w.heap.size w w'
theorem step_right {rs : List Rec} {s x : St} {r : Rec} (ht : TV r.t) (h : Step rs s r x) : RightR r := by
  refine ⟨ht, ?_⟩
  cases h with
  | prepare h1 _ h3 _ _ => exact .inl ⟨h1, h3⟩
  | commit h1 _ h3 => exact .inr (.inl ⟨h1, by rw [h3]; rfl⟩)
  | abort h1 _ h3 => exact .inr (.inr ⟨h1, by rw [h3]; rfl⟩)
theorem Led.row {w : World} {g : Nat} {cs ys : List Value} (h : Arr4 w g 80 cs) : Arr4 (w.setRow g ys.toArray) g 80 ys := h.setRow ys
theorem Blk1.row {w : World} {g R : Nat} {t : TypeId} {v : Value} (h : Blk1 w g t v) (hR : g ≠ R) (cs : Array Value) : Blk1 (w.setRow R cs) g t v := (setRow_other w R g cs hR).trans h
/-- What the loop holds: the shard's box, the result's, the ledger's in block g. -/
def RdL (w : World) (B : Nat) (g : Nat) (A : Option Addr) (n c : Nat) (cs : List Value) (rs : List Rec) (s : St) (wr : World) : Prop :=
  Blk1 wr w.heap.size 37 (.slice A n c) ∧ Arr4 wr (w.heap.size + 1) 80 led0 ∧ Arr4 wr g 80 cs ∧ w.heap.size + 1 < g ∧ LdV wr B cs rs s ∧ Below w.heap.size w wr
section
variable {w wr w' : World} {B g n c : Nat} {A : Option Addr} {cs : List Value} {rs : List Rec} {s : St}
theorem RdL.later (h : RdL w B g A n c cs rs s wr) (hB : B ≤ w.heap.size) (hb : Below wr.heap.size wr w') : RdL w B g A n c cs rs s w' := by
  obtain ⟨h1, h2, h3, h4, h5, h6⟩ := h
  exact ⟨h1.later hb, h2.below hb h2.lt, h3.below hb h3.lt, h4, h5.below (Nat.le_trans hB h6.size) hb, h6.trans (hb.mono h6.size)⟩
theorem RdL.row {R : Nat} {cur : Array Value} (h : RdL w B g A n c cs rs s wr) (hB : B ≤ w.heap.size) (hx : wr.heap[R]? = some (.cells cur 80 (0, 0))) (h1 : w.heap.size + 1 < R) (h2 : R ≠ g) (ys : List Value) : RdL w B g A n c cs rs s (wr.setRow R ys.toArray) := by
  obtain ⟨k1, k2, k3, k4, k5, k6⟩ := h
  exact ⟨k1.row (by omega) _, k2.farRow (by omega) _, k3.farRow (fun e => h2 e.symm) _, k4, k5.but (Nat.le_trans hB k6.size) (but_setRow wr R _) (by omega) hx (by decide), below_setRow k6 (by omega) _⟩
/-- The ledger is another one. -/
theorem RdL.next {X : List Value} {rs' : List Rec} {s' : St} (h : RdL w B g A n c cs rs s wr) (hB : B ≤ w.heap.size) (hv : LdV wr B X rs' s') : RdL w B g A n c X rs' s' (wr.setRow g X.toArray) := by
  obtain ⟨k1, k2, k3, k4, k5, k6⟩ := h
  exact ⟨k1.row (by omega) _, k2.farRow (by omega) _, k3.setRow X, k4, hv.but (Nat.le_trans hB k6.size) (but_setRow wr g _) (by omega) k3 (by decide), below_setRow k6 (by omega) _⟩
end
/- The zero ledger is the answer, in the world WW. -/
set_option maxRecDepth 100000 in
set_option maxHeartbeats 16000000 in
theorem readShardB_is (B : Nat) (b : Bool) (v : Value) (rs : List Rec) (w : World) (er0 er1 : Addr) (h : Shd w B v rs) (hB : B ≤ w.heap.size) (hE : Errs er0 er1 w) (hf : FitR rs) (hb : b = true ↔ Vld rs) :
    Calls Tryz.prog 40 #[v] w (ReadB B rs b w) := by
  obtain ⟨A, c, rfl, h0, hc⟩ := h
  unfold shV
  have HB := hid hb
  have HE := hid hE
  clear hb hE
  have x0 := (Blk1.new_ w 37 (.slice A rs.length c)).alloc (.cells led0.toArray 80)
  have a1 := Arr4.new_ (w.alloc (.cells #[.slice A rs.length c] 37)) 80 led0
  have b1 := ((Below.refl w.heap.size w).alloc (Nat.le_refl _) (.cells #[.slice A rs.length c] 37)).alloc (by simp) (.cells led0.toArray 80)
  rw [World.size_alloc] at a1
  go_enter Tryz.func40, Tryz.ntmps40
  go_upto_region 1 with fail
  obtain ⟨W, hW⟩ : ∃ x, (w.alloc (.cells #[.slice A rs.length c] 37)).alloc (.cells led0.toArray 80) = x := ⟨_, rfl⟩
  change Code.wp _ _ _ _ ((w.alloc (.cells #[.slice A rs.length c] 37)).alloc (.cells led0.toArray 80))
  rw [hW] at x0 a1 b1 ⊢
  clear hW
  obtain ⟨y0, -⟩ := id x0.reads
  by_cases h30 : 30 < rs.length
  · have e0 : decide (30 < (rs.length : Int)) = true := decide_eq_true (by omega)
    have e1 : decide (30 < rs.length) = true := decide_eq_true h30
    have F : Hid (b = false) := by
      show b = false
      rw [← Bool.not_eq_true]
      exact fun e => by have := (HB.out.1 e).2; omega
    have s1 := a1
    have b4 := b1
    clear h30 a1 b1
    have hs : (W).heap[w.heap.size + 1]? = some (.cells led0.toArray 80 (0, 0)) := s1
    go_wp2_with (refine wpList_store_rowTo rfl 80 _ _ rfl rfl (w.heap.size + 1) led0.toArray rfl rfl 80 led0.toArray hs led0_led.info rfl led0_led.2 ?_)
    have h2 := setRow_heap _ _ _ led0.toArray _ _ hs
    have b9 := below_setRow b4 (Nat.le_succ _) led0.toArray
    rw [F.out]
    refine bodyPost_ret (v := .tuple #[.agg led0.toArray, .bool false]) (results_row_slot (p := 2) (s := 3) (by kernel_rfl) _ _ (w.heap.size + 1) 80 _ (0, 0) _ _ rfl rfl h2 Tryz.underlying80 led0_led.info) rfl ⟨led0, rfl, led0_led, (fun e => by cases e), b9⟩
  · have e0 : decide (30 < (rs.length : Int)) = false := decide_eq_false (by omega)
    have e1 : decide (30 < rs.length) = false := decide_eq_false h30
    have H30 : Hid (rs.length ≤ 30) := by show _ ≤ _; omega
    clear h30
    go_wp2_with fail
    refine (newLedger_is W).mono ?_
    rintro e w2 ⟨cs0, rfl, l0, d2⟩
    have b2 := b1.trans (d2.mono b1.size)
    have x2 := x0.later d2
    have a2 := a1.below d2 a1.lt
    have l2 := l0.base (B' := B) (Nat.le_trans hB b1.size)
    have hL0 := hid (l2.led rfl)
    clear x0 a1 b1 d2 l0 y0
    have al := (Below.refl w2.heap.size w2).alloc (Nat.le_refl _) (.cells led0.toArray 80)
    have hg := heap_alloc_new w2 (.cells led0.toArray 80)
    have a3 : Arr4 (w2.alloc (.cells led0.toArray 80)) w2.heap.size 80 led0 := hg
    have zg : w.heap.size + 1 < w2.heap.size := a2.lt
    have S0 : RdL w B w2.heap.size A rs.length c cs0 [] ⟨[-1, -1, -1, -1], [-1, -1, -1, -1]⟩ ((w2.alloc (.cells led0.toArray 80)).setRow w2.heap.size cs0.toArray) :=
      ⟨(x2.later al).row (by omega) _, (a2.below al a2.lt).farRow (by omega) _, a3.setRow cs0, zg, (l2.below (Nat.le_trans hB b2.size) al).but (by have := al.size; have := b2.size; omega) (but_setRow _ w2.heap.size cs0.toArray) (Nat.le_trans hB b2.size) hg (by decide), below_setRow (b2.trans (al.mono b2.size)) b2.size cs0.toArray⟩
    clear x2 a2 l2 b2 al a3 zg
    go_upto_region 4 with (refine wpList_store_rowTo rfl 80 _ _ rfl rfl w2.heap.size cs0.toArray rfl rfl 80 led0.toArray hg hL0.out.info (led0_led.size.trans hL0.out.size.symm) hL0.out.2 ?_)
    change Code.wp _ _ _ _ ((w2.alloc (.cells led0.toArray 80)).setRow w2.heap.size cs0.toArray)
    obtain ⟨w3, hw3⟩ : ∃ x, (w2.alloc (.cells led0.toArray 80)).setRow w2.heap.size cs0.toArray = x := ⟨_, rfl⟩
    rw [hw3] at S0 ⊢
    clear hw3 hg
    obtain ⟨g, hgg⟩ : ∃ g, w2.heap.size = g := ⟨_, rfl⟩
    rw [hgg] at S0 ⊢
    clear hgg hL0
    obtain ⟨y0, -⟩ := id S0.1.reads
    go_wp2_with fail
    go_loopw [20] (fun i wr => ∃ (k : Nat) (cs : List Value) (s : St), k ≤ rs.length ∧ i = .int .i64 k ∧ RdL w B g A rs.length c cs (rs.take k) s wr ∧ Hid (Rcv (rs.take k) s)) (fun i _ => rs.length - (intOf i).toNat)
    case atStart => exact ⟨0, _, _, Nat.zero_le _, rfl, S0, .nil⟩
    case round =>
      obtain ⟨k, cs, s, hk, rfl, S, HR⟩ := hrel
      clear S0 y0
      have hbw := S.2.2.2.2.2
      have hz := hbw.size
      have hBz := Nat.le_trans hB hz
      obtain ⟨y0, -⟩ := id S.1.reads
      by_cases hlt : k < rs.length
      · obtain ⟨r, ad, A', c', ho, rfl, ha, g0, g1, g2, g3, g4⟩ := (h0.below hbw hB).rec hlt
        have q0 : (0 : Int) ≤ (k : Int) := by omega
        have q1 : (k : Int) < (rs.length : Int) := by omega
        have hf1 := hf.1
        have hT : Hid (rs.take (k + 1) = rs.take k ++ [r]) := by
          show _ = _
          rw [List.take_succ_eq_append_getElem hlt, ho]
        have hr1 := hf.2 r (by rw [← ho]; exact List.getElem_mem hlt)
        have hf2 : Hid (∀ x ∈ rs.take k, x.us.length ≤ 1048576) := fun x hx => hf.2 x (List.mem_of_mem_take hx)
        obtain ⟨vr, hvr⟩ := bool_ofP (RightR r)
        obtain ⟨b', s', hst⟩ := step_ex (rs.take k) s r
        have HNO : Hid ((vr = false ∨ b' = false) → b = false) := fun e => by
          rw [← Bool.not_eq_true]
          intro eb
          refine rcv_bad hlt HR.out ?_ (HB.out.1 eb)
          rw [ho]
          rintro ⟨ht, x, hx⟩
          rcases e with e | e
          · rw [hvr.2 (step_right ht hx)] at e; cases e
          · rw [(hst.yes hx).1] at e; cases e
        have HYES : Hid (vr = true → b' = true → Rcv (rs.take (k + 1)) s') := fun e1 e2 => by
          rcases hst with ⟨-, h⟩ | ⟨h, -⟩
          · exact rcv_next hlt HR.out (by rw [ho]; exact (hvr.1 e1).1) (by rw [ho]; exact h)
          · rw [h] at e2; cases e2
        have HI := hid HR.out.inv
        have CEN : Hid (∀ x, Below wr.heap.size wr x → Calls Tryz.prog 80 #[.agg #[.int .i64 r.k, .int .i64 r.t, .slice A' r.us.length c']] x (EntO A' c' r vr x)) := fun x hx => entry_is vr A' c' r x ((g4.below hx hBz).more (Nat.le_trans hBz hx.size)) (by omega) hvr
        have CF : Hid (vr = true → ∀ x, Below wr.heap.size wr x → Calls Tryz.prog 81 #[.agg cs.toArray, entV A' c' r] x (FolO B (rs.take k) r s' b' x)) := fun e x hx =>
          followed_is b' s' B cs (rs.take k) s A' c' r x er0 er1 (Nat.le_trans hBz hx.size) (S.2.2.2.2.1.below hBz hx) HI.out (hvr.1 e) (g4.below hx hBz) hr1 hf2.out (HE.out.below (hbw.trans (hx.mono hz))) hst
        have x3 := Blk3s.new_ wr 128 (.int .i64 r.k) (.int .i64 r.t) (.slice A' r.us.length c')
        have al := (Below.refl wr.heap.size wr).alloc (Nat.le_refl _) (.cells #[.int .i64 r.k, .int .i64 r.t, .slice A' r.us.length c'] 128)
        have hLc := hid (S.2.2.2.2.1.led HI.out.refs.1)
        clear hst hvr ho HR hf2
        go_upto_region 7 with fail
        obtain ⟨w3, hw3⟩ : ∃ x, wr.alloc (.cells #[.int .i64 r.k, .int .i64 r.t, .slice A' r.us.length c'] 128) = x := ⟨_, rfl⟩
        rw [hw3] at x3 al ⊢
        clear hw3 g0 g1 g2 y0
        obtain ⟨e0, e1, e2, -⟩ := id x3.reads
        go_wp2_with fail
        refine (CEN.out _ al).mono ?_
        rintro e w4 ⟨rfl, d4⟩
        have bb4 := al.trans (d4.mono al.size)
        have S4 := S.later hB bb4
        clear e0 e1 e2 x3 al d4 CEN S
        cases vr with
        | false =>
          have F := hid (HNO.out (.inl rfl))
          have s1 := S4.2.1
          have b4 := S4.2.2.2.2.2
          clear bb4 S4 HNO HYES CF g3 g4
          have hs : (w4).heap[w.heap.size + 1]? = some (.cells led0.toArray 80 (0, 0)) := s1
          go_wp2_with (refine wpList_store_rowTo rfl 80 _ _ rfl rfl (w.heap.size + 1) led0.toArray rfl rfl 80 led0.toArray hs led0_led.info rfl led0_led.2 ?_)
          have h2 := setRow_heap _ _ _ led0.toArray _ _ hs
          have b9 := below_setRow b4 (Nat.le_succ _) led0.toArray
          rw [F.out]
          refine bodyPost_ret (v := .tuple #[.agg led0.toArray, .bool false]) (results_row_slot (p := 2) (s := 3) (by kernel_rfl) _ _ (w.heap.size + 1) 80 _ (0, 0) _ _ rfl rfl h2 Tryz.underlying80 led0_led.info) rfl ⟨led0, rfl, led0_led, (fun e => by cases e), b9⟩
        | true =>
          rw [if_pos rfl]
          have CF4 := hid (CF.out rfl _ bb4)
          have hld : w4.heap[g]? = some (.cells cs.toArray 80 (0, 0)) := S4.2.2.1
          clear CF bb4 g3 g4
          go_wp2_with (refine wpList_load_row rfl 80 _ rfl g rfl 80 cs.toArray (0, 0) _ hld Tryz.underlying80 rfl hLc.out.info ?_)
          refine CF4.out.mono ?_
          rintro e w5 ⟨X, rfl, hX, hv5, d5⟩
          have HX := hid hX
          have S5 := S4.later hB d5
          have al := (Below.refl w5.heap.size w5).alloc (Nat.le_refl _) (.cells led0.toArray 80)
          have hg := heap_alloc_new w5 (.cells led0.toArray 80)
          have S6 := (S5.later hB al).row hB hg (by have := S5.2.1.lt; omega) (by have := S5.2.2.1.lt; omega) X
          have z5 := Nat.le_trans hB S5.2.2.2.2.2.size
          have hv6 : Hid (b' = true → LdV ((w5.alloc (.cells led0.toArray 80)).setRow w5.heap.size X.toArray) B X (rs.take k ++ [r]) s') := fun e => ((hv5 e).below z5 al).but (Nat.le_trans z5 al.size) (but_setRow _ w5.heap.size X.toArray) z5 hg (by decide)
          have hX6 : ((w5.alloc (.cells led0.toArray 80)).setRow w5.heap.size X.toArray).heap[w5.heap.size]? = some (.cells X.toArray 80 (0, 0)) := setRow_heap _ _ _ X.toArray _ _ hg
          clear S4 S5 hv5 d5 hld CF4 hX al
          go_upto_region 11 with (refine wpList_store_rowTo rfl 80 _ _ rfl rfl w5.heap.size X.toArray rfl rfl 80 led0.toArray hg HX.out.info (led0_led.size.trans HX.out.size.symm) HX.out.2 ?_)
          change Code.wp _ _ _ _ ((w5.alloc (.cells led0.toArray 80)).setRow w5.heap.size X.toArray)
          obtain ⟨g5, hg5⟩ : ∃ g5, w5.heap.size = g5 := ⟨_, rfl⟩
          obtain ⟨w6, hw6⟩ : ∃ x, (w5.alloc (.cells led0.toArray 80)).setRow w5.heap.size X.toArray = x := ⟨_, rfl⟩
          rw [hw6] at S6 hv6 hX6 ⊢
          rw [hg5] at hX6 ⊢
          clear hw6 hg hg5 z5
          cases b' with
          | false =>
            have F := hid (HNO.out (.inr rfl))
            have s1 := S6.2.1
            have b4 := S6.2.2.2.2.2
            clear S6 HNO HYES hv6 hX6
            have hs : (w6).heap[w.heap.size + 1]? = some (.cells led0.toArray 80 (0, 0)) := s1
            go_wp2_with (refine wpList_store_rowTo rfl 80 _ _ rfl rfl (w.heap.size + 1) led0.toArray rfl rfl 80 led0.toArray hs led0_led.info rfl led0_led.2 ?_)
            have h2 := setRow_heap _ _ _ led0.toArray _ _ hs
            have b9 := below_setRow b4 (Nat.le_succ _) led0.toArray
            rw [F.out]
            refine bodyPost_ret (v := .tuple #[.agg led0.toArray, .bool false]) (results_row_slot (p := 2) (s := 3) (by kernel_rfl) _ _ (w.heap.size + 1) 80 _ (0, 0) _ _ rfl rfl h2 Tryz.underlying80 led0_led.info) rfl ⟨led0, rfl, led0_led, (fun e => by cases e), b9⟩
          | true =>
            have hv7 := hv6.out rfl
            rw [← hT.out] at hv7
            have S7 := S6.next hB hv7
            have HR7 : Hid (Rcv (rs.take (k + 1)) s') := by
              show Rcv _ _
              first | exact HYES.out rfl rfl | exact HYES.out trivial rfl | exact HYES.out trivial trivial | exact HYES.out rfl | exact HYES.out trivial | exact HYES.out
            have hs : w6.heap[g]? = some (.cells cs.toArray 80 (0, 0)) := S6.2.2.1
            clear S6 HNO HYES hv6 hv7
            go_wp2_with (first
              | (refine wpList_load_row rfl 80 _ rfl g5 rfl 80 X.toArray (0, 0) _ hX6 Tryz.underlying80 rfl HX.out.info ?_)
              | (refine wpList_store_rowTo rfl 80 _ _ rfl rfl g X.toArray rfl rfl 80 cs.toArray hs HX.out.info (hLc.out.size.trans HX.out.size.symm) HX.out.2 ?_))
            go_roundw
            case rel => exact ⟨k + 1, X, s', hlt, by go_num, S7, HR7⟩
            case measure => simp [intOf]; omega
      · have hk' : k = rs.length := by omega
        subst hk'
        rw [List.take_length] at S HR
        have F := hid (HB.out.2 ⟨⟨_, HR.out⟩, H30.out⟩)
        have hLc := hid (S.2.2.2.2.1.led HR.out.inv.refs.1)
        have hld : wr.heap[g]? = some (.cells cs.toArray 80 (0, 0)) := S.2.2.1
        have hs : wr.heap[w.heap.size + 1]? = some (.cells led0.toArray 80 (0, 0)) := S.2.1
        have b9 := below_setRow hbw (Nat.le_succ _) cs.toArray
        have h9 := S.2.2.2.2.1.but hBz (but_setRow wr (w.heap.size + 1) cs.toArray) (Nat.le_trans hB (Nat.le_succ _)) S.2.1 (by decide)
        clear S
        go_wp2_with (first
          | (refine wpList_load_row rfl 80 _ rfl g rfl 80 cs.toArray (0, 0) _ hld Tryz.underlying80 rfl hLc.out.info ?_)
          | (refine wpList_store_rowTo rfl 80 _ _ rfl rfl (w.heap.size + 1) cs.toArray rfl rfl 80 led0.toArray hs hLc.out.info (led0_led.size.trans hLc.out.size.symm) hLc.out.2 ?_))
        have h2 := setRow_heap _ _ _ cs.toArray _ _ hs
        rw [F.out]
        refine bodyPost_ret (v := .tuple #[.agg cs.toArray, .bool true]) (results_row_slot (p := 2) (s := 3) (by kernel_rfl) _ _ (w.heap.size + 1) 80 _ (0, 0) _ _ rfl rfl h2 Tryz.underlying80 hLc.out.info) rfl ⟨cs, rfl, hLc.out, fun _ => ⟨s, HR.out, h9⟩, b9⟩
theorem readShard_is (b : Bool) (v : Value) (rs : List Rec) (w : World) (er0 er1 : Addr) (h : Shd w w.heap.size v rs) (hE : Errs er0 er1 w) (hf : FitR rs) (hb : b = true ↔ Vld rs) :
    Calls Tryz.prog 40 #[v] w (ReadO rs b w) := readShardB_is w.heap.size b v rs w er0 er1 h (Nat.le_refl _) hE hf hb
end Go.Proofs.YteaibflloeipaaaGreatDoor
namespace Go.Proofs.YteaibflloeipaaaGreatDoor
open Go.RowKit Wo Pu Rf Co Go.Conc

set_option linter.unusedVariables false in
def sndSeq : Code → Code | .seq _ b => b | c => c
set_option linter.unusedVariables false in
def fstSeq : Code → Code | .seq a _ => a | c => c
set_option linter.unusedVariables false in
def unBlock : Code → Code | .block _ c => c | c => c
set_option linter.unusedVariables false in
def unLoop : Code → Code | .loop c => c | c => c
set_option linter.unusedVariables false in
/-- Behind it: a closed channel of the call's own that holds the votes. -/
def Sent (vs : List Int) (w : World) (e : Ending) (w' : World) : Prop := ∃ ch s r, e = .returned (.chan (some ch)) ∧ w.heap.size ≤ ch ∧ w'.heap[ch]? = some (.chan vs.length (ints vs).toArray true s r false) ∧ Below w.heap.size w w'
set_option linter.unusedVariables false in
noncomputable def sendBody : Code := unLoop (unBlock (sndSeq (fstSeq (sndSeq (sndSeq (Tryz.f133.body.getD .skip))))))
set_option linter.unusedVariables false in
noncomputable def sendAfter : Code := sndSeq (sndSeq (sndSeq (Tryz.f133.body.getD .skip)))
set_option linter.unusedVariables false in
set_option linter.unusedSimpArgs false in
theorem bytes_chan : ∃ i, Tryz.prog.info? 3 = some i ∧ i.bytes = 8 := by
  have h : (Tryz.prog.info? 3).map (·.bytes) = some 8 := by kernel_rfl
  obtain ⟨i, hi, hb⟩ := Option.map_eq_some_iff.1 h
  exact ⟨i, hi, hb⟩
set_option linter.unusedVariables false in
set_option linter.unusedSimpArgs false in
theorem mkVotes (n : Nat) (hn : n ≤ 100) (w : World) : (Instr.makeChan 220 (.int .i64 (n : Int))).run Tryz.prog w = .ok (.chan (some w.heap.size)) (w.alloc (.chan n #[] false 0 0 false)) := by
  obtain ⟨i, hi, hb⟩ := bytes_chan
  simpa using run_makeChan (P := Tryz.prog) (w := w) Tryz.underlying220 hi .i64 n (by omega) (by rw [hb]; omega)
set_option linter.unusedVariables false in
def SEnds (cs : List Frame) (vs : List Int) (ch : Nat) (w : World) (g' : Goroutine) (w' : World) : Prop := ∃ e fr, g' = G fr cs ∧ Sent vs w e w' ∧ fr.fn = 133 ∧ fr.leaving Tryz.prog w' e
set_option linter.unusedVariables false in
set_option linter.unusedSimpArgs false in
set_option maxRecDepth 100000 in
set_option maxHeartbeats 4000000 in
theorem send_loop (cs : List Frame) (A : Option Addr) (c0 : Nat) (vs : List Int) (ch : Nat) (w : World) (hr : Row w w.heap.size A (ints vs)) (hch : w.heap.size ≤ ch) (hm : vs.length ≤ 100) :
    ∀ (m k : Nat) (wk : World) (s : Nat) (j5 j12 j13 j14 j15 j16 j17 j18 j19 : Value), k + m = vs.length → wk.heap[ch]? = some (.chan vs.length (ints (vs.take k)).toArray false s 0 false) → Below w.heap.size w wk →
      LoneTo Tryz.prog (SEnds cs vs ch w) (G ((base 133).at ⟨#[.slice A vs.length c0, undef, .chan none, .chan (some ch), undef, j5, .slice A vs.length c0, .int .i64 (vs.length : Int), .chan (some ch), .slice A vs.length c0, .int .i64 (vs.length : Int), .int .i64 (k : Int), j12, j13, j14, j15, j16, j17, j18, j19], []⟩ [.code sendBody, .inLoop sendBody, .inBlock 0, .code sendAfter]) cs) wk := by
  intro m
  induction m with
  | zero =>
    intro k wk s j5 j12 j13 j14 j15 j16 j17 j18 j19 hk hc hb
    have hk' : k = vs.length := by omega
    subst hk'
    rw [List.take_length] at hc
    have e1 : decide ((vs.length : Int) < (vs.length : Int)) = false := decide_eq_false (by omega)
    refine LoneTo.goes (n := 40) ?_
    simp only [sendBody, sendAfter, Tryz.f133, Option.getD_some, sndSeq, fstSeq, unBlock, unLoop]
    s_c stepG_seq
    s_reg
    s_op
    s_c stepG_region_end
    s_c stepG_seq
    s_cond false
    s_exit
    s_c stepG_seq
    s_reg
    s_op
    s_in
    refine goes_oper_k rfl rfl (by decide) (fun K hK => ?_)
    have hcl := fun ats ty => run_close_open (P := Tryz.prog) (w := wk) ats ty hc
    go_simp
    refine hK _ _ ⟨trivial, ?_⟩
    clear hK K hcl
    s_c stepG_region_end
    s_c stepG_seq
    s_reg
    s_op
    s_op
    s_c stepG_region_end
    s_c stepG_ret'
    s_stop
    have hl : ch < wk.heap.size := by
      rcases Nat.lt_or_ge ch wk.heap.size with h | h
      · exact h
      · rw [Array.getElem?_eq_none h] at hc; cases hc
    refine LoneTo.done ⟨.returned (.chan (some ch)), _, rfl, ⟨ch, s, 0, rfl, hch, heap_setChan wk ch vs.length (ints vs).toArray true s 0 false hl, below_setChan hb hch vs.length (ints vs).toArray true s 0 false⟩, rfl, rfl, rfl, rfl, _, Tryz.func133, by simp [results, Tryz.f133, Frame.at]⟩
  | succ m ih =>
    intro k wk s j5 j12 j13 j14 j15 j16 j17 j18 j19 hk hc hb
    have hlt : k < vs.length := by omega
    obtain ⟨ad, rfl, hbl, hcell⟩ := (hr.below hb (Nat.le_refl _)).int_ hlt
    have q0 : (0 : Int) ≤ (k : Int) := by omega
    have q1 : (k : Int) < (vs.length : Int) := by omega
    have e1 : decide ((k : Int) < (vs.length : Int)) = true := decide_eq_true q1
    have hw1 : IntKind.i64.wrap ((k : Int) + 1) = ((k + 1 : Nat) : Int) := by rw [IntWalk.i64_in _ (by omega)]; omega
    have e2 : ints (vs.take k) ++ [.int .i64 vs[k]] = ints (vs.take (k + 1)) := by
      unfold ints
      rw [List.take_succ_eq_append_getElem hlt, List.map_append]
      rfl
    refine LoneTo.goes (n := 40) ?_
    simp only [sendBody, sendAfter, Tryz.f133, Option.getD_some, sndSeq, fstSeq, unBlock, unLoop]
    s_c stepG_seq
    s_reg
    s_op
    s_c stepG_region_end
    s_c stepG_seq
    s_cond true
    s_c stepG_skip
    s_c stepG_seq
    s_c stepG_block
    s_c stepG_seq
    s_reg
    s_op
    s_op
    s_op
    s_c stepG_region_end
    s_reg
    s_op
    s_op
    s_stop
    refine LoneTo.step (step_lone_send_room (c := ch) (cap := vs.length) (buf := (ints (vs.take k)).toArray) (s := s) (r := 0) (tm := false) (stepG_comm (cases := #[scase ch (.int .i64 vs[k]) (.tuple #[])]) (blocking := true) (shape := .send) (w' := wk) rfl rfl (by decide) (by simp [execOp, scase, Act.eval])) hc (by simp [ints]; omega)) ?_
    rw [Frame.finish_at]
    walk_nrm
    refine LoneTo.goes (n := 20) ?_
    s_c stepG_region_end
    s_c stepG_inBlock
    s_reg
    s_op
    s_op
    s_c stepG_region_end
    s_c stepG_inLoop
    s_stop
    have hl : ch < wk.heap.size := by
      rcases Nat.lt_or_ge ch wk.heap.size with h | h
      · exact h
      · rw [Array.getElem?_eq_none h] at hc; cases hc
    exact ih (k + 1) _ (s + 1) _ _ _ _ _ _ _ _ _ (by omega) (by exact heap_setChan wk ch vs.length _ false (s + 1) 0 false hl) (below_setChan hb hch _ _ _ _ _ _)
set_option linter.unusedVariables false in
set_option linter.unusedSimpArgs false in
set_option maxRecDepth 100000 in
set_option maxHeartbeats 4000000 in
theorem sendVotes_is (A : Option Addr) (c0 : Nat) (vs : List Int) (w : World) (hr : Row w w.heap.size A (ints vs)) (hm : vs.length ≤ 100) :
    Calls Tryz.prog 133 #[.slice A vs.length c0] w (Sent vs w) := by
  refine calls_of_loneTo (fun cs => ?_) (by rintro _ ⟨_, _, _, h, _⟩; cases h)
  have e : Frame.enter Tryz.prog 133 #[.slice A vs.length c0] .normal = (base 133).at ⟨#[.slice A vs.length c0, undef, undef, undef, undef, undef, undef, undef, undef, undef, undef, undef, undef, undef, undef, undef, undef, undef, undef, undef], []⟩ [.code (Tryz.f133.body.getD .skip)] := by
    simp [Frame.enter, Frame.at, Tryz.func133, base, Tryz.f133]
  rw [e]
  have hmc := mkVotes vs.length hm
  refine LoneTo.goes (n := 60) ?_
  simp only [Tryz.f133, Option.getD_some]
  s_c stepG_seq
  s_reg
  s_op
  s_c stepG_region_end
  s_c stepG_seq
  s_reg
  s_op
  s_op
  s_op
  s_op
  s_c stepG_region_end
  s_c stepG_seq
  s_c stepG_seq
  s_reg
  s_op
  s_op
  s_op
  s_c stepG_region_end
  s_c stepG_block
  s_c stepG_loop
  s_stop
  exact send_loop cs A c0 vs w.heap.size w hr (Nat.le_refl _) hm vs.length 0 _ 0 _ _ _ _ _ _ _ _ _ (by omega) (heap_alloc_new _ _) ((Below.refl _ w).alloc (Nat.le_refl _) _)
set_option linter.unusedVariables false in
/-- Neither for it nor against it nor missing. -/
def wrong (v : Int) : Bool := !(v == 1) && (!(v == -1) && !(v == 0))
set_option linter.unusedVariables false in
/-- Behind it: how many votes are not for it; the channel at ch has been emptied. -/
def Counts (vs : List Int) (ch : Nat) (w : World) (e : Ending) (w' : World) : Prop := e = .returned (.agg #[.int .i64 (vs.count (-1) : Nat), .int .i64 (vs.count 0 : Nat), .int .i64 (vs.countP wrong : Nat)]) ∧ But ch w w'
set_option linter.unusedVariables false in
noncomputable def recvBody : Code := unLoop (unBlock (sndSeq (fstSeq (sndSeq (sndSeq (Tryz.f132.body.getD .skip))))))
set_option linter.unusedVariables false in
noncomputable def recvAfter : Code := sndSeq (sndSeq (sndSeq (Tryz.f132.body.getD .skip)))
set_option linter.unusedVariables false in
def CEnds (cs : List Frame) (R : Ending → World → Prop) (g' : Goroutine) (w' : World) : Prop := ∃ e fr, g' = G fr cs ∧ R e w' ∧ fr.fn = 132 ∧ fr.leaving Tryz.prog w' e
set_option linter.unusedVariables false in
set_option linter.unusedSimpArgs false in
theorem but_chan {w wk : World} {ch : Nat} (h : But ch w wk) (cap : Nat) (buf : Array Value) (cl : Bool) (s r : Nat) (tm : Bool) : But ch w (wk.setChan ch cap buf cl s r tm) :=
  World.grownBy.trans h ⟨rfl, rfl, rfl, by simp [World.setChan], fun k _ hne => by simp only [World.setChan]; rw [Array.getElem?_setIfInBounds_ne (fun e => hne (by rw [e]))]⟩
set_option linter.unusedVariables false in
set_option linter.unusedSimpArgs false in
theorem blk_chan {wk : World} {ch g : Nat} {T : TypeId} {v0 v1 v2 : Value} (h : Blk3s wk g T v0 v1 v2) (hne : g ≠ ch) (cap : Nat) (buf : Array Value) (cl : Bool) (s r : Nat) (tm : Bool) : Blk3s (wk.setChan ch cap buf cl s r tm) g T v0 v1 v2 := by
  unfold Blk3s at h ⊢
  simp only [World.setChan]
  rw [Array.getElem?_setIfInBounds_ne (fun e => hne e.symm)]
  exact h
set_option linter.unusedVariables false in
set_option linter.unusedSimpArgs false in
set_option maxRecDepth 100000 in
set_option maxHeartbeats 16000000 in
theorem count_loop (cs : List Frame) (all : List Int) (ch cap g2 g3 : Nat) (w : World) (hg2 : w.heap.size ≤ g2) (hg23 : g2 ≠ g3) (hg3 : w.heap.size ≤ g3) (hch : ch < w.heap.size) :
    ∀ (vs : List Int) (a m x : Nat) (wk : World) (s r : Nat) (j4 j6 j7 j8 j9 j10 j11 j12 j13 j14 j15 j16 j17 j18 j19 j20 j21 j22 j23 j24 j25 j26 j27 j28 : Value), a + vs.count (-1) = all.count (-1) → m + vs.count 0 = all.count 0 → x + vs.countP wrong = all.countP wrong → a + m + x + vs.length ≤ 1000 → wk.heap[ch]? = some (.chan cap (ints vs).toArray true s r false) →
      Blk3s wk g2 197 (.int .i64 0) (.int .i64 0) (.int .i64 0) → Blk3s wk g3 197 (.int .i64 (a : Nat)) (.int .i64 (m : Nat)) (.int .i64 (x : Nat)) → But ch w wk →
      LoneTo Tryz.prog (CEnds cs (Counts all ch w)) (G ((base 132).at ⟨#[.chan (some ch), undef, .pointer (some ⟨g2, 0, none⟩), .pointer (some ⟨g3, 0, none⟩), j4, .chan (some ch), j6, j7, j8, j9, j10, j11, j12, j13, j14, j15, j16, j17, j18, j19, j20, j21, j22, j23, j24, j25, j26, j27, j28], []⟩ [.code recvBody, .inLoop recvBody, .inBlock 0, .code recvAfter]) cs) wk := by
  intro vs
  induction vs with
  | nil =>
    intro a m x wk s r j4 j6 j7 j8 j9 j10 j11 j12 j13 j14 j15 j16 j17 j18 j19 j20 j21 j22 j23 j24 j25 j26 j27 j28 ha hm hx hs hc h2 h3 hb
    simp only [List.count_nil, List.countP_nil, Nat.add_zero] at ha hm hx
    subst ha
    subst hm
    subst hx
    refine LoneTo.goes (n := 10) ?_
    simp only [recvBody, recvAfter, Tryz.f132, Option.getD_some, sndSeq, fstSeq, unBlock, unLoop]
    s_c stepG_seq
    s_reg
    s_stop
    refine LoneTo.step (step_lone_recv_shut true (c := ch) (z := .int .i64 0) (cap := cap) (s := s) (r := r) (tm := false) (stepG_comm (cases := #[rcase ch (.int .i64 0)]) (blocking := true) (shape := .recv true) (w' := wk) rfl rfl (by decide) (by simp [go_sem, rcase])) hc) ?_
    rw [Frame.finish_at]
    simp only [got]
    walk_nrm
    obtain ⟨y0, y1, y2, -⟩ := id h3.reads
    obtain ⟨z0, z1, z2, zf⟩ := id h2.reads
    have zf0 := zf 0
    have zf1 := zf 1
    have zf2 := zf 2
    refine LoneTo.goes (n := 40) ?_
    s_op
    s_c stepG_region_end
    s_c stepG_seq
    s_cond false
    s_exit
    s_c stepG_seq
    s_reg
    s_op
    s_op
    s_c stepG_region_end
    s_c stepG_ret'
    s_stop
    obtain ⟨p0, p1, p2, -⟩ := (((h2.set0 (.int .i64 (all.count (-1) : Nat))).set1 (.int .i64 (all.count 0 : Nat))).set2 (.int .i64 (all.countP wrong : Nat))).reads
    refine LoneTo.done ⟨.returned (.agg #[.int .i64 (all.count (-1) : Nat), .int .i64 (all.count 0 : Nat), .int .i64 (all.countP wrong : Nat)]), _, rfl, ⟨rfl, ((hb.set_new hg2 0 _).set_new hg2 1 _).set_new hg2 2 _⟩, rfl, rfl, rfl, rfl, _, Tryz.func132, by simp [results, Tryz.f132, Frame.at, go_sem, p0, p1, p2]⟩
  | cons v vs ih =>
    intro a m x wk s r j4 j6 j7 j8 j9 j10 j11 j12 j13 j14 j15 j16 j17 j18 j19 j20 j21 j22 j23 j24 j25 j26 j27 j28 ha hm hx hs hc h2 h3 hb
    have hl : ch < wk.heap.size := by
      rcases Nat.lt_or_ge ch wk.heap.size with h | h
      · exact h
      · rw [Array.getElem?_eq_none h] at hc; cases hc
    refine LoneTo.goes (n := 10) ?_
    simp only [recvBody, recvAfter, Tryz.f132, Option.getD_some, sndSeq, fstSeq, unBlock, unLoop]
    s_c stepG_seq
    s_reg
    s_stop
    refine LoneTo.step (step_lone_recv_buf true (c := ch) (z := .int .i64 0) (cap := cap) (s := s) (r := r) (tm := false) (stepG_comm (cases := #[rcase ch (.int .i64 0)]) (blocking := true) (shape := .recv true) (w' := wk) rfl rfl (by decide) (by simp [go_sem, rcase])) hc (by simp [ints])) ?_
    rw [Frame.finish_at]
    have eb : (ints (v :: vs)).toArray.getD 0 undef = .int .i64 v := by simp [ints]
    have ex : (ints (v :: vs)).toArray.extract 1 (ints (v :: vs)).toArray.size = (ints vs).toArray := by simp [ints, List.take_of_length_le]
    rw [eb, ex]
    simp only [got]
    walk_nrm
    have hc2 := heap_setChan wk ch cap (ints vs).toArray true s (r + 1) false hl
    have hb2 := but_chan hb cap (ints vs).toArray true s (r + 1) false
    have b2 := blk_chan (ch := ch) h2 (by omega) cap (ints vs).toArray true s (r + 1) false
    have b3 := blk_chan (ch := ch) h3 (by omega) cap (ints vs).toArray true s (r + 1) false
    obtain ⟨W, hW⟩ : ∃ W, wk.setChan ch cap (ints vs).toArray true s (r + 1) false = W := ⟨_, rfl⟩
    rw [hW] at hc2 hb2 b2 b3 ⊢
    clear hW hc h2 h3 hb eb ex hl
    rw [List.count_cons] at ha hm
    rw [List.countP_cons] at hx
    rw [List.length_cons] at hs
    obtain ⟨y0, y1, y2, yf⟩ := id b3.reads
    have yf0 := yf 0
    have yf1 := yf 1
    have yf2 := yf 2
    by_cases v1 : v = 1
    · subst v1
      refine LoneTo.goes (n := 60) ?_
      s_op
      s_c stepG_region_end
      s_c stepG_seq
      s_cond true
      s_c stepG_skip
      s_c stepG_block
      s_c stepG_seq
      s_reg
      s_op
      s_op
      s_c stepG_region_end
      s_c stepG_seq
      s_reg
      s_op
      s_c stepG_region_end
      s_c stepG_block
      s_c stepG_seq
      s_reg
      s_op
      s_op
      s_c stepG_region_end
      s_cond true
      s_c stepG_skip
      s_c stepG_inBlock
      s_c stepG_inBlock
      s_c stepG_inLoop
      s_stop
      exact ih a m x W s (r + 1) _ _ _ _ _ _ _ _ _ _ _ _ _ _ _ _ _ _ _ _ _ _ _ _ (by simpa using ha) (by simpa using hm) (by simpa [wrong] using hx) (by omega) hc2 b2 b3 hb2
    · have e1 : (v == 1) = false := by rw [beq_eq_false_iff_ne]; exact v1
      by_cases v2 : v = -1
      · subst v2
        have hw : IntKind.i64.wrap ((a : Int) + 1) = ((a + 1 : Nat) : Int) := by rw [IntWalk.i64_in _ (by omega)]; omega
        refine LoneTo.goes (n := 60) ?_
        s_op
        s_c stepG_region_end
        s_c stepG_seq
        s_cond true
        s_c stepG_skip
        s_c stepG_block
        s_c stepG_seq
        s_reg
        s_op
        s_op
        s_c stepG_region_end
        s_c stepG_seq
        s_reg
        s_op
        s_c stepG_region_end
        s_c stepG_block
        s_c stepG_seq
        s_reg
        s_op
        s_op
        s_c stepG_region_end
        s_cond false
        s_c stepG_seq
        s_reg
        s_op
        s_op
        s_c stepG_region_end
        s_cond true
        s_reg
        s_op
        s_op
        s_op
        s_op
        s_op
        s_c stepG_region_end
        s_c stepG_inBlock
        s_c stepG_inBlock
        s_c stepG_inLoop
        s_stop
        exact ih (a + 1) m x _ s (r + 1) _ _ _ _ _ _ _ _ _ _ _ _ _ _ _ _ _ _ _ _ _ _ _ _ (by simp at ha; omega) (by simpa using hm) (by simpa [wrong] using hx) (by omega) ((Below.heap_setCell _ _ _ ch (by show ch ≠ g3; omega)).trans hc2) (b2.far hg23 _) (b3.set0 _) (hb2.set_new hg3 0 _)
      · have e2 : (v == -1) = false := by rw [beq_eq_false_iff_ne]; exact v2
        by_cases v3 : v = 0
        · subst v3
          have hw : IntKind.i64.wrap ((m : Int) + 1) = ((m + 1 : Nat) : Int) := by rw [IntWalk.i64_in _ (by omega)]; omega
          refine LoneTo.goes (n := 70) ?_
          s_op
          s_c stepG_region_end
          s_c stepG_seq
          s_cond true
          s_c stepG_skip
          s_c stepG_block
          s_c stepG_seq
          s_reg
          s_op
          s_op
          s_c stepG_region_end
          s_c stepG_seq
          s_reg
          s_op
          s_c stepG_region_end
          s_c stepG_block
          s_c stepG_seq
          s_reg
          s_op
          s_op
          s_c stepG_region_end
          s_cond false
          s_c stepG_seq
          s_reg
          s_op
          s_op
          s_c stepG_region_end
          s_cond false
          s_c stepG_seq
          s_reg
          s_op
          s_op
          s_c stepG_region_end
          s_cond true
          s_reg
          s_op
          s_op
          s_op
          s_op
          s_op
          s_c stepG_region_end
          s_c stepG_inBlock
          s_c stepG_inBlock
          s_c stepG_inLoop
          s_stop
          exact ih a (m + 1) x _ s (r + 1) _ _ _ _ _ _ _ _ _ _ _ _ _ _ _ _ _ _ _ _ _ _ _ _ (by simpa using ha) (by simp at hm; omega) (by simpa [wrong] using hx) (by omega) ((Below.heap_setCell _ _ _ ch (by show ch ≠ g3; omega)).trans hc2) (b2.far hg23 _) (b3.set1 _) (hb2.set_new hg3 1 _)
        · have e3 : (v == 0) = false := by rw [beq_eq_false_iff_ne]; exact v3
          have hw : IntKind.i64.wrap ((x : Int) + 1) = ((x + 1 : Nat) : Int) := by rw [IntWalk.i64_in _ (by omega)]; omega
          have e9 : wrong v = true := by unfold wrong; rw [e1, e2, e3]; rfl
          refine LoneTo.goes (n := 70) ?_
          s_op
          s_c stepG_region_end
          s_c stepG_seq
          s_cond true
          s_c stepG_skip
          s_c stepG_block
          s_c stepG_seq
          s_reg
          s_op
          s_op
          s_c stepG_region_end
          s_c stepG_seq
          s_reg
          s_op
          s_c stepG_region_end
          s_c stepG_block
          s_c stepG_seq
          s_reg
          s_op
          s_op
          s_c stepG_region_end
          s_cond false
          s_c stepG_seq
          s_reg
          s_op
          s_op
          s_c stepG_region_end
          s_cond false
          s_c stepG_seq
          s_reg
          s_op
          s_op
          s_c stepG_region_end
          s_cond false
          s_reg
          s_op
          s_op
          s_op
          s_op
          s_op
          s_c stepG_region_end
          s_c stepG_inBlock
          s_c stepG_inBlock
          s_c stepG_inLoop
          s_stop
          exact ih a m (x + 1) _ s (r + 1) _ _ _ _ _ _ _ _ _ _ _ _ _ _ _ _ _ _ _ _ _ _ _ _ (by rw [if_neg (by simpa using v2)] at ha; simpa using ha) (by rw [if_neg (by simpa using v3)] at hm; simpa using hm) (by rw [e9] at hx; simp at hx; omega) (by omega) ((Below.heap_setCell _ _ _ ch (by show ch ≠ g3; omega)).trans hc2) (b2.far hg23 _) (b3.set2 _) (hb2.set_new hg3 2 _)
set_option linter.unusedVariables false in
set_option linter.unusedSimpArgs false in
set_option maxRecDepth 100000 in
set_option maxHeartbeats 4000000 in
theorem countVotes_is (vs : List Int) (ch cap s r : Nat) (w : World) (hc : w.heap[ch]? = some (.chan cap (ints vs).toArray true s r false)) (hm : vs.length ≤ 100) :
    Calls Tryz.prog 132 #[.chan (some ch)] w (Counts vs ch w) := by
  refine calls_of_loneTo (fun cs => ?_) (by rintro _ ⟨h, _⟩; cases h)
  have hl : ch < w.heap.size := by
    rcases Nat.lt_or_ge ch w.heap.size with h | h
    · exact h
    · rw [Array.getElem?_eq_none h] at hc; cases hc
  have e : Frame.enter Tryz.prog 132 #[.chan (some ch)] .normal = (base 132).at ⟨#[.chan (some ch), undef, undef, undef, undef, undef, undef, undef, undef, undef, undef, undef, undef, undef, undef, undef, undef, undef, undef, undef, undef, undef, undef, undef, undef, undef, undef, undef, undef], []⟩ [.code (Tryz.f132.body.getD .skip)] := by
    simp [Frame.enter, Frame.at, Tryz.func132, base, Tryz.f132]
  rw [e]
  refine LoneTo.goes (n := 40) ?_
  simp only [Tryz.f132, Option.getD_some]
  s_c stepG_seq
  s_reg
  s_op
  s_c stepG_region_end
  s_c stepG_seq
  s_reg
  s_op
  s_c stepG_region_end
  s_c stepG_seq
  s_c stepG_seq
  s_reg
  s_op
  s_c stepG_region_end
  s_c stepG_block
  s_c stepG_loop
  s_stop
  have al := (Below.refl w.heap.size w).alloc (Nat.le_refl _) (.cells #[.int .i64 0, .int .i64 0, .int .i64 0] 197)
  have al2 := al.alloc al.size (.cells #[.int .i64 0, .int .i64 0, .int .i64 0] 197)
  have x0 := (Blk3s.new_ w 197 (.int .i64 0) (.int .i64 0) (.int .i64 0)).alloc (.cells #[.int .i64 0, .int .i64 0, .int .i64 0] 197)
  have x1 := Blk3s.new_ (w.alloc (.cells #[.int .i64 0, .int .i64 0, .int .i64 0] 197)) 197 (.int .i64 0) (.int .i64 0) (.int .i64 0)
  rw [World.size_alloc] at x1
  exact count_loop cs vs ch cap w.heap.size (w.heap.size + 1) w (Nat.le_refl _) (by omega) (by omega) hl vs 0 0 0 _ s r _ _ _ _ _ _ _ _ _ _ _ _ _ _ _ _ _ _ _ _ _ _ _ _ (by omega) (by omega) (by omega) (by omega) ((al2.block ch hl).trans hc) x0 x1 (.of_below al2)
end Go.Proofs.YteaibflloeipaaaGreatDoor
/- Laws on coordinators: a coordinator is boxed. -/
/- On to the world behind D. -/
/- An exact law begins: the argument's box, its size, a copy for the model. -/
/- The program's own copy of the argument is boxed. -/
/- The program's copy is as the argument; the region draws. -/
/- Laws on functions that answer numbers. -/
/- What the boxes hold is read again. -/
/- The coordinator with the slices P4 and P5 is boxed as P6, in block P7, behind it the world P3; ahead of region P1. -/
/- The draw, the program's answer, the model's, and that they are the same: behind it w5, all facts on it by way of dx. -/
/-
  Walks: which parts and transactions are valid, by the model.
-/
namespace Go.Proofs.YteaibflloeipaaaGreatDoor
open Go.RowKit Wo Pu Rf Lk Co

theorem pv_no {ps : List Part} {b : Bool} {k : Nat} (hb : b = true ↔ PartsV ps) (hk : k < ps.length) (h : ¬ ((0 ≤ ps[k].s ∧ ps[k].s ≤ 2) ∧ UV ps[k].us ∧ ∀ j (hj : j < ps.length), j + 1 = k → ps[j].s < ps[k].s)) : b = false := by
  rw [← Bool.not_eq_true]
  exact fun e => h ((partsV_iff.1 (hb.1 e)).2 k hk hk)
set_option maxRecDepth 100000 in
set_option maxHeartbeats 4000000 in
theorem l22Parts_is (b : Bool) (A : Option Addr) (c : Nat) (ps : List Part) (w : World) (h : Parts w w.heap.size A ps) (hm : ps.length ≤ 1048600) (hu : ∀ p ∈ ps, p.us.length ≤ 1048600) (hb : b = true ↔ PartsV ps) :
    Calls Tryz.prog 106 #[.slice A ps.length c] w (Ret (.bool b) w) := by
  have HB := hid hb
  have HU := hid hu
  clear hb hu
  go_enter Tryz.func106, Tryz.ntmps106
  go_wp2_with fail
  go_loopw [3] (fun i wr => ∃ k : Nat, k ≤ ps.length ∧ i = .int .i64 k ∧ Hid (PGood ps k) ∧ Below w.heap.size w wr) (fun i _ => ps.length - (intOf i).toNat)
  case atStart => exact ⟨0, Nat.zero_le _, rfl, .zero ps, Below.refl _ _⟩
  case round =>
    obtain ⟨k, hk, rfl, H, hbr⟩ := hrel
    have hz := hbr.size
    by_cases hlt : k < ps.length
    · have hp := h.on hbr
      obtain ⟨p, ad, A', c', ho, rfl, had, g0, g1, -, g3⟩ := hp.part hlt
      have hul := HU.out p (by rw [← ho]; exact List.getElem_mem hlt)
      have k0 : (0 : Int) ≤ (k : Int) := by omega
      have k1 : (k : Int) < (ps.length : Int) := by omega
      have L0 := Later.cell g0 had
      have L1 := Later.cell (p := ⟨(ad.add (k * 2)).block, (ad.add (k * 2)).off + 1, none⟩) g1 had
      obtain ⟨br, hr3⟩ := bool_of (0 ≤ p.s ∧ p.s ≤ 2)
      obtain ⟨bu, hu3⟩ := bool_of (UV p.us)
      have CR : Hid (∀ x, Calls Tryz.prog 44 #[.int .i64 p.s, .int .i64 0, .int .i64 2] x (Ret (.bool br) x)) := fun x => (l6In_is br _ _ _ x hr3).mono fun _ _ h => h.ret
      have CU : Hid (∀ x, Row x x.heap.size A' (upsV p.us) → Calls Tryz.prog 103 #[.slice A' p.us.length c'] x (Ret (.bool bu) x)) := fun x hx => specUpdatesValid_is bu A' c' p.us x hx hul hu3
      clear g0 g1
      cases br with
      | false =>
        have F := hid (pv_no HB.out hlt (fun h => by have := hr3.2 (ho ▸ h.1); cases this))
        clear H hr3 hu3 ho
        go_wp2_with fail
        refine wp_region_later wr.heap.size (by kernel_rfl) (by kernel_rfl) ?_
        repeat (go_big_quiet_step ((first | (go_at_call 44; exact Later.call (Nat.le_refl _) _ (CR.out _)) | (go_at_call 103; exact Later.call (Nat.le_refl _) _ (CU.out _ ((Wo.Row.later g3 _).more (Later.size (Nat.le_refl _) _)))))))
        refine wpQuiet_nil ?_
        intro _ hw'
        obtain ⟨xx, hxx⟩ := hw'
        have hbx := xx.b
        subst hxx
        go_wp2
        go_ret
        rw [F.out]
        exact .mk_ (hbr.trans (hbx.mono hz))
      | true =>
        cases bu with
        | false =>
          have F := hid (pv_no HB.out hlt (fun h => by have := hu3.2 (ho ▸ h.2.1); cases this))
          clear H hr3 hu3 ho
          go_wp2_with fail
          refine wp_region_later wr.heap.size (by kernel_rfl) (by kernel_rfl) ?_
          repeat (go_big_quiet_step ((first | (go_at_call 44; exact Later.call (Nat.le_refl _) _ (CR.out _)) | (go_at_call 103; exact Later.call (Nat.le_refl _) _ (CU.out _ ((Wo.Row.later g3 _).more (Later.size (Nat.le_refl _) _)))))))
          refine wpQuiet_nil ?_
          intro _ hw'
          obtain ⟨xx, hxx⟩ := hw'
          have hbx := xx.b
          subst hxx
          go_wp2
          go_ret
          rw [F.out]
          exact .mk_ (hbr.trans (hbx.mono hz))
        | true =>
          have g1 : 0 ≤ ps[k].s ∧ ps[k].s ≤ 2 := by rw [ho]; exact hr3.1 rfl
          have g2 : UV ps[k].us := by rw [ho]; exact hu3.1 rfl
          by_cases hk0 : k = 0
          · have e5 : decide ((0 : Int) < (k : Int)) = false := decide_eq_false (by omega)
            have e6 : decide (0 < k) = false := decide_eq_false (by omega)
            have HN := hid (H.out.succ hlt g1 g2 (fun j _ e => by omega))
            clear H hr3 hu3 ho g1 g2 hk0
            go_wp2_with fail
            refine wp_region_later wr.heap.size (by kernel_rfl) (by kernel_rfl) ?_
            repeat (go_big_quiet_step ((first | (go_at_call 44; exact Later.call (Nat.le_refl _) _ (CR.out _)) | (go_at_call 103; exact Later.call (Nat.le_refl _) _ (CU.out _ ((Wo.Row.later g3 _).more (Later.size (Nat.le_refl _) _)))))))
            refine wpQuiet_nil ?_
            intro _ hw'
            obtain ⟨xx, hxx⟩ := hw'
            have hbx := xx.b
            subst hxx
            go_wp2
            go_roundw
            case rel => exact ⟨k + 1, by omega, by go_num, HN, hbr.trans (hbx.mono hz)⟩
            case measure => simp [intOf]; omega
          · obtain ⟨m, rfl⟩ : ∃ m, k = m + 1 := ⟨k - 1, by omega⟩
            obtain ⟨p', ad', _, _, ho', e', ha', p0, -, -, -⟩ := hp.part (k := m) (by omega)
            injection e' with e'
            subst e'
            have LP := Later.cell p0 ha'
            have e5 : decide ((0 : Int) < ((m + 1 : Nat) : Int)) = true := decide_eq_true (by omega)
            have q1 : IntKind.i64.wrap (((m + 1 : Nat) : Int) - 1) = (m : Int) := by rw [IntWalk.i64_in _ (by omega)]; omega
            have q2 : ((m + 1 : Nat) : Int) - 1 = (m : Int) := by omega
            have q3 : (m : Int) < (ps.length : Int) := by omega
            have q4 : (0 : Int) ≤ (m : Int) := by omega
            by_cases hord : p'.s < p.s
            · have e6 : decide (p.s ≤ p'.s) = false := decide_eq_false (by omega)
              have HN := hid (H.out.succ hlt g1 g2 (fun j hj e => by
                have : j = m := by omega
                subst this
                rw [ho', ho]
                exact hord))
              clear H hr3 hu3 ho ho' g1 g2 hk0 p0
              go_wp2_with fail
              refine wp_region_later wr.heap.size (by kernel_rfl) (by kernel_rfl) ?_
              repeat (go_big_quiet_step ((first | (go_at_call 44; exact Later.call (Nat.le_refl _) _ (CR.out _)) | (go_at_call 103; exact Later.call (Nat.le_refl _) _ (CU.out _ ((Wo.Row.later g3 _).more (Later.size (Nat.le_refl _) _)))))))
              refine wpQuiet_nil ?_
              intro _ hw'
              obtain ⟨xx, hxx⟩ := hw'
              have hbx := xx.b
              subst hxx
              go_wp2
              go_roundw
              case rel => exact ⟨m + 1 + 1, by omega, by go_num, HN, hbr.trans (hbx.mono hz)⟩
              case measure => simp [intOf]; omega
            · have e6 : decide (p.s ≤ p'.s) = true := decide_eq_true (by omega)
              have F := hid (pv_no HB.out hlt (fun h => by
                have := h.2.2 m (by omega) rfl
                rw [ho', ho] at this
                exact hord this))
              clear H hr3 hu3 ho ho' g1 g2 hk0 p0
              go_wp2_with fail
              refine wp_region_later wr.heap.size (by kernel_rfl) (by kernel_rfl) ?_
              repeat (go_big_quiet_step ((first | (go_at_call 44; exact Later.call (Nat.le_refl _) _ (CR.out _)) | (go_at_call 103; exact Later.call (Nat.le_refl _) _ (CU.out _ ((Wo.Row.later g3 _).more (Later.size (Nat.le_refl _) _)))))))
              refine wpQuiet_nil ?_
              intro _ hw'
              obtain ⟨xx, hxx⟩ := hw'
              have hbx := xx.b
              subst hxx
              go_wp2
              go_ret
              rw [F.out]
              exact .mk_ (hbr.trans (hbx.mono hz))
    · have hk' : k = ps.length := by omega
      subst hk'
      by_cases h0 : ps.length = 0
      · have F : Hid (b = false) := by
          show b = false
          rw [← Bool.not_eq_true]
          exact fun e => (HB.out.1 e).1 (List.eq_nil_of_length_eq_zero h0)
        have e0 : decide (0 < (ps.length : Int)) = false := decide_eq_false (by omega)
        have e1 : decide (0 < ps.length) = false := decide_eq_false (by omega)
        clear h0 H
        go_wp2
        go_ret
        rw [F.out]
        exact .mk_ hbr
      · have F : Hid (b = true) := HB.out.2 (partsV_iff.2 ⟨fun e => h0 (by rw [e]; rfl), H.out⟩)
        have e0 : decide (0 < (ps.length : Int)) = true := decide_eq_true (by omega)
        have e1 : decide (0 < ps.length) = true := decide_eq_true (by omega)
        clear h0 H
        go_wp2
        go_ret
        rw [F.out]
        exact .mk_ hbr
theorem bool_ofP' (p : Prop) : ∃ b : Bool, b = true ↔ p := by
  by_cases h : p
  · exact ⟨true, fun _ => h, fun _ => rfl⟩
  · exact ⟨false, fun e => (by cases e), fun e => absurd e h⟩
theorem cnt_succ {vs : List Int} {k : Nat} (a : Int) (hk : k < vs.length) : (vs.take (k + 1)).count a = (vs.take k).count a + if vs[k] = a then 1 else 0 := by
  rw [List.take_succ_eq_append_getElem hk, List.count_append, List.count_singleton]
  congr 1
  by_cases e : vs[k] = a
  · rw [if_pos (by simpa using e), if_pos e]
  · rw [if_neg (by simpa using e), if_neg e]
/-- The first k votes are votes. -/
def VGood (vs : List Int) (k : Nat) : Prop := ∀ v ∈ vs.take k, -1 ≤ v ∧ v ≤ 1
theorem VGood.zero (vs : List Int) : VGood vs 0 := fun _ h => by simp at h
theorem VGood.succ {vs : List Int} {k : Nat} (h : VGood vs k) (hk : k < vs.length) (h1 : -1 ≤ vs[k] ∧ vs[k] ≤ 1) : VGood vs (k + 1) := fun v hv => by
  rw [List.take_succ_eq_append_getElem hk] at hv
  rcases List.mem_append.1 hv with h2 | h2
  · exact h v h2
  · rw [List.mem_singleton.1 h2]; exact h1
set_option linter.unusedSimpArgs false in
set_option maxRecDepth 100000 in
set_option maxHeartbeats 4000000 in
theorem l22Txn_is (b : Bool) (A : Option Addr) (c : Nat) (A2 : Option Addr) (c2 : Nat) (t : Tx) (w : World) (h1 : Parts w w.heap.size A t.ps) (h2 : Row w w.heap.size A2 (ints t.vs)) (hm : t.ps.length ≤ 1048600) (hv : t.vs.length ≤ 1048600) (hu : ∀ p ∈ t.ps, p.us.length ≤ 1048600) (hb : b = true ↔ TxV t) :
    Calls Tryz.prog 76 #[.agg #[.slice A t.ps.length c, .slice A2 t.vs.length c2, .int .i64 t.d]] w (Ret (.bool b) w) := by
  have HB : Hid (b = true ↔ _) := hb.trans txV_iff
  have HU := hid hu
  have al := (Below.refl w.heap.size w).alloc (Nat.le_refl _) (.cells #[.slice A t.ps.length c, .slice A2 t.vs.length c2, .int .i64 t.d] 33)
  have x0 := Blk3s.new_ w 33 (.slice A t.ps.length c) (.slice A2 t.vs.length c2) (.int .i64 t.d)
  obtain ⟨w1, hw1⟩ : ∃ x, w.alloc (.cells #[.slice A t.ps.length c, .slice A2 t.vs.length c2, .int .i64 t.d] 33) = x := ⟨_, rfl⟩
  rw [hw1] at al x0
  have r1 := h1.on al
  have r2 := (h2.below al (Nat.le_refl _)).more al.size
  obtain ⟨y0, y1, y2, -⟩ := id x0.reads
  clear h1 h2 hb hu
  go_enter Tryz.func76, Tryz.ntmps76
  go_wp2_with fail
  go_loopw [3, 4, 5] (fun y n i wr => ∃ k : Nat, k ≤ t.vs.length ∧ i = .int .i64 k ∧ y = .int .i64 ((t.vs.take k).count 1 : Nat) ∧ n = .int .i64 ((t.vs.take k).count (-1) : Nat) ∧ Hid (VGood t.vs k) ∧ w1 = wr) (fun _ _ i _ => t.vs.length - (intOf i).toNat)
  case atStart => exact ⟨0, Nat.zero_le _, rfl, rfl, rfl, .zero _, rfl⟩
  case round =>
    obtain ⟨k, hk, rfl, rfl, rfl, H, rfl⟩ := hrel
    have hY : (t.vs.take k).count 1 ≤ k := Nat.le_trans List.count_le_length (by rw [List.length_take]; omega)
    have hN : (t.vs.take k).count (-1) ≤ k := Nat.le_trans List.count_le_length (by rw [List.length_take]; omega)
    by_cases hlt : k < t.vs.length
    · obtain ⟨ad, e2, hbl, hc⟩ := r2.int_ hlt
      have HS1 := hid (cnt_succ 1 hlt)
      have HS2 := hid (cnt_succ (-1) hlt)
      obtain ⟨Y, hYY⟩ : ∃ Y, (t.vs.take k).count 1 = Y := ⟨_, rfl⟩
      obtain ⟨N, hNN⟩ : ∃ N, (t.vs.take k).count (-1) = N := ⟨_, rfl⟩
      obtain ⟨v, hvv⟩ : ∃ v, t.vs[k] = v := ⟨_, rfl⟩
      have HV := hid hvv
      rw [hYY, hvv] at HS1
      rw [hNN, hvv] at HS2
      rw [hYY] at hY ⊢
      rw [hNN] at hN ⊢
      rw [hvv] at hc
      subst e2
      have k0 : (0 : Int) ≤ (k : Int) := by omega
      have k1 : (k : Int) < (t.vs.length : Int) := by omega
      obtain ⟨br, hr3⟩ := bool_of (-1 ≤ v ∧ v ≤ 1)
      have CR := hid (l6In_is br v (-1) 1 w1 hr3)
      clear hYY hNN
      go_wp2_with fail
      refine CR.out.mono ?_
      rintro e w2 ⟨rfl, rfl⟩
      clear CR
      cases br with
      | false =>
        have F : Hid (b = false) := by
          show b = false
          rw [← Bool.not_eq_true]
          exact fun e => by have := hr3.2 (by rw [← hvv]; exact (HB.out.1 e).1 _ (List.getElem_mem hlt)); cases this
        clear hr3 hvv
        go_wp2
        go_ret
        rw [F.out]
        exact .mk_ al
      | true =>
        have HN := hid (H.out.succ hlt (by rw [hvv]; exact hr3.1 rfl))
        clear hr3 hvv H
        by_cases v1 : v = 1
        · subst v1
          have HS1' : Hid ((t.vs.take (k + 1)).count 1 = Y + 1) := by show _ = _; rw [HS1.out, if_pos rfl]
          have HS2' : Hid ((t.vs.take (k + 1)).count (-1) = N) := by show _ = _; rw [HS2.out, if_neg (by decide)]; rfl
          clear HS1 HS2
          go_wp2
          go_roundw
          case rel => exact ⟨k + 1, by omega, by go_num, by rw [HS1'.out]; go_num, by rw [HS2'.out], HN, by first | rfl | trivial⟩
          case measure => simp [intOf]; omega
        · by_cases v2 : v = -1
          · subst v2
            have HS1' : Hid ((t.vs.take (k + 1)).count 1 = Y) := by show _ = _; rw [HS1.out, if_neg (by decide)]; rfl
            have HS2' : Hid ((t.vs.take (k + 1)).count (-1) = N + 1) := by show _ = _; rw [HS2.out, if_pos rfl]
            clear HS1 HS2 v1
            go_wp2
            go_roundw
            case rel => exact ⟨k + 1, by omega, by go_num, by rw [HS1'.out], by rw [HS2'.out]; go_num, HN, by first | rfl | trivial⟩
            case measure => simp [intOf]; omega
          · have e5 : (v == 1) = false := by rw [beq_eq_false_iff_ne]; exact v1
            have e6 : (v == -1) = false := by rw [beq_eq_false_iff_ne]; exact v2
            have HS1' : Hid ((t.vs.take (k + 1)).count 1 = Y) := by show _ = _; rw [HS1.out, if_neg v1]; rfl
            have HS2' : Hid ((t.vs.take (k + 1)).count (-1) = N) := by show _ = _; rw [HS2.out, if_neg v2]; rfl
            clear v1 v2 HS1 HS2
            go_wp2
            go_roundw
            case rel => exact ⟨k + 1, by omega, by go_num, by rw [HS1'.out], by rw [HS2'.out], HN, by first | rfl | trivial⟩
            case measure => simp [intOf]; omega
    · have hk' : k = t.vs.length := by omega
      subst hk'
      have HG : Hid (∀ v ∈ t.vs, -1 ≤ v ∧ v ≤ 1) := by
        have := H.out
        unfold VGood at this
        rwa [List.take_length] at this
      rw [List.take_length] at hY hN ⊢
      obtain ⟨dd, hdd⟩ : ∃ dd, t.d = dd := ⟨_, rfl⟩
      obtain ⟨Y, hYY⟩ : ∃ Y, t.vs.count 1 = Y := ⟨_, rfl⟩
      obtain ⟨N, hNN⟩ : ∃ N, t.vs.count (-1) = N := ⟨_, rfl⟩
      rw [hYY, hNN, hdd] at HB
      rw [hYY] at hY ⊢
      rw [hNN] at hN ⊢
      rw [hdd] at x0
      obtain ⟨bp, hbp⟩ := bool_ofP' (PartsV t.ps)
      have CP := hid (l22Parts_is bp A c t.ps w1 r1 hm HU.out hbp)
      have HBP := hid hbp
      clear hbp hYY hNN hdd H y2 r1 r2 hw1
      go_wp2_with fail
      refine CP.out.mono ?_
      rintro e w2 ⟨rfl, d2⟩
      have al2 := al.trans (d2.mono al.size)
      clear y0 y1 CP
      obtain ⟨y0, y1, y2, -⟩ := id (x0.later d2).reads
      have no : b ≠ true → b = false := fun h => by cases b; rfl; exact absurd rfl h
      cases bp with
      | false =>
        have F : Hid (b = false) := no fun e => by have := HBP.out.2 (HB.out.1 e).2.1; cases this
        clear no
        go_wp2
        go_ret
        rw [F.out]
        exact .mk_ al2
      | true =>
        by_cases hl : t.vs.length = t.ps.length
        · have e1 : ((t.vs.length : Int) != (t.ps.length : Int)) = false := by rw [bne_eq_false_iff_eq]; omega
          have HQ : Hid (b = true ↔ ((dd = 0 ∧ N = 0 ∧ Y < t.vs.length) ∨ (dd = 2 ∧ Y = t.vs.length) ∨ (dd = 3 ∧ Y < t.vs.length))) :=
            ⟨fun e => (HB.out.1 e).2.2.2, fun e => HB.out.2 ⟨HG.out, HBP.out.1 rfl, hl, e⟩⟩
          have e2 : (t.vs.length != t.ps.length) = false := by rw [bne_eq_false_iff_eq]; exact hl
          clear hl HB
          by_cases h0 : dd = 0
          · subst h0
            by_cases hn : N = 0
            · subst hn
              by_cases hy : Y < t.vs.length
              · skip
                have e3 : decide ((Y : Int) < (t.vs.length : Int)) = true := decide_eq_true (by omega)
                have e4 : decide (Y < t.vs.length) = true := decide_eq_true hy
                have F : Hid (b = true) := HQ.out.2 (.inl ⟨rfl, rfl, hy⟩)
                clear no hy
                go_wp2
                go_ret
                rw [F.out]
                exact .mk_ al2
              · skip
                have e3 : decide ((Y : Int) < (t.vs.length : Int)) = false := decide_eq_false (by omega)
                have e4 : decide (Y < t.vs.length) = false := decide_eq_false hy
                have F : Hid (b = false) := no fun e => by have := HQ.out.1 e; omega
                clear no hy
                go_wp2
                go_ret
                rw [F.out]
                exact .mk_ al2
            · have e5 : ((N : Int) == 0) = false := by rw [beq_eq_false_iff_ne]; omega
              have e6 : (N == 0) = false := by rw [beq_eq_false_iff_ne]; exact hn
              have F : Hid (b = false) := no fun e => by have := HQ.out.1 e; omega
              clear no hn
              go_wp2
              go_ret
              rw [F.out]
              exact .mk_ al2
          · have d0 : (dd == 0) = false := by rw [beq_eq_false_iff_ne]; exact h0
            by_cases h2 : dd = 2
            · subst h2
              by_cases hy : Y = t.vs.length
              · have e3 : ((Y : Int) == (t.vs.length : Int)) = true := by rw [beq_iff_eq]; omega
                have e4 : (Y == t.vs.length) = true := by rw [beq_iff_eq]; exact hy
                have F : Hid (b = true) := HQ.out.2 (.inr (.inl ⟨rfl, hy⟩))
                clear no hy h0
                go_wp2
                go_ret
                rw [F.out]
                exact .mk_ al2
              · have e3 : ((Y : Int) == (t.vs.length : Int)) = false := by rw [beq_eq_false_iff_ne]; omega
                have e4 : (Y == t.vs.length) = false := by rw [beq_eq_false_iff_ne]; exact hy
                have F : Hid (b = false) := no fun e => by have := HQ.out.1 e; omega
                clear no hy h0
                go_wp2
                go_ret
                rw [F.out]
                exact .mk_ al2
            · have d2' : (dd == 2) = false := by rw [beq_eq_false_iff_ne]; exact h2
              by_cases h3 : dd = 3
              · subst h3
                by_cases hy : Y < t.vs.length
                · skip
                  have e3 : decide ((Y : Int) < (t.vs.length : Int)) = true := decide_eq_true (by omega)
                  have e4 : decide (Y < t.vs.length) = true := decide_eq_true hy
                  have F : Hid (b = true) := HQ.out.2 (.inr (.inr ⟨rfl, hy⟩))
                  clear no hy
                  go_wp2
                  go_ret
                  rw [F.out]
                  exact .mk_ al2
                · skip
                  have e3 : decide ((Y : Int) < (t.vs.length : Int)) = false := decide_eq_false (by omega)
                  have e4 : decide (Y < t.vs.length) = false := decide_eq_false hy
                  have F : Hid (b = false) := no fun e => by have := HQ.out.1 e; omega
                  clear no hy
                  go_wp2
                  go_ret
                  rw [F.out]
                  exact .mk_ al2
              · have d3 : (dd == 3) = false := by rw [beq_eq_false_iff_ne]; exact h3
                have F : Hid (b = false) := no fun e => by have := HQ.out.1 e; omega
                clear no h0 h2 h3
                go_wp2
                go_ret
                rw [F.out]
                exact .mk_ al2
        · have e1 : ((t.vs.length : Int) != (t.ps.length : Int)) = true := by rw [bne_iff_ne]; omega
          have e2 : (t.vs.length != t.ps.length) = true := by rw [bne_iff_ne]; exact hl
          have F : Hid (b = false) := no fun e => hl (HB.out.1 e).2.2.1
          clear no hl
          go_wp2
          go_ret
          rw [F.out]
          exact .mk_ al2
end Go.Proofs.YteaibflloeipaaaGreatDoor
/- Laws on coordinators: a coordinator is boxed. -/
/- On to the world behind D. -/
/- An exact law begins: the argument's box, its size, a copy for the model. -/
/- The program's own copy of the argument is boxed. -/
/- The program's copy is as the argument; the region draws. -/
/- Laws on functions that answer numbers. -/
/- What the boxes hold is read again. -/
/- The coordinator with the slices P4 and P5 is boxed as P6, in block P7, behind it the world P3; ahead of region P1. -/
/- The draw, the program's answer, the model's, and that they are the same: behind it w5, all facts on it by way of dx. -/
/-
  Walk: parts in new memory, by the model.
-/
namespace Go.Proofs.YteaibflloeipaaaGreatDoor
open Go.RowKit Wo Pu Rf Co

set_option linter.unusedSimpArgs false in
set_option maxRecDepth 100000 in
set_option maxHeartbeats 8000000 in
theorem l22Parts2_any (A : Option Addr) (c : Nat) (ps : List Part) (w : World) (h : Parts w w.heap.size A ps) (hm : ps.length ≤ 1048576) (hu : ∀ p ∈ ps, p.us.length ≤ 1048576) :
    Calls Tryz.prog 97 #[.slice A ps.length c] w (NewPs ps w) := by
  obtain ⟨i0, hi, hz0, hz1, hz2⟩ := info_of info_part
  obtain ⟨i1, hj, hy0, hy1, hy2⟩ := info_of info_up
  have HU := hid hu
  clear hu
  go_enter Tryz.func97, Tryz.ntmps97
  go_wp2_with fail
  have al := (Below.refl w.heap.size w).alloc (Nat.le_refl _) (.cells #[] 40)
  have o0 := OwnPs.nil_new (w := w) (B := w.heap.size) (Nat.le_refl _)
  go_loopw [3, 4] (fun o i wr => ∃ (k : Nat) (Ao : Option Addr) (co : Nat), k ≤ ps.length ∧ i = .int .i64 k ∧ o = .slice Ao k co ∧ Hid ((ps.take k).length = k) ∧ OwnPs (fun _ => 0) 0 wr w.heap.size (.slice Ao k co) (ps.take k) ∧ Below w.heap.size w wr) (fun _ i _ => ps.length - (intOf i).toNat)
  case atStart => exact ⟨0, _, _, Nat.zero_le _, rfl, rfl, rfl, o0, al⟩
  case round =>
    obtain ⟨k, Ao, co, hk, rfl, rfl, HL, O, hb⟩ := hrel
    clear o0 al
    have hz := hb.size
    by_cases hlt : k < ps.length
    · obtain ⟨p, ad, A', c', ho, rfl, ha, g0, g1, g2, g3⟩ := h.part hlt
      have q0 : (0 : Int) ≤ (k : Int) := by omega
      have q1 : (k : Int) < (ps.length : Int) := by omega
      have hT : Hid (ps.take (k + 1) = ps.take k ++ [p]) := by
        show _ = _
        rw [List.take_succ_eq_append_getElem hlt, ho]
      have hul := HU.out p (by rw [← ho]; exact List.getElem_mem hlt)
      obtain ⟨out, hout⟩ : ∃ out, ps.take k = out := ⟨_, rfl⟩
      rw [hout] at O hT HL
      have HG : Hid (∀ x, Below w.heap.size w x → x.cell? (ad.add (k * 2)) = some (.int .i64 p.s) ∧ x.cell? ⟨(ad.add (k * 2)).block, (ad.add (k * 2)).off + 1, none⟩ = some (.slice A' p.us.length c')) :=
        fun x hx => ⟨(hx.cell ha).trans g0, (hx.cell (p := ⟨(ad.add (k * 2)).block, (ad.add (k * 2)).off + 1, none⟩) ha).trans g1⟩
      have HO := hid O
      clear hout ho g0 g1 O
      go_wp2_with fail
      refine wp_region_held_drew (S := fun x => x.cell? (ad.add (k * 2)) = some (.int .i64 p.s) ∧ x.cell? ⟨(ad.add (k * 2)).block, (ad.add (k * 2)).off + 1, none⟩ = some (.slice A' p.us.length c')) (by kernel_rfl) (HG.out _ hb.drew) (fun hHeld => ?_)
      have D : Below wr.heap.size wr wr.drew := (Below.refl _ _).drew
      obtain ⟨W, hW⟩ : ∃ x, wr.drew = x := ⟨_, rfl⟩
      rw [hW] at D hHeld ⊢
      clear hW
      try simp only [Act.put, List.getElem_toArray, List.getElem_cons_succ, List.getElem_cons_zero, List.setIfInBounds_toArray, List.set_cons_zero, List.set_cons_succ]
      refine wpAnyH_take (i := 0) (oi := _) (v := ?_) rfl (by kernel_rfl) (by kernel_rfl) (by kernel_rfl) (fun _ _ _ h => h) (Or.inl ⟨by rfl, ?_⟩) hHeld ?_
      rotate_left
      · (intro w' hSw; (try dsimp only at hSw); go_simp <;> with_reducible rfl)
      try simp only [Act.put, List.getElem_toArray, List.getElem_cons_succ, List.getElem_cons_zero, List.setIfInBounds_toArray, List.set_cons_zero, List.set_cons_succ]
      refine wpAnyH_take (i := 1) (oi := _) (v := ?_) rfl (by kernel_rfl) (by kernel_rfl) (by kernel_rfl) (fun _ _ _ h => h) (Or.inl ⟨by rfl, ?_⟩) hHeld ?_
      rotate_left
      · (intro w' hSw; (try dsimp only at hSw); go_simp <;> with_reducible rfl)
      try simp only [Act.put, List.getElem_toArray, List.getElem_cons_succ, List.getElem_cons_zero, List.setIfInBounds_toArray, List.set_cons_zero, List.set_cons_succ]
      refine wpAnyH_take (i := 2) (oi := _) (v := ?_) rfl (by kernel_rfl) (by kernel_rfl) (by kernel_rfl) (fun _ _ _ h => h) (Or.inl ⟨by rfl, ?_⟩) hHeld ?_
      rotate_left
      · (intro w' hSw; (try dsimp only at hSw); go_simp <;> with_reducible rfl)
      try simp only [Act.put, List.getElem_toArray, List.getElem_cons_succ, List.getElem_cons_zero, List.setIfInBounds_toArray, List.set_cons_zero, List.set_cons_succ]
      refine wpAnyH_take (i := 3) (oi := _) (v := ?_) rfl (by kernel_rfl) (by kernel_rfl) (by kernel_rfl) (fun _ _ _ h => h) (Or.inl ⟨by rfl, ?_⟩) hHeld ?_
      rotate_left
      · (intro w' hSw; (try dsimp only at hSw); go_simp <;> with_reducible rfl)
      try simp only [Act.put, List.getElem_toArray, List.getElem_cons_succ, List.getElem_cons_zero, List.setIfInBounds_toArray, List.set_cons_zero, List.set_cons_succ]
      refine wpAnyH_take (i := 4) (oi := _) (v := ?_) rfl (by kernel_rfl) (by kernel_rfl) (by kernel_rfl) (fun _ _ _ h => h) (Or.inl ⟨by rfl, ?_⟩) hHeld ?_
      rotate_left
      · (intro w' hSw; (try dsimp only at hSw); go_simp <;> with_reducible rfl)
      try simp only [Act.put, List.getElem_toArray, List.getElem_cons_succ, List.getElem_cons_zero, List.setIfInBounds_toArray, List.set_cons_zero, List.set_cons_succ]
      refine wpAnyH_take (i := 5) (oi := _) (v := ?_) rfl (by kernel_rfl) (by kernel_rfl) (by kernel_rfl) (fun _ _ _ h => h) (Or.inl ⟨by rfl, ?_⟩) hHeld ?_
      rotate_left
      · (intro w' hSw; (try dsimp only at hSw); go_simp <;> with_reducible rfl)
      try simp only [Act.put, List.getElem_toArray, List.getElem_cons_succ, List.getElem_cons_zero, List.setIfInBounds_toArray, List.set_cons_zero, List.set_cons_succ]
      refine wpAnyH_take (i := 7) (oi := _) (v := ?_) rfl (by kernel_rfl) (by kernel_rfl) (by kernel_rfl) (fun _ _ _ h => h) (Or.inl ⟨by rfl, ?_⟩) hHeld ?_
      rotate_left
      · (intro w' hSw; (try dsimp only at hSw); go_simp <;> with_reducible rfl)
      try simp only [Act.put, List.getElem_toArray, List.getElem_cons_succ, List.getElem_cons_zero, List.setIfInBounds_toArray, List.set_cons_zero, List.set_cons_succ]
      refine wpAnyH_take (i := 8) (oi := _) (v := ?_) rfl (by kernel_rfl) (by kernel_rfl) (by kernel_rfl) (fun _ _ _ h => h) (Or.inl ⟨by rfl, ?_⟩) hHeld ?_
      rotate_left
      · (intro w' hSw; (try dsimp only at hSw); go_simp <;> with_reducible rfl)
      try simp only [Act.put, List.getElem_toArray, List.getElem_cons_succ, List.getElem_cons_zero, List.setIfInBounds_toArray, List.set_cons_zero, List.set_cons_succ]
      refine wpAnyH_take (i := 9) (oi := _) (v := ?_) rfl (by kernel_rfl) (by kernel_rfl) (by kernel_rfl) (fun _ _ _ h => h) (Or.inl ⟨by rfl, ?_⟩) hHeld ?_
      rotate_left
      · (intro w' hSw; (try dsimp only at hSw); go_simp <;> with_reducible rfl)
      try simp only [Act.put, List.getElem_toArray, List.getElem_cons_succ, List.getElem_cons_zero, List.setIfInBounds_toArray, List.set_cons_zero, List.set_cons_succ]
      refine wpAnyH_take (i := 10) (oi := _) (v := ?_) rfl (by kernel_rfl) (by kernel_rfl) (by kernel_rfl) (fun _ _ _ h => h) (Or.inl ⟨by rfl, ?_⟩) hHeld ?_
      rotate_left
      · (intro w' hSw; (try dsimp only at hSw); go_simp <;> with_reducible rfl)
      try simp only [Act.put, List.getElem_toArray, List.getElem_cons_succ, List.getElem_cons_zero, List.setIfInBounds_toArray, List.set_cons_zero, List.set_cons_succ]
      refine wpAnyH_take (i := 11) (oi := _) (v := ?_) rfl (by kernel_rfl) (by kernel_rfl) (by kernel_rfl) (fun _ _ _ h => h) (Or.inl ⟨by rfl, ?_⟩) hHeld ?_
      rotate_left
      · (intro w' hSw; (try dsimp only at hSw); go_simp <;> with_reducible rfl)
      try simp only [Act.put, List.getElem_toArray, List.getElem_cons_succ, List.getElem_cons_zero, List.setIfInBounds_toArray, List.set_cons_zero, List.set_cons_succ]
      refine wpAnyH_ready (rs := [6]) (by kernel_rfl) (by simp) (AllReadyH.cons (o := _) rfl (fun K hK => ?_) AllReadyH.nil)
      try simp only [Act.put, List.getElem_toArray, List.getElem_cons_succ, List.getElem_cons_zero, List.setIfInBounds_toArray, List.set_cons_zero, List.set_cons_succ]
      have al := (Below.refl W.heap.size W).alloc (Nat.le_refl _) (.cells #[] 164)
      have na : (W.alloc (.cells #[] 164)).ownsRow wr.heap.size 164 3 (.slice (some ⟨W.heap.size, 0, none⟩) 0 0) 0 [] := nil_own D.size _ _
      replace D := D.trans (al.mono D.size)
      go_simp
      obtain ⟨W1, hW⟩ : ∃ x, W.alloc (.cells #[] 164) = x := ⟨_, rfl⟩
      obtain ⟨gA, hgA⟩ : ∃ x, W.heap.size = x := ⟨_, rfl⟩
      rw [hW, hgA] at na ⊢
      rw [hW] at D
      clear al hW hgA
      refine hK.out _ _ (HG.out _ (hb.trans (D.mono hz))) (fun hHeld => ?_)
      clear hK K
      try simp only [Act.put, List.getElem_toArray, List.getElem_cons_succ, List.getElem_cons_zero, List.setIfInBounds_toArray, List.set_cons_zero, List.set_cons_succ]
      refine wpAnyH_ready (rs := [12]) (by kernel_rfl) (by simp) (AllReadyH.cons (o := _) rfl (fun K hK => ?_) AllReadyH.nil)
      try simp only [Act.put, List.getElem_toArray, List.getElem_cons_succ, List.getElem_cons_zero, List.setIfInBounds_toArray, List.set_cons_zero, List.set_cons_succ]
      rw [if_pos (by rfl)]
      have r2 := (g3.below (hb.trans (D.mono hz)) (Nat.le_refl _))
      refine op_append_row2 _ (by rfl) _ _ 38 (by rfl) wr.heap.size 164 i1 (.agg #[.int .i64 0, .int .i64 0, .int .i64 0]) 3 24 Tryz.underlying38 hj hy0 hy1 hy2 rfl (by decide) (.slice (some ⟨gA, 0, none⟩) 0 0) 0 [] (by rfl) na w.heap.size A' p.us.length c' (upsV p.us) (by rfl) r2 (upsV_length _) (upsV_cells _) (by unfold maxLen; omega) (by omega) D.size ?_
      intro v9 W3 hown hg
      rw [Nat.zero_add, List.nil_append] at hown
      have D3 := D.grown hg D.size (fun j hj => (World.ownsRow.lt na j hj).1)
      have o3 : OwnUps W3 wr.heap.size v9 p.us := hown
      obtain ⟨A5, c5, rfl, -, hc5⟩ := o3.form
      clear hown hg na D r2
      refine hK.out _ _ (HG.out _ (hb.trans (D3.mono hz))) (fun hHeld => ?_)
      clear hK K
      try simp only [Act.put, List.getElem_toArray, List.getElem_cons_succ, List.getElem_cons_zero, List.setIfInBounds_toArray, List.set_cons_zero, List.set_cons_succ]
      refine wpAnyH_take (i := 13) (oi := _) (v := ?_) rfl (by kernel_rfl) (by kernel_rfl) (by kernel_rfl) (fun _ _ _ h => h) (Or.inl ⟨by rfl, ?_⟩) hHeld ?_
      rotate_left
      · (intro w' hSw; (try dsimp only at hSw); go_simp <;> with_reducible rfl)
      try simp only [Act.put, List.getElem_toArray, List.getElem_cons_succ, List.getElem_cons_zero, List.setIfInBounds_toArray, List.set_cons_zero, List.set_cons_succ]
      refine wpAnyH_ready (rs := [14]) (by kernel_rfl) (by simp) (AllReadyH.cons (o := _) rfl (fun K hK => ?_) AllReadyH.nil)
      try simp only [Act.put, List.getElem_toArray, List.getElem_cons_succ, List.getElem_cons_zero, List.setIfInBounds_toArray, List.set_cons_zero, List.set_cons_succ]
      obtain ⟨ys, hrow, HP⟩ := OwnPs.more (p := p) HO.out D3 hz o3 hc5
      have HPP := hid HP
      have rA := row_two_ W3 (.int .i64 p.s) (.slice A5 p.us.length c5) 40
      have hrow' := World.ownsRow.alloc hrow (.cells #[.int .i64 p.s, .slice A5 p.us.length c5] 40)
      have al := hb.trans ((D3.trans (((Below.refl W3.heap.size W3).alloc (Nat.le_refl _) (.cells #[.int .i64 p.s, .slice A5 p.us.length c5] 40)).mono D3.size)).mono hz)
      rw [HL.out] at HPP hrow'
      clear HP hrow o3
      go_simp
      refine hK.out _ _ (HG.out _ al) (fun hHeld => ?_)
      clear hK K
      try simp only [Act.put, List.getElem_toArray, List.getElem_cons_succ, List.getElem_cons_zero, List.setIfInBounds_toArray, List.set_cons_zero, List.set_cons_succ]
      refine wpAnyH_ready (rs := [15]) (by kernel_rfl) (by simp) (AllReadyH.cons (o := _) rfl (fun K hK => ?_) AllReadyH.nil)
      try simp only [Act.put, List.getElem_toArray, List.getElem_cons_succ, List.getElem_cons_zero, List.setIfInBounds_toArray, List.set_cons_zero, List.set_cons_succ]
      rw [if_pos (by rfl)]
      refine op_append_row2 _ (by rfl) _ _ 31 (by rfl) w.heap.size 40 i0 (.agg #[.int .i64 0, .slice none 0 0]) 2 32 Tryz.underlying31 hi hz0 hz1 hz2 rfl (by decide) (.slice Ao k co) k ys (by rfl) hrow' _ (some ⟨W3.heap.size, 0, none⟩) 1 1 [.int .i64 p.s, .slice A5 p.us.length c5] (by rfl) rA rfl (part_cells _ _ _ _) (by unfold maxLen; omega) (by omega) al.size ?_
      intro v7 W7 hown hg
      have O7 := HPP.out v7 W7 hown hg
      have b7 := al.grown hg al.size (fun j hj => (World.ownsRow.lt hrow' j hj).1)
      have hl7 : (out ++ [p]).length = k + 1 := by rw [List.length_append, HL.out]; rfl
      obtain ⟨Ao7, co7, rfl, -, -⟩ := O7.form
      rw [hl7] at O7 ⊢
      clear hown hg al rA hrow' HPP HO
      refine hK.out _ _ (HG.out _ b7) (fun hHeld => ?_)
      clear hK K
      try simp only [Act.put, List.getElem_toArray, List.getElem_cons_succ, List.getElem_cons_zero, List.setIfInBounds_toArray, List.set_cons_zero, List.set_cons_succ]
      refine wpAnyH_take (i := 16) (oi := _) (v := ?_) rfl (by kernel_rfl) (by kernel_rfl) (by kernel_rfl) (fun _ _ _ h => h) (Or.inl ⟨by rfl, ?_⟩) hHeld ?_
      rotate_left
      · (intro w' hSw; (try dsimp only at hSw); go_simp <;> with_reducible rfl)
      try simp only [Act.put, List.getElem_toArray, List.getElem_cons_succ, List.getElem_cons_zero, List.setIfInBounds_toArray, List.set_cons_zero, List.set_cons_succ]
      refine wpAnyH_done (by kernel_rfl) ?_ _
      clear hHeld
      go_wp2
      go_roundw
      case rel => exact ⟨k + 1, Ao7, co7, hlt, by go_num, rfl, by show _ = _; rw [hT.out, hl7], by rw [hT.out]; exact O7, b7⟩
      case measure => simp [intOf]; omega
    · have hk' : k = ps.length := by omega
      subst hk'
      rw [List.take_length] at O
      go_wp2
      go_ret
      exact ⟨_, rfl, O, hb⟩
end Go.Proofs.YteaibflloeipaaaGreatDoor
