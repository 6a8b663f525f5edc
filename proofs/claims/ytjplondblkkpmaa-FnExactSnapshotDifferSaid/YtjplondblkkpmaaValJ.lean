/- The coordinator with the slices $SA and $SB is stored as the answer, with the word $BB. -/
/- Laws on coordinators: a coordinator is boxed. -/
/- On to the world behind D. -/
/- An exact law begins: the argument's box, its size, a copy for the model. -/
/- The program's own copy of the argument is boxed. -/
/- The program's copy is as the argument; the region draws. -/
/- Laws on functions that answer numbers. -/
/- What the boxes hold is read again. -/
/- The coordinator with the slices P4 and P5 is boxed as P6, in block P7, behind it the world P3; ahead of region P1. -/
/- The draw, the program's answer, the model's, and that they are the same: behind it w5, all facts on it by way of dx. -/
/-
  Walk: which coordinators are valid, by the program.
-/
import Derived.Test.YtjplondblkkpmaaTxnJ
import Derived.Test.YtjplondblkkpmaaG3C
namespace Go.Proofs.Ytjplondblkkpmaa
open Go.RowKit Wo Pu Rf Co

set_option linter.unusedVariables false in
/-- The order, entry by entry. -/
def OAt (q : Crd) (i : Nat) (h : i < q.os.length) : Prop := (∃ n, ∃ hn : n < q.ts.length, q.os[i] = (n : Int) ∧ q.ts[n].d = 2) ∧ q.os[i] ∉ q.os.take i
set_option linter.unusedVariables false in
def OTo (q : Crd) (k : Nat) : Prop := ∀ i (h : i < q.os.length), i < k → OAt q i h
set_option linter.unusedVariables false in
def CTo (q : Crd) (k : Nat) : Prop := ∀ j (h : j < q.ts.length), j < k → q.ts[j].d = 2 → (j : Int) ∈ q.os
set_option linter.unusedVariables false in
def OV (q : Crd) : Prop := OTo q q.os.length ∧ CTo q q.ts.length
set_option linter.unusedVariables false in
set_option linter.unusedSimpArgs false in
theorem OTo.zero (q : Crd) : OTo q 0 := fun _ _ h => absurd h (Nat.not_lt_zero _)
set_option linter.unusedVariables false in
set_option linter.unusedSimpArgs false in
theorem CTo.zero (q : Crd) : CTo q 0 := fun _ _ h => absurd h (Nat.not_lt_zero _)
set_option linter.unusedVariables false in
set_option linter.unusedSimpArgs false in
theorem OTo.next {q : Crd} {k : Nat} (h : OTo q k) (hk : k < q.os.length) (hv : OAt q k hk) : OTo q (k + 1) := fun i hi hl => by
  by_cases e : i = k
  · subst e; exact hv
  · exact h i hi (by omega)
set_option linter.unusedVariables false in
set_option linter.unusedSimpArgs false in
theorem CTo.next {q : Crd} {k : Nat} (h : CTo q k) (hk : k < q.ts.length) (hv : q.ts[k].d = 2 → (k : Int) ∈ q.os) : CTo q (k + 1) := fun i hi hl => by
  by_cases e : i = k
  · subst e; exact hv
  · exact h i hi (by omega)
set_option linter.unusedVariables false in
set_option linter.unusedSimpArgs false in
theorem nodup_le {L : List Int} : ∀ {M : List Int}, L.Nodup → (∀ x ∈ L, x ∈ M) → L.length ≤ M.length := by
  induction L with
  | nil => intro M _ _; exact Nat.zero_le _
  | cons a L ih =>
    intro M hn hs
    obtain ⟨ha, hn⟩ := List.nodup_cons.1 hn
    have hm := hs a List.mem_cons_self
    have := ih (M := M.erase a) hn fun x hx => (List.mem_erase_of_ne (fun e => ha (by rw [← e]; exact hx))).2 (hs x (List.mem_cons_of_mem _ hx))
    rw [List.length_erase_of_mem hm] at this
    have := List.length_pos_of_mem hm
    rw [List.length_cons]
    omega
set_option linter.unusedVariables false in
set_option linter.unusedSimpArgs false in
theorem ov_iff {q : Crd} (h12 : q.ts.length ≤ 12) (htx : ∀ t ∈ q.ts, TxV t) : OV q ↔ CV q := by
  constructor
  · rintro ⟨h1, h2⟩
    have hnd : q.os.Nodup := by
      rw [List.Nodup, List.pairwise_iff_getElem]
      intro i j hi hj hij e
      refine (h1 j hj hj).2 ?_
      rw [← e]
      exact List.mem_iff_getElem.2 ⟨i, by rw [List.length_take]; omega, by rw [List.getElem_take]⟩
    have hord : ∀ i (h : i < q.ts.length), q.ts[i].d = 2 ↔ (i : Int) ∈ q.os := fun i hi => ⟨h2 i hi hi, fun hm => by
      obtain ⟨k, hk, e⟩ := List.mem_iff_getElem.1 hm
      obtain ⟨⟨n, hn, e1, e2⟩, -⟩ := h1 k hk hk
      have : n = i := by rw [e] at e1; omega
      subst this
      exact e2⟩
    have hl := comAt_count q.ts q.ts.length (Nat.le_refl _)
    rw [List.take_length] at hl
    have hmem : ∀ i : Nat, i ∈ (List.range q.ts.length).filter (comAt q.ts) ↔ ∃ hi : i < q.ts.length, q.ts[i].d = 2 := fun i => by
      rw [List.mem_filter, List.mem_range]
      unfold comAt isCom
      constructor
      · rintro ⟨h3, h4⟩
        rw [List.getElem?_eq_getElem h3] at h4
        exact ⟨h3, by simpa using h4⟩
      · rintro ⟨h3, h4⟩
        rw [List.getElem?_eq_getElem h3]
        exact ⟨h3, by simpa using h4⟩
    have hnL : (((List.range q.ts.length).filter (comAt q.ts)).map Int.ofNat).Nodup :=
      List.Pairwise.map _ (fun a b (hab : a ≠ b) e => hab (Int.ofNat.inj e)) (List.Nodup.sublist List.filter_sublist List.nodup_range)
    refine ⟨h12, htx, hord, ?_⟩
    rw [← hl]
    have l1 := nodup_le hnL (M := q.os) fun x hx => by
      obtain ⟨i, hi, rfl⟩ := List.mem_map.1 hx
      obtain ⟨a, b⟩ := (hmem i).1 hi
      exact (hord i a).1 b
    have l2 := nodup_le hnd (M := ((List.range q.ts.length).filter (comAt q.ts)).map Int.ofNat) fun x hx => by
      obtain ⟨k, hk, e⟩ := List.mem_iff_getElem.1 hx
      obtain ⟨⟨n, hn, e1, e2⟩, -⟩ := h1 k hk hk
      exact List.mem_map.2 ⟨n, (hmem n).2 ⟨hn, e2⟩, by rw [← e, e1]; rfl⟩
    rw [List.length_map] at l1 l2
    omega
  · intro h
    obtain ⟨h1, h2⟩ := h.order
    refine ⟨fun i hi _ => ⟨?_, fun hm => ?_⟩, fun j hj _ hd => (h.ord j hj).1 hd⟩
    · obtain ⟨n, hn, e, hd⟩ := h2 q.os[i] (List.getElem_mem hi)
      exact ⟨n, hn, e, hd⟩
    · obtain ⟨j, hj, e⟩ := List.mem_iff_getElem.1 hm
      rw [List.length_take] at hj
      rw [List.getElem_take] at e
      exact (List.pairwise_iff_getElem.1 h1) j i (by omega) hi (by omega) e

set_option linter.unusedVariables false in
/-- Which of the twelve the first k of the order name. -/
def ordB (os : List Int) (k : Nat) : List Bool := (List.range 12).map fun j : Nat => decide ((j : Int) ∈ os.take k)
set_option linter.unusedVariables false in
set_option linter.unusedSimpArgs false in
theorem ordB_length (os : List Int) (k : Nat) : (ordB os k).length = 12 := by simp [ordB]
set_option linter.unusedVariables false in
set_option linter.unusedSimpArgs false in
theorem ordB_get (os : List Int) (k : Nat) {n : Nat} (hn : n < 12) : (ordB os k)[n]'(by rw [ordB_length]; exact hn) = decide ((n : Int) ∈ os.take k) := by simp [ordB]
set_option linter.unusedVariables false in
set_option linter.unusedSimpArgs false in
theorem ordB_zero (os : List Int) : ordB os 0 = List.replicate 12 false := by
  refine List.ext_getElem (by simp [ordB]) fun i h1 h2 => ?_
  rw [List.getElem_replicate]
  simp [ordB]
set_option linter.unusedVariables false in
set_option linter.unusedSimpArgs false in
theorem ordB_next {os : List Int} {k n : Nat} (hk : k < os.length) (he : os[k] = (n : Int)) : (ordB os k).set n true = ordB os (k + 1) := by
  refine List.ext_getElem (by simp [ordB]) fun i h1 h2 => ?_
  rw [List.getElem_set]
  simp only [ordB, List.getElem_map, List.getElem_range]
  rw [List.take_succ_eq_append_getElem hk, he]
  by_cases e : n = i
  · subst e; simp
  · rw [if_neg e]
    simp only [List.mem_append, List.mem_singleton, decide_eq_decide]
    constructor
    · exact fun h => .inl h
    · rintro (h | h)
      · exact h
      · exact absurd h (by omega)
set_option linter.unusedVariables false in
def bls (bs : List Bool) : List Value := bs.map .bool
set_option linter.unusedVariables false in
set_option linter.unusedSimpArgs false in
theorem bls_length (bs : List Bool) : (bls bs).length = bs.length := by simp [bls]
set_option linter.unusedVariables false in
set_option linter.unusedSimpArgs false in
theorem ord_read {w : World} {g k n : Nat} {T : TypeId} {os : List Int} (h : Arr4 w g T (bls (ordB os k))) (hn : n < 12) : w.cell? ⟨g, n, none⟩ = some (.bool (decide ((n : Int) ∈ os.take k))) := by
  rw [h.read (i := n) (by rw [bls_length, ordB_length]; exact hn)]
  simp only [bls, List.getElem_map]
  rw [ordB_get os k hn]
set_option linter.unusedVariables false in
set_option linter.unusedSimpArgs false in
set_option maxHeartbeats 4000000 in
theorem has_is (b : Bool) (A A2 : Option Addr) (n m c c2 : Nat) (t : Int) (w : World) (hb : b = true ↔ ∃ k, k < n ∧ t = ((k : Nat) : Int)) :
    Calls Try.prog 84 #[.agg #[.slice A n c, .slice A2 m c2], .int .i64 t] w (Ret (.bool b) w) := by
  have al := (Below.refl w.heap.size w).alloc (Nat.le_refl _) (.cells #[.slice A n c, .slice A2 m c2] 26)
  have hbb : b = (decide (0 ≤ t) && decide (t < (n : Int))) := by
    rw [Bool.eq_iff_iff, hb, Bool.and_eq_true, decide_eq_true_eq, decide_eq_true_eq]
    constructor
    · rintro ⟨k, hk, rfl⟩; omega
    · rintro ⟨h1, h2⟩; exact ⟨t.toNat, by omega, by omega⟩
  have HB := hid hbb
  clear hb hbb
  obtain ⟨p, hp⟩ : ∃ x, decide (0 ≤ t) = x := ⟨_, rfl⟩
  obtain ⟨r, hr⟩ : ∃ x, decide (t < (n : Int)) = x := ⟨_, rfl⟩
  rw [hp, hr] at HB
  cases p with
  | false =>
    have F : Hid (b = false) := by show b = false; rw [HB.out]; rfl
    clear HB
    go_enter Try.func84, Try.ntmps84
    go_wp2
    go_ret
    rw [F.out]
    exact .mk_ al
  | true =>
    have F : Hid (b = r) := by show b = r; rw [HB.out]; rfl
    clear HB
    go_enter Try.func84, Try.ntmps84
    go_wp2
    go_ret
    rw [F.out]
    exact .mk_ al
set_option linter.unusedVariables false in
set_option linter.unusedSimpArgs false in
set_option maxRecDepth 100000 in
set_option maxHeartbeats 8000000 in
theorem orderValid_is (b : Bool) (A : Option Addr) (c : Nat) (A2 : Option Addr) (c2 : Nat) (q : Crd) (w : World) (h1 : Txs w w.heap.size A q.ts) (h2 : Row w w.heap.size A2 (ints q.os)) (h12 : q.ts.length ≤ 12) (ho : q.os.length ≤ 1048600) (hb : b = true ↔ OV q) :
    Calls Try.prog 61 #[.agg #[.slice A q.ts.length c, .slice A2 q.os.length c2]] w (Ret (.bool b) w) := by
  have HB := hid hb
  have no : b ≠ true → b = false := fun h => by cases b; rfl; exact absurd rfl h
  have NO : Hid (¬ OV q → b = false) := fun h => no fun e => h (hb.1 e)
  have al := (Below.refl w.heap.size w).alloc (Nat.le_refl _) (.cells #[.slice A q.ts.length c, .slice A2 q.os.length c2] 26)
  have x0 := Blk2s.new_ w 26 (.slice A q.ts.length c) (.slice A2 q.os.length c2)
  obtain ⟨w1, hw1⟩ : ∃ x, w.alloc (.cells #[.slice A q.ts.length c, .slice A2 q.os.length c2] 26) = x := ⟨_, rfl⟩
  rw [hw1] at al x0
  have HR1 : Hid (∀ y, Below w1.heap.size w1 y → Txs y y.heap.size A q.ts) := fun y hy => (h1.on al).on hy
  have HR2 : Hid (∀ y, Below w1.heap.size w1 y → Row y y.heap.size A2 (ints q.os)) := fun y hy => (((h2.below al (Nat.le_refl _)).more al.size).below hy (Nat.le_refl _)).more hy.size
  have HX : Hid (∀ y, Below w1.heap.size w1 y → (y.cell? ⟨w.heap.size, 0, none⟩ = some (.slice A q.ts.length c) ∧ y.cell? ⟨w.heap.size, 1, none⟩ = some (.slice A2 q.os.length c2))) := fun y hy => ⟨(x0.later hy).reads.1, (x0.later hy).reads.2.1⟩
  have a0 := Arr4.new_ w1 110 (bls (List.replicate 12 false))
  have b0 := (Below.refl w1.heap.size w1).alloc (Nat.le_refl _) (.cells (bls (List.replicate 12 false)).toArray 110)
  obtain ⟨y0, y1⟩ := HX.out _ b0
  clear h1 h2 hb no x0
  go_enter Try.func61, Try.ntmps61
  go_upto_region 1 with fail
  clear hw1
  go_upto_region 2 with fail
  obtain ⟨w2, hw2⟩ : ∃ x, w1.alloc (.cells (bls (List.replicate 12 false)).toArray 110) = x := ⟨_, rfl⟩
  have hw2' : w1.alloc (.cells #[.bool false, .bool false, .bool false, .bool false, .bool false, .bool false, .bool false, .bool false, .bool false, .bool false, .bool false, .bool false] 110) = w2 := hw2
  rw [hw2] at a0 b0 y0 y1
  try rw [hw2']
  clear hw2 hw2'
  go_wp2_with fail
  go_loopw [11] (fun i wr => ∃ k : Nat, k ≤ q.os.length ∧ i = .int .i64 k ∧ Hid (OTo q k) ∧ Arr4 wr w1.heap.size 110 (bls (ordB q.os k)) ∧ Below w1.heap.size w1 wr) (fun i _ => q.os.length - (intOf i).toNat)
  case atStart => exact ⟨0, Nat.zero_le _, rfl, .zero _, by rw [ordB_zero]; exact a0, b0⟩
  case round =>
    clear a0 b0 y0 y1
    obtain ⟨k, hk, rfl, H, a, hbr⟩ := hrel
    have hz := hbr.size
    obtain ⟨y0, y1⟩ := HX.out _ hbr
    by_cases hlt : k < q.os.length
    · obtain ⟨ad, rfl, hbl, hcell⟩ := (HR2.out _ hbr).int_ hlt
      have k0 : (0 : Int) ≤ (k : Int) := by omega
      have k1 : (k : Int) < (q.os.length : Int) := by omega
      obtain ⟨x, hx⟩ : ∃ x, q.os[k] = x := ⟨_, rfl⟩
      rw [hx] at hcell
      obtain ⟨bh, hbh⟩ := bool_ofP' (∃ n, n < q.ts.length ∧ x = ((n : Nat) : Int))
      have CH : Hid (∀ y, Calls Try.prog 84 #[.agg #[.slice A q.ts.length c, .slice (some ad) q.os.length c2], .int .i64 x] y (Ret (.bool bh) y)) := fun y => has_is bh A (some ad) q.ts.length q.os.length c c2 x y hbh
      have HBH := hid hbh
      have HXK := hid hx
      clear hbh hx
      go_wp2_with fail
      refine (CH.out _).mono ?_
      rintro e w3 ⟨rfl, d⟩
      have hb2 := hbr.trans (d.mono hbr.size)
      have a3 := a.below d a.lt
      clear y0 y1 hcell CH
      obtain ⟨y0, y1⟩ := HX.out _ hb2
      cases bh with
      | false =>
        have F : Hid (b = false) := NO.out fun e => by
          obtain ⟨⟨n, hn, e1, -⟩, -⟩ := e.1 k hlt hlt
          have := HBH.out.2 ⟨n, hn, by rw [← HXK.out, e1]⟩
          cases this
        go_wp2
        go_ret
        rw [F.out]
        exact .mk_ (al.trans (hb2.mono al.size))
      | true =>
        obtain ⟨n, hn, hxn⟩ := HBH.out.1 rfl
        subst hxn
        obtain ⟨t, ad2, A', c', A3, c3, ho3, e2, had, g0, g1, g2, -⟩ := (HR1.out _ hb2).tx hn
        subst e2
        have q0 : (0 : Int) ≤ (n : Int) := by omega
        have q1 : (n : Int) < (q.ts.length : Int) := by omega
        have q2 : (n : Int) < 12 := by omega
        by_cases hd : t.d = 2
        · have e1 : (t.d != 2) = false := by rw [bne_eq_false_iff_eq]; exact hd
          have y3 := ord_read a3 (show n < 12 by omega)
          by_cases hm : (n : Int) ∈ q.os.take k
          · have F : Hid (b = false) := NO.out fun e => (e.1 k hlt hlt).2 (by rw [HXK.out]; exact hm)
            rw [decide_eq_true hm] at y3
            clear hm hd
            go_wp2
            go_ret
            rw [F.out]
            exact .mk_ (al.trans (hb2.mono al.size))
          · have HN := hid (H.out.next hlt ⟨⟨n, hn, HXK.out, by rw [ho3]; exact hd⟩, by rw [HXK.out]; exact hm⟩)
            rw [decide_eq_false hm] at y3
            have f0 := a3.frozen n
            have a5 := a3.set n (.bool true)
            have e5 : (bls (ordB q.os k)).set n (.bool true) = bls (ordB q.os (k + 1)) := by rw [← ordB_next hlt HXK.out]; unfold bls; rw [List.map_set]
            rw [e5] at a5
            have b5 := hb2.setCell (p := ⟨w1.heap.size, n, none⟩) (Nat.le_refl _) (.bool true)
            clear hm hd a a3 e5
            go_wp2
            go_roundw
            case rel => exact ⟨k + 1, by omega, by go_num, HN, a5, b5⟩
            case measure => simp [intOf]; omega
        · have F : Hid (b = false) := NO.out fun e => hd (by
            obtain ⟨⟨m, hm, e1, e2⟩, -⟩ := e.1 k hlt hlt
            have : m = n := by rw [HXK.out] at e1; omega
            subst this
            rw [← ho3]; exact e2)
          have e1 : (t.d != 2) = true := by rw [bne_iff_ne]; exact hd
          clear hd
          go_wp2
          go_ret
          rw [F.out]
          exact .mk_ (al.trans (hb2.mono al.size))
    · have hk' : k = q.os.length := by omega
      subst hk'
      have HO := hid H.out
      go_wp2_with fail
      go_loopw [39] (fun i wx => ∃ k : Nat, k ≤ q.ts.length ∧ i = .int .i64 k ∧ Hid (CTo q k) ∧ Arr4 wx w1.heap.size 110 (bls (ordB q.os q.os.length)) ∧ Below w1.heap.size w1 wx) (fun i _ => q.ts.length - (intOf i).toNat)
      case atStart => exact ⟨0, Nat.zero_le _, rfl, .zero _, a, hbr⟩
      case round =>
        clear a hbr y0 y1 H hz
        obtain ⟨k, hk, rfl, H, a, hbr⟩ := hrel
        have hz := hbr.size
        by_cases hlt : k < q.ts.length
        · obtain ⟨t, ad, A', c', A3, c3, ho3, e2, had, g0, g1, g2, -⟩ := (HR1.out _ hbr).tx hlt
          subst e2
          have k0 : (0 : Int) ≤ (k : Int) := by omega
          have k1 : (k : Int) < (q.ts.length : Int) := by omega
          have k2 : (k : Int) < 12 := by omega
          have a3 := a.below ((Below.refl wr.heap.size wr).alloc (Nat.le_refl _) (.cells #[.slice A' t.ps.length c', .slice A3 t.vs.length c3, .int .i64 t.d] 33)) a.lt
          have hb2 := hbr.alloc hz (.cells #[.slice A' t.ps.length c', .slice A3 t.vs.length c3, .int .i64 t.d] 33)
          obtain ⟨z0, z1, z2, -⟩ := (Blk3s.new_ wr 33 (.slice A' t.ps.length c') (.slice A3 t.vs.length c3) (.int .i64 t.d)).reads
          have y3 := ord_read a3 (show k < 12 by omega)
          rw [List.take_length] at y3
          by_cases hd : t.d = 2
          · have e1 : (t.d == 2) = true := beq_iff_eq.2 hd
            by_cases hm : (k : Int) ∈ q.os
            · have HN := hid (H.out.next hlt fun _ => hm)
              rw [decide_eq_true hm] at y3
              clear hm hd a
              go_wp2
              go_roundw
              case rel => exact ⟨k + 1, by omega, by go_num, HN, a3, hb2⟩
              case measure => simp [intOf]; omega
            · have F : Hid (b = false) := NO.out fun e => hm (e.2 k hlt hlt (by rw [ho3]; exact hd))
              rw [decide_eq_false hm] at y3
              clear hm hd
              go_wp2
              go_ret
              rw [F.out]
              exact .mk_ (al.trans (hb2.mono al.size))
          · have e1 : (t.d == 2) = false := beq_eq_false_iff_ne.2 hd
            have HN := hid (H.out.next hlt fun e => absurd (by rw [ho3] at e; exact e) hd)
            clear hd a
            go_wp2
            go_roundw
            case rel => exact ⟨k + 1, by omega, by go_num, HN, a3, hb2⟩
            case measure => simp [intOf]; omega
        · have F : Hid (b = true) := HB.out.2 ⟨HO.out, by
            have hk' : k = q.ts.length := by omega
            subst hk'
            exact H.out⟩
          have hb2 := hbr
          have hk' : k = q.ts.length := by omega
          subst hk'
          go_wp2
          go_ret
          rw [F.out]
          exact .mk_ (al.trans (hb2.mono al.size))
end Go.Proofs.Ytjplondblkkpmaa
