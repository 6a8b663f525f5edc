/- The coordinator with the slices $SA and $SB is stored as the answer, with the word $BB. -/
/- Laws on coordinators: a coordinator is boxed. -/
/- On to the world behind D. -/
/- An exact law begins: the argument's box, its size, a copy for the model. -/
/- The program's own copy of the argument is boxed. -/
/- The program's copy is as the argument; the region draws. -/
/- Laws on functions that answer numbers. -/
/- What the boxes hold is read again. -/
/- The coordinator with the slices P4 and P5 is boxed as P6, in block P7, behind it the world P3; ahead of region P1. -/
/- The draw, the program's answer, the model's, and that they are the same: behind it w5, all facts on it by way of dx. -/
/-
  Walk: which transactions are valid, by the program.
-/
import Derived.Test.YtjplondblkkpmaaTxnI
import Derived.Deep.Cut
namespace Go.Proofs.Ytjplondblkkpmaa
open Go.RowKit Wo Pu Rf Co

set_option linter.unusedVariables false in
set_option linter.unusedSimpArgs false in
theorem count_sum : ∀ vs : List Int, vs.count 1 + vs.count (-1) + vs.count 0 + vs.countP wrong = vs.length := by
  intro vs
  induction vs with
  | nil => rfl
  | cons v vs ih =>
    rw [List.count_cons, List.count_cons, List.count_cons, List.countP_cons, List.length_cons]
    by_cases h1 : v = 1
    · subst h1; simp [wrong]; omega
    · by_cases h2 : v = -1
      · subst h2; simp [wrong]; omega
      · by_cases h3 : v = 0
        · subst h3; simp [wrong]; omega
        · have e : wrong v = true := by simp [wrong, h1, h2, h3]
          rw [if_neg (by simpa using h1), if_neg (by simpa using h2), if_neg (by simpa using h3), if_pos e]
          omega
set_option linter.unusedVariables false in
set_option linter.unusedSimpArgs false in
theorem wrong_zero (vs : List Int) : vs.countP wrong = 0 ↔ ∀ v ∈ vs, -1 ≤ v ∧ v ≤ 1 := by
  rw [List.countP_eq_zero]
  constructor
  · intro h v hv
    have := h v hv
    simp only [wrong, Bool.and_eq_true, Bool.not_eq_true', beq_eq_false_iff_ne, not_and, Classical.not_not] at this
    by_cases h1 : v = 1
    · omega
    · by_cases h2 : v = -1
      · omega
      · have := this h1 h2
        omega
  · intro h v hv e
    have := h v hv
    simp only [wrong, Bool.and_eq_true, Bool.not_eq_true', beq_eq_false_iff_ne] at e
    omega
set_option linter.unusedVariables false in
set_option linter.unusedSimpArgs false in
theorem tx_dec {t : Tx} (hp : PartsV t.ps) (hl : t.vs.length = t.ps.length) (h0 : t.vs.countP wrong = 0) : TxV t ↔ if t.d = 3 then decOf (t.vs.count (-1)) (t.vs.count 0) ≠ 2 else t.d = decOf (t.vs.count (-1)) (t.vs.count 0) := by
  have hs := count_sum t.vs
  rw [txV_iff]
  have hr := (wrong_zero t.vs).1 h0
  unfold decOf
  by_cases h3 : t.d = 3
  · rw [if_pos h3]
    constructor
    · rintro ⟨-, -, -, h | h | h⟩
      · omega
      · omega
      · split
        · decide
        · split
          · decide
          · omega
    · intro h
      refine ⟨hr, hp, hl, .inr (.inr ⟨h3, ?_⟩)⟩
      split at h
      · omega
      · split at h
        · omega
        · exact absurd rfl h
  · rw [if_neg h3]
    constructor
    · rintro ⟨-, -, -, h | h | h⟩
      · rw [if_neg (by omega), if_pos (by omega)]; exact h.1
      · rw [if_neg (by omega), if_neg (by omega)]; exact h.1
      · exact absurd h.1 h3
    · intro h
      refine ⟨hr, hp, hl, ?_⟩
      split at h
      · exact absurd h h3
      · split at h
        · exact .inl ⟨h, by omega, by omega⟩
        · exact .inr (.inl ⟨h, by omega⟩)
set_option linter.unusedSimpArgs false in
set_option linter.unusedVariables false in
set_option maxRecDepth 100000 in
set_option maxHeartbeats 8000000 in
theorem implTxnValid_is (b : Bool) (A : Option Addr) (c : Nat) (A2 : Option Addr) (c2 : Nat) (t : Tx) (w : World) (h1 : Parts w w.heap.size A t.ps) (h2 : Row w w.heap.size A2 (ints t.vs)) (hm : t.ps.length ≤ 1048600) (hv : t.vs.length ≤ 1048600) (hu : ∀ p ∈ t.ps, p.us.length ≤ 1048600) (hb : b = true ↔ TxV t) :
    Calls Try.prog 60 #[.agg #[.slice A t.ps.length c, .slice A2 t.vs.length c2, .int .i64 t.d]] w (Ret (.bool b) w) := by
  obtain ⟨bp, hbp⟩ := bool_ofP' (PartsV t.ps)
  have HB := hid hb
  have HBP := hid hbp
  have CP : Hid (∀ x, Below w.heap.size w x → Calls Try.prog 80 #[.slice A t.ps.length c] x (Ret (.bool bp) x)) := fun x hx => partsValid_is bp A c t.ps x (h1.on hx) hm hu hbp
  have NO : Hid (¬ TxV t → b = false) := fun h => by
    rw [← Bool.not_eq_true]
    exact fun e => h (hb.1 e)
  have b1 := (Below.refl w.heap.size w).alloc (Nat.le_refl _) (.cells #[.slice A t.ps.length c, .slice A2 t.vs.length c2, .int .i64 t.d] 33)
  have x0 := Blk3s.new_ w 33 (.slice A t.ps.length c) (.slice A2 t.vs.length c2) (.int .i64 t.d)
  clear hb hbp
  go_enter Try.func60, Try.ntmps60
  go_upto_region 1 with fail
  obtain ⟨w1, hw1⟩ : ∃ x, w.alloc (.cells #[.slice A t.ps.length c, .slice A2 t.vs.length c2, .int .i64 t.d] 33) = x := ⟨_, rfl⟩
  rw [hw1] at b1 x0 ⊢
  clear hw1
  obtain ⟨y0, y1, y2, -⟩ := id x0.reads
  go_wp2_with fail
  refine (CP.out _ b1).mono ?_
  rintro e w2 ⟨rfl, d⟩
  replace x0 := x0.later d
  replace b1 := b1.trans (d.mono b1.size)
  clear y0 y1 y2 d
  obtain ⟨y0, y1, y2, -⟩ := id x0.reads
  clear CP
  cases bp with
  | false =>
    have F : Hid (b = false) := NO.out fun e => by have := HBP.out.2 e.parts; cases this
    go_wp2
    go_ret
    rw [F.out]
    exact .mk_ b1
  | true =>
    have HP := hid (HBP.out.1 rfl)
    by_cases hl : t.vs.length = t.ps.length
    · have e0 : ((t.vs.length : Int) != (t.ps.length : Int)) = false := by rw [bne_eq_false_iff_eq]; omega
      have e1 : (t.vs.length != t.ps.length) = false := by rw [bne_eq_false_iff_eq]; exact hl
      have hfew := (pv_few HP.out).1
      have hvl : t.vs.length ≤ 3 := by omega
      have HL := hid hl
      clear hl
      have CS : Hid (∀ x, Below w.heap.size w x → Calls Try.prog 82 #[.slice A2 t.vs.length c2] x (Sent t.vs x)) := fun x hx => sendVotes_is A2 c2 t.vs x ((h2.below hx (Nat.le_refl _)).more hx.size) (by omega)
      go_wp2_with fail
      refine (CS.out _ b1).mono ?_
      rintro e w3 ⟨ch, s, r, rfl, hch, hcc, d⟩
      have xlt := x0.lt
      replace x0 := x0.later d
      replace b1 := b1.trans (d.mono b1.size)
      clear y0 y1 y2 d
      obtain ⟨y0, y1, y2, -⟩ := id x0.reads
      clear CS e0 e1
      go_wp2_with fail
      refine (countVotes_is t.vs ch _ s r w3 hcc (by omega)).mono ?_
      rintro e w4 ⟨rfl, T4⟩
      have hx0 : w.heap.size < ch := Nat.lt_of_lt_of_le xlt hch
      have b4 : Below w.heap.size w w4 := b1.trans (T4.below b1.size (Nat.le_of_lt hx0))
      have x4 : Blk3s w4 w.heap.size 33 (.slice A t.ps.length c) (.slice A2 t.vs.length c2) (.int .i64 t.d) := (T4.block w.heap.size x0.lt (fun e => Nat.ne_of_lt hx0 (by injection e))).trans x0
      clear x0 b1 y0 y1 y2 T4 hcc
      have HT := hid (tx_dec HP.out HL.out)
      have HW : Hid (t.vs.countP wrong ≠ 0 → b = false) := fun h => NO.out fun e => h ((wrong_zero _).2 (txV_iff.1 e).1)
      obtain ⟨na, hna⟩ : ∃ x, t.vs.count (-1) = x := ⟨_, rfl⟩
      obtain ⟨nm, hnm⟩ : ∃ x, t.vs.count 0 = x := ⟨_, rfl⟩
      obtain ⟨nx, hnx⟩ : ∃ x, t.vs.countP wrong = x := ⟨_, rfl⟩
      rw [hna, hnm, hnx] at HT
      rw [hnx] at HW
      rw [hna, hnm, hnx]
      have d5 := (Below.refl w4.heap.size w4).alloc (Nat.le_refl _) (.cells #[.int .i64 (na : Nat), .int .i64 (nm : Nat), .int .i64 (nx : Nat)] 105)
      have x0 := x4.later d5
      have b1 := b4.trans (d5.mono b4.size)
      have u5 := Blk3s.new_ w4 105 (.int .i64 (na : Nat)) (.int .i64 (nm : Nat)) (.int .i64 (nx : Nat))
      obtain ⟨y0, y1, y2, -⟩ := id x0.reads
      obtain ⟨z0, z1, z2, -⟩ := id u5.reads
      clear x4 b4 d5 hna hnm hnx
      by_cases h0 : 0 < nx
      · have F : Hid (b = false) := HW.out (by omega)
        have e0 : decide ((0 : Int) < (nx : Int)) = true := decide_eq_true (by omega)
        have e1 : decide (0 < nx) = true := decide_eq_true h0
        clear h0
        go_wp2
        go_ret
        rw [F.out]
        exact .mk_ b1
      · have e0 : decide ((0 : Int) < (nx : Int)) = false := decide_eq_false (by omega)
        have e1 : decide (0 < nx) = false := decide_eq_false h0
        have HT' := hid (HB.out.trans (HT.out (by omega)))
        clear h0 HW HB HT NO HBP
        by_cases h3 : t.d = 3
        · have e2 : (t.d == 3) = true := beq_iff_eq.2 h3
          have CD : Hid (∀ y, Calls Try.prog 83 #[.agg #[.int .i64 (na : Nat), .int .i64 (nm : Nat), .int .i64 (nx : Nat)]] y (Ret (.int .i64 (decOf na nm)) y)) := fun y => decision_is na nm nx y
          obtain ⟨dd, hdd⟩ : ∃ x, decOf na nm = x := ⟨_, rfl⟩
          have HD := hid HT'.out
          rw [if_pos h3, hdd] at HD
          rw [hdd] at CD
          have F : Hid (b = (dd != 2)) := by
            show _ = _
            rw [Bool.eq_iff_iff, HD.out, bne_iff_ne]
          clear h3 hdd HD HT'
          go_wp2_with fail
          refine (CD.out _).mono ?_
          rintro e w6 ⟨rfl, d⟩
          replace x0 := x0.later d
          replace b1 := b1.trans (d.mono b1.size)
          clear y0 y1 y2 d
          obtain ⟨y0, y1, y2, -⟩ := id x0.reads
          go_wp2
          go_ret
          rw [F.out]
          exact .mk_ b1
        · have e2 : (t.d == 3) = false := beq_eq_false_iff_ne.2 h3
          have CD : Hid (∀ y, Calls Try.prog 83 #[.agg #[.int .i64 (na : Nat), .int .i64 (nm : Nat), .int .i64 (nx : Nat)]] y (Ret (.int .i64 (decOf na nm)) y)) := fun y => decision_is na nm nx y
          obtain ⟨dd, hdd⟩ : ∃ x, decOf na nm = x := ⟨_, rfl⟩
          have HD := hid HT'.out
          rw [if_neg h3, hdd] at HD
          rw [hdd] at CD
          have F : Hid (b = (t.d == dd)) := by
            show _ = _
            rw [Bool.eq_iff_iff, HD.out, beq_iff_eq]
          have G0 := Later.cell (p := ⟨w.heap.size, 2, none⟩) y2 x0.lt
          have G1 := Later.cell (p := ⟨w4.heap.size, 0, none⟩) z0 u5.lt
          have G2 := Later.cell (p := ⟨w4.heap.size, 1, none⟩) z1 u5.lt
          have G3 := Later.cell (p := ⟨w4.heap.size, 2, none⟩) z2 u5.lt
          have hz := b1.size
          clear h3 hdd HD HT'
          go_wp2_with fail
          refine wp_region_later (w4.alloc (.cells #[.int .i64 (na : Nat), .int .i64 (nm : Nat), .int .i64 (nx : Nat)] 105)).heap.size (by kernel_rfl) (by kernel_rfl) ?_
          repeat (go_big_quiet_step ((go_at_call 83; exact Later.call (Nat.le_refl _) _ (CD.out _))))
          refine wpQuiet_nil ?_
          intro _ hw'
          obtain ⟨xx, hxx⟩ := hw'
          have hbx := xx.b
          subst hxx
          replace b1 := b1.trans (hbx.mono hz)
          go_wp2
          go_ret
          rw [F.out]
          exact .mk_ b1
    · have e0 : ((t.vs.length : Int) != (t.ps.length : Int)) = true := by rw [bne_iff_ne]; omega
      have e1 : (t.vs.length != t.ps.length) = true := by rw [bne_iff_ne]; exact hl
      have F : Hid (b = false) := NO.out fun e => hl e.len
      clear hl
      go_wp2
      go_ret
      rw [F.out]
      exact .mk_ b1
end Go.Proofs.Ytjplondblkkpmaa
