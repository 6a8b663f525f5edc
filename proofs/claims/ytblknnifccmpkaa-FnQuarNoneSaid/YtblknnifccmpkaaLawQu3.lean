/-
  Walks of the laws on transactions without an area, and on areas that are discarded.
-/
import Derived.Test.YtblknnifccmpkaaLawQu2
namespace Go.Proofs.Ytblknnifccmpkaa
open Go.RowKit Wo Pu Qu

theorem FnQuarNone_no (A : Option Addr) (c : Nat) (bs : List Int) (w : World) (h : Code_ w A c bs) (hl : ¬ bs.length ≤ 1048576) :
    Calls Try.prog 12 #[.slice A bs.length c] w (Ret (.bool true) w) := by
  have hc := h.2.1
  have hm := h.2.2.1
  unfold maxLen at hm
  go_enter Try.func12, Try.ntmps12
  go_wp2
  go_ret
  exact .mk_ (Below.refl _ _)
set_option maxRecDepth 100000 in
set_option maxHeartbeats 4000000 in
theorem FnQuarNone_yes (A : Option Addr) (c : Nat) (bs : List Int) (w : World) (h : Code_ w A c bs) (hl : bs.length ≤ 1048576) :
    Calls Try.prog 12 #[.slice A bs.length c] w (Ret (.bool true) w) := by
  go_enter Try.func12, Try.ntmps12
  go_wp2_with fail
  refine (DrawQuarantinePromote_any A c bs _ h).mono ?_
  rintro e w1 ⟨v1, q, t, rfl, o1, f1, b1⟩
  have bw := b1
  clear b1
  have q1 := o1.quar
  obtain ⟨A3, c3, A4, c4, rfl, -, -, -, -⟩ := id o1
  obtain ⟨y, hy⟩ := pro_way q t
  have HSF := pro_sf hy
  obtain ⟨q', hq'⟩ : ∃ q', y.q q = q' := ⟨_, rfl⟩
  rw [hq'] at HSF
  obtain ⟨HSM, HFT⟩ := HSF
  have HY := hid hy
  have HQ := hid hq'
  clear hy hq' o1
  unfold qv at *
  obtain ⟨g1, hg⟩ : ∃ g, (w1).heap.size = g := ⟨_, rfl⟩
  have al := (Below.refl (w1).heap.size w1).alloc (Nat.le_refl _) (.cells #[.slice A3 q.m.length c3, .slice A4 q.rs.length c4] 26)
  have xn := BlkQ.new_ w1 26 (.slice A3 q.m.length c3) (.slice A4 q.rs.length c4)
  obtain ⟨w1', hw'⟩ : ∃ x, (w1).alloc (.cells #[.slice A3 q.m.length c3, .slice A4 q.rs.length c4] 26) = x := ⟨_, rfl⟩
  rw [hw'] at al xn
  rw [hg] at xn
  have x1 := xn
  clear xn
  have zz := (al).size
  try (replace ob := objs_on ob al)
  replace q1 := q1.on al zz
  replace bw := bw.trans ((al).mono bw.size)
  clear zz
  clear al
  obtain ⟨y10, y11, -⟩ := id x1.reads
  go_wp2_with fail
  refine (implQuarantinePromote_is y _ q t _ q1 f1 HY.out).mono ?_
  rintro e w3 o2
  unfold Changed at o2
  rw [HQ.out] at o2
  obtain ⟨v2, rfl, o2, d2⟩ := o2
  have q2 := o2.quar
  obtain ⟨A5, c5, A6, c6, rfl, -, -, -, -⟩ := id o2
  clear o2 y10 y11
  unfold qv at *
  replace x1 := x1.later d2
  have zz := (d2).size
  try (replace ob := objs_on ob d2)
  replace q1 := q1.on d2 zz
  replace bw := bw.trans ((d2).mono bw.size)
  clear zz
  obtain ⟨g2, hg⟩ : ∃ g, (w3).heap.size = g := ⟨_, rfl⟩
  have al := (Below.refl (w3).heap.size w3).alloc (Nat.le_refl _) (.cells #[.slice A5 q'.m.length c5, .slice A6 q'.rs.length c6] 26)
  have xn := BlkQ.new_ w3 26 (.slice A5 q'.m.length c5) (.slice A6 q'.rs.length c6)
  obtain ⟨w3', hw'⟩ : ∃ x, (w3).alloc (.cells #[.slice A5 q'.m.length c5, .slice A6 q'.rs.length c6] 26) = x := ⟨_, rfl⟩
  rw [hw'] at al xn
  rw [hg] at xn
  have x2 := xn
  clear xn d2
  replace x1 := x1.later al
  have zz := (al).size
  try (replace ob := objs_on ob al)
  replace q1 := q1.on al zz
  replace bw := bw.trans ((al).mono bw.size)
  clear zz
  replace q2 := q2.on al al.size
  clear al
  obtain ⟨y10, y11, -⟩ := id x1.reads
  obtain ⟨y20, y21, -⟩ := id x2.reads
  go_wp2_with fail
  refine (specQuarantinePromote_is y _ q t _ q1 f1 HY.out).mono ?_
  rintro e w5 o3
  unfold Changed at o3
  rw [HQ.out] at o3
  obtain ⟨v3, rfl, o3, d3⟩ := o3
  have q3 := o3.quar
  obtain ⟨A7, c7, A8, c8, rfl, -, -, -, -⟩ := id o3
  clear o3 y10 y11 y20 y21
  unfold qv at *
  replace x2 := x2.later d3
  replace q2 := q2.on d3 (d3).size
  replace x1 := x1.later d3
  have zz := (d3).size
  try (replace ob := objs_on ob d3)
  replace q1 := q1.on d3 zz
  replace bw := bw.trans ((d3).mono bw.size)
  clear zz
  obtain ⟨g3, hg⟩ : ∃ g, (w5).heap.size = g := ⟨_, rfl⟩
  have al := (Below.refl (w5).heap.size w5).alloc (Nat.le_refl _) (.cells #[.slice A7 q'.m.length c7, .slice A8 q'.rs.length c8] 26)
  have xn := BlkQ.new_ w5 26 (.slice A7 q'.m.length c7) (.slice A8 q'.rs.length c8)
  obtain ⟨w5', hw'⟩ : ∃ x, (w5).alloc (.cells #[.slice A7 q'.m.length c7, .slice A8 q'.rs.length c8] 26) = x := ⟨_, rfl⟩
  rw [hw'] at al xn
  rw [hg] at xn
  have x3 := xn
  clear xn d3
  replace x2 := x2.later al
  replace q2 := q2.on al (al).size
  replace x1 := x1.later al
  have zz := (al).size
  try (replace ob := objs_on ob al)
  replace q1 := q1.on al zz
  replace bw := bw.trans ((al).mono bw.size)
  clear zz
  replace q3 := q3.on al al.size
  clear al
  obtain ⟨y10, y11, -⟩ := id x1.reads
  obtain ⟨y20, y21, -⟩ := id x2.reads
  obtain ⟨y30, y31, -⟩ := id x3.reads
  cases y with
  | yes q0 =>
    unfold QWay.ok
    go_wp2_with fail
    refine (sameQuarantine_is _ _ q' _ q2 q3 HSM).mono ?_
    rintro e w7 ⟨rfl, d⟩
    clear y10 y11 y20 y21 y30 y31
    replace x3 := x3.later d
    replace q3 := q3.on d (d).size
    replace x2 := x2.later d
    replace q2 := q2.on d (d).size
    replace x1 := x1.later d
    have zz := (d).size
    try (replace ob := objs_on ob d)
    replace q1 := q1.on d zz
    replace bw := bw.trans ((d).mono bw.size)
    clear zz
    clear d
    obtain ⟨y10, y11, -⟩ := id x1.reads
    obtain ⟨y20, y21, -⟩ := id x2.reads
    obtain ⟨y30, y31, -⟩ := id x3.reads
    go_wp2_with fail
    refine (sameQuarantine_is _ _ q' _ q2 q3 HSM).mono ?_
    rintro e w8 ⟨rfl, d⟩
    clear y10 y11 y20 y21 y30 y31
    replace x3 := x3.later d
    replace q3 := q3.on d (d).size
    replace x2 := x2.later d
    replace q2 := q2.on d (d).size
    replace x1 := x1.later d
    have zz := (d).size
    try (replace ob := objs_on ob d)
    replace q1 := q1.on d zz
    replace bw := bw.trans ((d).mono bw.size)
    clear zz
    clear d
    obtain ⟨y10, y11, -⟩ := id x1.reads
    obtain ⟨y20, y21, -⟩ := id x2.reads
    obtain ⟨y30, y31, -⟩ := id x3.reads
    go_wp2
    go_ret
    exact .mk_ bw
  | bad =>
    unfold QWay.ok
    obtain ⟨bq, hbq⟩ := bool_of' (QV q)
    have CV : Hid (∀ x, Quar x x.heap.size (.agg #[.slice A3 q.m.length c3, .slice A4 q.rs.length c4]) q → Calls Try.prog 22 #[.agg #[.slice A3 q.m.length c3, .slice A4 q.rs.length c4]] x (Ret (.bool bq) x)) := fun x hx => specQuarantineValid_is bq _ q x hx f1 hbq
    go_wp2_with fail
    refine (sameQuarantine_is _ _ q' _ q2 q3 HSM).mono ?_
    rintro e w7 ⟨rfl, d⟩
    clear y10 y11 y20 y21 y30 y31
    replace x3 := x3.later d
    replace q3 := q3.on d (d).size
    replace x2 := x2.later d
    replace q2 := q2.on d (d).size
    replace x1 := x1.later d
    have zz := (d).size
    try (replace ob := objs_on ob d)
    replace q1 := q1.on d zz
    replace bw := bw.trans ((d).mono bw.size)
    clear zz
    clear d
    obtain ⟨y10, y11, -⟩ := id x1.reads
    obtain ⟨y20, y21, -⟩ := id x2.reads
    obtain ⟨y30, y31, -⟩ := id x3.reads
    go_wp2_with fail
    refine (CV.out _ q1).mono ?_
    rintro e w8 ⟨rfl, d8⟩
    clear y10 y11 y20 y21 y30 y31
    replace x3 := x3.later d8
    replace q3 := q3.on d8 (d8).size
    replace x2 := x2.later d8
    replace q2 := q2.on d8 (d8).size
    replace x1 := x1.later d8
    have zz := (d8).size
    try (replace ob := objs_on ob d8)
    replace q1 := q1.on d8 zz
    replace bw := bw.trans ((d8).mono bw.size)
    clear zz
    clear d8
    obtain ⟨y10, y11, -⟩ := id x1.reads
    obtain ⟨y20, y21, -⟩ := id x2.reads
    obtain ⟨y30, y31, -⟩ := id x3.reads
    cases bq with
    | false =>
      clear hbq CV
      go_wp2_with fail
      refine (sameQuarantine_is _ _ q' _ q2 q3 HSM).mono ?_
      rintro e w9 ⟨rfl, d⟩
      clear y10 y11 y20 y21 y30 y31
      replace x3 := x3.later d
      replace q3 := q3.on d (d).size
      replace x2 := x2.later d
      replace q2 := q2.on d (d).size
      replace x1 := x1.later d
      have zz := (d).size
      try (replace ob := objs_on ob d)
      replace q1 := q1.on d zz
      replace bw := bw.trans ((d).mono bw.size)
      clear zz
      clear d
      obtain ⟨y10, y11, -⟩ := id x1.reads
      obtain ⟨y20, y21, -⟩ := id x2.reads
      obtain ⟨y30, y31, -⟩ := id x3.reads
      go_wp2
      go_ret
      exact .mk_ bw
    | true =>
      have nt : ¬ TxnV t := fun e => HY.out ⟨hbq.1 rfl, e⟩
      by_cases h0 : t < 0
      · have e0 : decide (t < 0) = true := decide_eq_true h0
        clear hbq CV nt
        go_wp2_with fail
        refine (sameQuarantine_is _ _ q' _ q2 q3 HSM).mono ?_
        rintro e w9 ⟨rfl, d⟩
        clear y10 y11 y20 y21 y30 y31
        replace x3 := x3.later d
        replace q3 := q3.on d (d).size
        replace x2 := x2.later d
        replace q2 := q2.on d (d).size
        replace x1 := x1.later d
        have zz := (d).size
        try (replace ob := objs_on ob d)
        replace q1 := q1.on d zz
        replace bw := bw.trans ((d).mono bw.size)
        clear zz
        clear d
        obtain ⟨y10, y11, -⟩ := id x1.reads
        obtain ⟨y20, y21, -⟩ := id x2.reads
        obtain ⟨y30, y31, -⟩ := id x3.reads
        go_wp2
        go_ret
        exact .mk_ bw
      · have e0 : decide (t < 0) = false := decide_eq_false h0
        have h12 : 12 ≤ t := by unfold TxnV at nt; omega
        have e1 : decide (12 ≤ t) = true := decide_eq_true h12
        clear hbq CV nt
        go_wp2_with fail
        refine (sameQuarantine_is _ _ q' _ q2 q3 HSM).mono ?_
        rintro e w9 ⟨rfl, d⟩
        clear y10 y11 y20 y21 y30 y31
        replace x3 := x3.later d
        replace q3 := q3.on d (d).size
        replace x2 := x2.later d
        replace q2 := q2.on d (d).size
        replace x1 := x1.later d
        have zz := (d).size
        try (replace ob := objs_on ob d)
        replace q1 := q1.on d zz
        replace bw := bw.trans ((d).mono bw.size)
        clear zz
        clear d
        obtain ⟨y10, y11, -⟩ := id x1.reads
        obtain ⟨y20, y21, -⟩ := id x2.reads
        obtain ⟨y30, y31, -⟩ := id x3.reads
        go_wp2
        go_ret
        exact .mk_ bw
  | no =>
    unfold QWay.ok
    obtain ⟨⟨hqv, htv⟩, hno⟩ := HY.out
    have hE : q = q' := HQ.out
    subst hE
    have CV : Hid (∀ x, Quar x x.heap.size (.agg #[.slice A3 q.m.length c3, .slice A4 q.rs.length c4]) q → Calls Try.prog 22 #[.agg #[.slice A3 q.m.length c3, .slice A4 q.rs.length c4]] x (Ret (.bool true) x)) := fun x hx => specQuarantineValid_is true _ q x hx f1 ⟨fun _ => hqv, fun _ => rfl⟩
    have CD : Hid ((arOf q.rs t).length = 0 → IsDis q t .no) := fun h0 => ⟨⟨hqv, htv⟩, fun e => (has_iff hqv.2.1 t).1 e (List.length_eq_zero_iff.1 h0)⟩
    have e0 : decide (t < 0) = false := decide_eq_false (by have := htv.1; omega)
    have e1 : decide (12 ≤ t) = false := decide_eq_false (by have := htv.2; omega)
    have f10 := f1.2.2.1
    clear hqv htv hno HY
    go_wp2_with fail
    refine (sameQuarantine_is _ _ q _ q2 q3 HSM).mono ?_
    rintro e w7 ⟨rfl, d⟩
    clear y10 y11 y20 y21 y30 y31
    replace x3 := x3.later d
    replace q3 := q3.on d (d).size
    replace x2 := x2.later d
    replace q2 := q2.on d (d).size
    replace x1 := x1.later d
    have zz := (d).size
    try (replace ob := objs_on ob d)
    replace q1 := q1.on d zz
    replace bw := bw.trans ((d).mono bw.size)
    clear zz
    clear d
    obtain ⟨y10, y11, -⟩ := id x1.reads
    obtain ⟨y20, y21, -⟩ := id x2.reads
    go_wp2_with fail
    refine (CV.out _ q1).mono ?_
    rintro e w8 ⟨rfl, d⟩
    clear y10 y11 y20 y21
    replace x3 := x3.later d
    replace q3 := q3.on d (d).size
    replace x2 := x2.later d
    replace q2 := q2.on d (d).size
    replace x1 := x1.later d
    have zz := (d).size
    try (replace ob := objs_on ob d)
    replace q1 := q1.on d zz
    replace bw := bw.trans ((d).mono bw.size)
    clear zz
    clear d
    obtain ⟨y10, y11, -⟩ := id x1.reads
    obtain ⟨y20, y21, -⟩ := id x2.reads
    go_wp2_with fail
    refine (areaOf_any _ q t _ q1 f10).mono ?_
    rintro e w9 ⟨AA, cA, rfl, hcA, obA, d⟩
    clear y10 y11 y20 y21
    replace x3 := x3.later d
    replace q3 := q3.on d (d).size
    replace x2 := x2.later d
    replace q2 := q2.on d (d).size
    replace x1 := x1.later d
    have zz := (d).size
    try (replace ob := objs_on ob d)
    replace q1 := q1.on d zz
    replace bw := bw.trans ((d).mono bw.size)
    clear zz
    clear d
    obtain ⟨y10, y11, -⟩ := id x1.reads
    obtain ⟨y20, y21, -⟩ := id x2.reads
    by_cases hz : (arOf q.rs t).length = 0
    · have W2 := hid (CD.out hz)
      have g0 : decide ((0 : Int) < ((arOf q.rs t).length : Int)) = false := decide_eq_false (by omega)
      have g1' : decide (0 < (arOf q.rs t).length) = false := decide_eq_false (by omega)
      clear CV CD hz obA
      go_wp2_with fail
      refine (implQuarantineDiscard_is .no _ q t w9 q1 f1 W2.out).mono ?_
      rintro e w10 o4
      obtain ⟨y30, y31, -⟩ := id x3.reads
      replace o4 : NewQB q _ w9 e w10 := o4
      obtain ⟨v4, rfl, o4, d4⟩ := o4
      have q4 := o4.quar
      obtain ⟨A9, c9, A10, c10, rfl, -, -, -, -⟩ := id o4
      clear o4 y10 y11 y20 y21 y30 y31
      unfold qv at *
      replace x3 := x3.later d4
      replace q3 := q3.on d4 (d4).size
      replace x2 := x2.later d4
      replace q2 := q2.on d4 (d4).size
      replace x1 := x1.later d4
      have zz := (d4).size
      try (replace ob := objs_on ob d4)
      replace q1 := q1.on d4 zz
      replace bw := bw.trans ((d4).mono bw.size)
      clear zz
      obtain ⟨g4, hg⟩ : ∃ g, (w10).heap.size = g := ⟨_, rfl⟩
      have al := (Below.refl (w10).heap.size w10).alloc (Nat.le_refl _) (.cells #[.slice A9 (q).m.length c9, .slice A10 (q).rs.length c10] 26)
      have xn := BlkQ.new_ w10 26 (.slice A9 (q).m.length c9) (.slice A10 (q).rs.length c10)
      obtain ⟨w10', hw'⟩ : ∃ x, (w10).alloc (.cells #[.slice A9 (q).m.length c9, .slice A10 (q).rs.length c10] 26) = x := ⟨_, rfl⟩
      rw [hw'] at al xn
      rw [hg] at xn
      have x4 := xn
      clear xn d4
      replace x3 := x3.later al
      replace q3 := q3.on al (al).size
      replace x2 := x2.later al
      replace q2 := q2.on al (al).size
      replace x1 := x1.later al
      have zz := (al).size
      try (replace ob := objs_on ob al)
      replace q1 := q1.on al zz
      replace bw := bw.trans ((al).mono bw.size)
      clear zz
      replace q4 := q4.on al al.size
      clear al
      obtain ⟨y10, y11, -⟩ := id x1.reads
      obtain ⟨y20, y21, -⟩ := id x2.reads
      obtain ⟨y40, y41, -⟩ := id x4.reads
      unfold QWay.ok
      go_wp2_with fail
      refine (sameQuarantine_is _ _ q _ q2 q1 HSM).mono ?_
      rintro e w11 ⟨rfl, d⟩
      clear y10 y11 y20 y21 y40 y41
      have q4' := q4.on d d.size
      have x4' := x4.later d
      replace x2 := x2.later d
      replace q2 := q2.on d (d).size
      replace x1 := x1.later d
      have zz := (d).size
      try (replace ob := objs_on ob d)
      replace q1 := q1.on d zz
      replace bw := bw.trans ((d).mono bw.size)
      clear zz
      obtain ⟨y10, y11, -⟩ := id x1.reads
      obtain ⟨y40, y41, -⟩ := id x4'.reads
      go_wp2_with fail
      refine (sameQuarantine_is _ _ q _ q4' q1 HSM).mono ?_
      rintro e w12 ⟨rfl, d12⟩
      replace bw := bw.trans (d12.mono bw.size)
      go_wp2
      go_ret
      exact .mk_ bw
    · have g0 : decide ((0 : Int) < ((arOf q.rs t).length : Int)) = true := decide_eq_true (by omega)
      have g1' : decide (0 < (arOf q.rs t).length) = true := decide_eq_true (by omega)
      have g2' : 0 < (arOf q.rs t).length := by omega
      clear CV CD hz obA
      go_wp2_with fail
      refine (sameQuarantine_is _ _ q _ q2 q1 HSM).mono ?_
      rintro e w10 ⟨rfl, d⟩
      replace bw := bw.trans (d.mono bw.size)
      go_wp2
      go_ret
      exact .mk_ bw
theorem FnQuarNone_any (A : Option Addr) (c : Nat) (bs : List Int) (w : World) (f1 : Row w w.heap.size A (bs.map (Value.int .u8))) (f2 : bs.length ≤ c) (f3 : c ≤ maxLen) (f4 : ∀ n ∈ bs, 0 ≤ n ∧ n < 256) :
    Calls Try.prog 12 #[.slice A bs.length c] w (Ret (.bool true) w) := by
  by_cases hl : bs.length ≤ 1048576
  · exact FnQuarNone_yes A c bs w ⟨f1, f2, f3, f4⟩ hl
  · exact FnQuarNone_no A c bs w ⟨f1, f2, f3, f4⟩ hl
end Go.Proofs.Ytblknnifccmpkaa
