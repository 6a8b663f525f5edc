/-
  Walk of the law on objects put into quarantine.
-/
import Derived.Test.YtblknnifccmpkaaLawQu6
import Derived.Test.YtblknnifccmpkaaStoreV
namespace Go.Proofs.Ytblknnifccmpkaa
open Go.RowKit Wo Pu Qu

theorem FnQuarPut_no (A : Option Addr) (c : Nat) (bs : List Int) (w : World) (h : Code_ w A c bs) (hl : ¬ bs.length ≤ 1048576) :
    Calls Try.prog 3 #[.slice A bs.length c] w (Ret (.bool true) w) := by
  have hc := h.2.1
  have hm := h.2.2.1
  unfold maxLen at hm
  go_enter Try.func3, Try.ntmps3
  go_wp2
  go_ret
  exact .mk_ (Below.refl _ _)
set_option linter.unusedSimpArgs false in
set_option maxRecDepth 100000 in
set_option maxHeartbeats 16000000 in
theorem FnQuarPut_yes (A : Option Addr) (c : Nat) (bs : List Int) (w : World) (h : Code_ w A c bs) (hl : bs.length ≤ 1048576) :
    Calls Try.prog 3 #[.slice A bs.length c] w (Ret (.bool true) w) := by
  go_enter Try.func3, Try.ntmps3
  go_wp2_with fail
  refine (DrawQuarantinePut_any A c bs _ h).mono ?_
  rintro e w1 ⟨v1, q, t, AL, cL, os, rfl, q1, f1, ob, hol, -, hov, bw⟩
  have FO := fit_of hov
  have hol' : os.length ≤ 1048576 := by omega
  obtain ⟨A3, c3, A4, c4, rfl, -, -, -, -⟩ := id q1
  obtain ⟨y, hy⟩ := put_way q t os
  have HSF := put_sf hy
  obtain ⟨q', hq'⟩ : ∃ q', y.q q = q' := ⟨_, rfl⟩
  rw [hq'] at HSF
  obtain ⟨HSM, HFT⟩ := HSF
  have HY := hid hy
  have HQ := hid hq'
  clear hy hq'
  unfold qv at *
  obtain ⟨g1, hg⟩ : ∃ g, (w1).heap.size = g := ⟨_, rfl⟩
  have al := (Below.refl (w1).heap.size w1).alloc (Nat.le_refl _) (.cells #[.slice A3 q.m.length c3, .slice A4 q.rs.length c4] 26)
  have xn := BlkQ.new_ w1 26 (.slice A3 q.m.length c3) (.slice A4 q.rs.length c4)
  obtain ⟨w1', hw'⟩ : ∃ x, (w1).alloc (.cells #[.slice A3 q.m.length c3, .slice A4 q.rs.length c4] 26) = x := ⟨_, rfl⟩
  rw [hw'] at al xn
  rw [hg] at xn
  have x1 := xn
  clear xn
  have zz := (al).size
  try (replace ob := objs_on ob al)
  replace q1 := q1.on al zz
  replace bw := bw.trans ((al).mono bw.size)
  clear zz
  clear al
  obtain ⟨y10, y11, -⟩ := id x1.reads
  go_wp2_with fail
  refine (implQuarantinePut_is y _ q t AL cL os _ q1 f1 ob FO hol' HY.out).mono ?_
  rintro e w3 o2
  unfold Changed at o2
  rw [HQ.out] at o2
  obtain ⟨v2, rfl, o2, d2⟩ := o2
  have q2 := o2.quar
  obtain ⟨A5, c5, A6, c6, rfl, -, -, -, -⟩ := id o2
  clear o2 y10 y11
  unfold qv at *
  replace x1 := x1.later d2
  have zz := (d2).size
  try (replace ob := objs_on ob d2)
  replace q1 := q1.on d2 zz
  replace bw := bw.trans ((d2).mono bw.size)
  clear zz
  obtain ⟨g2, hg⟩ : ∃ g, (w3).heap.size = g := ⟨_, rfl⟩
  have al := (Below.refl (w3).heap.size w3).alloc (Nat.le_refl _) (.cells #[.slice A5 q'.m.length c5, .slice A6 q'.rs.length c6] 26)
  have xn := BlkQ.new_ w3 26 (.slice A5 q'.m.length c5) (.slice A6 q'.rs.length c6)
  obtain ⟨w3', hw'⟩ : ∃ x, (w3).alloc (.cells #[.slice A5 q'.m.length c5, .slice A6 q'.rs.length c6] 26) = x := ⟨_, rfl⟩
  rw [hw'] at al xn
  rw [hg] at xn
  have x2 := xn
  clear xn d2
  replace x1 := x1.later al
  have zz := (al).size
  try (replace ob := objs_on ob al)
  replace q1 := q1.on al zz
  replace bw := bw.trans ((al).mono bw.size)
  clear zz
  replace q2 := q2.on al al.size
  clear al
  obtain ⟨y10, y11, -⟩ := id x1.reads
  obtain ⟨y20, y21, -⟩ := id x2.reads
  go_wp2_with fail
  refine (specQuarantinePut_is y _ q t AL cL os _ q1 f1 ob FO hol' HY.out).mono ?_
  rintro e w5 o3
  unfold Changed at o3
  rw [HQ.out] at o3
  obtain ⟨v3, rfl, o3, d3⟩ := o3
  have q3 := o3.quar
  obtain ⟨A7, c7, A8, c8, rfl, -, -, -, -⟩ := id o3
  clear o3 y10 y11 y20 y21
  unfold qv at *
  replace x2 := x2.later d3
  replace q2 := q2.on d3 (d3).size
  replace x1 := x1.later d3
  have zz := (d3).size
  try (replace ob := objs_on ob d3)
  replace q1 := q1.on d3 zz
  replace bw := bw.trans ((d3).mono bw.size)
  clear zz
  obtain ⟨g3, hg⟩ : ∃ g, (w5).heap.size = g := ⟨_, rfl⟩
  have al := (Below.refl (w5).heap.size w5).alloc (Nat.le_refl _) (.cells #[.slice A7 q'.m.length c7, .slice A8 q'.rs.length c8] 26)
  have xn := BlkQ.new_ w5 26 (.slice A7 q'.m.length c7) (.slice A8 q'.rs.length c8)
  obtain ⟨w5', hw'⟩ : ∃ x, (w5).alloc (.cells #[.slice A7 q'.m.length c7, .slice A8 q'.rs.length c8] 26) = x := ⟨_, rfl⟩
  rw [hw'] at al xn
  rw [hg] at xn
  have x3 := xn
  clear xn d3
  replace x2 := x2.later al
  replace q2 := q2.on al (al).size
  replace x1 := x1.later al
  have zz := (al).size
  try (replace ob := objs_on ob al)
  replace q1 := q1.on al zz
  replace bw := bw.trans ((al).mono bw.size)
  clear zz
  replace q3 := q3.on al al.size
  clear al
  obtain ⟨y10, y11, -⟩ := id x1.reads
  obtain ⟨y20, y21, -⟩ := id x2.reads
  obtain ⟨y30, y31, -⟩ := id x3.reads
  cases y with
  | bad =>
    unfold QWay.ok
    have hno : ¬ (QV q ∧ TxnV t ∧ storeB os = true ∧ os ≠ []) := HY.out
    obtain ⟨bq, hbq⟩ := bool_of' (QV q)
    cases bq with
    | false =>
      have CQV : Hid (∀ y, Quar y y.heap.size (.agg #[.slice A3 q.m.length c3, .slice A4 q.rs.length c4]) q → Calls Try.prog 22 #[.agg #[.slice A3 q.m.length c3, .slice A4 q.rs.length c4]] y (Ret (.bool false) y)) := fun y hy => specQuarantineValid_is false _ q y hy f1 hbq
      clear hbq hno
      go_wp2_with fail
      refine (sameQuarantine_is _ _ q' _ q2 q3 HSM).mono ?_
      rintro e w7 ⟨rfl, d⟩
      clear y10 y11 y20 y21 y30 y31
      replace x3 := x3.later d
      replace q3 := q3.on d (d).size
      replace x2 := x2.later d
      replace q2 := q2.on d (d).size
      replace x1 := x1.later d
      have zz := (d).size
      try (replace ob := objs_on ob d)
      replace q1 := q1.on d zz
      replace bw := bw.trans ((d).mono bw.size)
      clear zz
      clear d
      obtain ⟨y10, y11, -⟩ := id x1.reads
      obtain ⟨y20, y21, -⟩ := id x2.reads
      obtain ⟨y30, y31, -⟩ := id x3.reads
      go_wp2_with fail
      refine (CQV.out _ q1).mono ?_
      rintro e w8 ⟨rfl, d⟩
      clear y10 y11 y20 y21 y30 y31
      replace x3 := x3.later d
      replace q3 := q3.on d (d).size
      replace x2 := x2.later d
      replace q2 := q2.on d (d).size
      replace x1 := x1.later d
      have zz := (d).size
      try (replace ob := objs_on ob d)
      replace q1 := q1.on d zz
      replace bw := bw.trans ((d).mono bw.size)
      clear zz
      clear d
      obtain ⟨y10, y11, -⟩ := id x1.reads
      obtain ⟨y20, y21, -⟩ := id x2.reads
      obtain ⟨y30, y31, -⟩ := id x3.reads
      go_wp2_with fail
      refine (sameQuarantine_is _ _ q' _ q2 q3 HSM).mono ?_
      rintro e w9 ⟨rfl, d⟩
      clear y10 y11 y20 y21 y30 y31
      replace x3 := x3.later d
      replace q3 := q3.on d (d).size
      replace x2 := x2.later d
      replace q2 := q2.on d (d).size
      replace x1 := x1.later d
      have zz := (d).size
      try (replace ob := objs_on ob d)
      replace q1 := q1.on d zz
      replace bw := bw.trans ((d).mono bw.size)
      clear zz
      clear d
      obtain ⟨y10, y11, -⟩ := id x1.reads
      obtain ⟨y20, y21, -⟩ := id x2.reads
      obtain ⟨y30, y31, -⟩ := id x3.reads
      go_wp2
      go_ret
      exact .mk_ bw
    | true =>
      have hqv := hbq.1 rfl
      have CQV : Hid (∀ y, Quar y y.heap.size (.agg #[.slice A3 q.m.length c3, .slice A4 q.rs.length c4]) q → Calls Try.prog 22 #[.agg #[.slice A3 q.m.length c3, .slice A4 q.rs.length c4]] y (Ret (.bool true) y)) := fun y hy => specQuarantineValid_is true _ q y hy f1 hbq
      clear hbq
      by_cases t0 : t < 0
      · clear hno
        go_wp2_with fail
        refine (sameQuarantine_is _ _ q' _ q2 q3 HSM).mono ?_
        rintro e w7 ⟨rfl, d⟩
        clear y10 y11 y20 y21 y30 y31
        replace x3 := x3.later d
        replace q3 := q3.on d (d).size
        replace x2 := x2.later d
        replace q2 := q2.on d (d).size
        replace x1 := x1.later d
        have zz := (d).size
        try (replace ob := objs_on ob d)
        replace q1 := q1.on d zz
        replace bw := bw.trans ((d).mono bw.size)
        clear zz
        clear d
        obtain ⟨y10, y11, -⟩ := id x1.reads
        obtain ⟨y20, y21, -⟩ := id x2.reads
        obtain ⟨y30, y31, -⟩ := id x3.reads
        go_wp2_with fail
        refine (CQV.out _ q1).mono ?_
        rintro e w8 ⟨rfl, d⟩
        clear y10 y11 y20 y21 y30 y31
        replace x3 := x3.later d
        replace q3 := q3.on d (d).size
        replace x2 := x2.later d
        replace q2 := q2.on d (d).size
        replace x1 := x1.later d
        have zz := (d).size
        try (replace ob := objs_on ob d)
        replace q1 := q1.on d zz
        replace bw := bw.trans ((d).mono bw.size)
        clear zz
        clear d
        obtain ⟨y10, y11, -⟩ := id x1.reads
        obtain ⟨y20, y21, -⟩ := id x2.reads
        obtain ⟨y30, y31, -⟩ := id x3.reads
        go_wp2_with fail
        refine (sameQuarantine_is _ _ q' _ q2 q3 HSM).mono ?_
        rintro e w9 ⟨rfl, d⟩
        clear y10 y11 y20 y21 y30 y31
        replace x3 := x3.later d
        replace q3 := q3.on d (d).size
        replace x2 := x2.later d
        replace q2 := q2.on d (d).size
        replace x1 := x1.later d
        have zz := (d).size
        try (replace ob := objs_on ob d)
        replace q1 := q1.on d zz
        replace bw := bw.trans ((d).mono bw.size)
        clear zz
        clear d
        obtain ⟨y10, y11, -⟩ := id x1.reads
        obtain ⟨y20, y21, -⟩ := id x2.reads
        obtain ⟨y30, y31, -⟩ := id x3.reads
        go_wp2
        go_ret
        exact .mk_ bw
      · by_cases t1 : 12 ≤ t
        · have t0' : 0 ≤ t := by omega
          clear hno
          go_wp2_with fail
          refine (sameQuarantine_is _ _ q' _ q2 q3 HSM).mono ?_
          rintro e w7 ⟨rfl, d⟩
          clear y10 y11 y20 y21 y30 y31
          replace x3 := x3.later d
          replace q3 := q3.on d (d).size
          replace x2 := x2.later d
          replace q2 := q2.on d (d).size
          replace x1 := x1.later d
          have zz := (d).size
          try (replace ob := objs_on ob d)
          replace q1 := q1.on d zz
          replace bw := bw.trans ((d).mono bw.size)
          clear zz
          clear d
          obtain ⟨y10, y11, -⟩ := id x1.reads
          obtain ⟨y20, y21, -⟩ := id x2.reads
          obtain ⟨y30, y31, -⟩ := id x3.reads
          go_wp2_with fail
          refine (CQV.out _ q1).mono ?_
          rintro e w8 ⟨rfl, d⟩
          clear y10 y11 y20 y21 y30 y31
          replace x3 := x3.later d
          replace q3 := q3.on d (d).size
          replace x2 := x2.later d
          replace q2 := q2.on d (d).size
          replace x1 := x1.later d
          have zz := (d).size
          try (replace ob := objs_on ob d)
          replace q1 := q1.on d zz
          replace bw := bw.trans ((d).mono bw.size)
          clear zz
          clear d
          obtain ⟨y10, y11, -⟩ := id x1.reads
          obtain ⟨y20, y21, -⟩ := id x2.reads
          obtain ⟨y30, y31, -⟩ := id x3.reads
          go_wp2_with fail
          refine (sameQuarantine_is _ _ q' _ q2 q3 HSM).mono ?_
          rintro e w9 ⟨rfl, d⟩
          clear y10 y11 y20 y21 y30 y31
          replace x3 := x3.later d
          replace q3 := q3.on d (d).size
          replace x2 := x2.later d
          replace q2 := q2.on d (d).size
          replace x1 := x1.later d
          have zz := (d).size
          try (replace ob := objs_on ob d)
          replace q1 := q1.on d zz
          replace bw := bw.trans ((d).mono bw.size)
          clear zz
          clear d
          obtain ⟨y10, y11, -⟩ := id x1.reads
          obtain ⟨y20, y21, -⟩ := id x2.reads
          obtain ⟨y30, y31, -⟩ := id x3.reads
          go_wp2
          go_ret
          exact .mk_ bw
        · have t0' : 0 ≤ t := by omega
          have t1' : t < 12 := by omega
          have htv : TxnV t := ⟨t0', by omega⟩
          cases hsb : storeB os with
          | false =>
            have CSV : Hid (∀ y, Objs y y.heap.size AL os → Calls Try.prog 23 #[.slice AL os.length cL] y (Ret (.bool false) y)) := fun y hy => by
              have := specStoreValid_any AL cL os y hy FO (by unfold maxLen; omega)
              rw [hsb] at this
              exact this
            clear hno htv hsb t0 t1
            go_wp2_with fail
            refine (sameQuarantine_is _ _ q' _ q2 q3 HSM).mono ?_
            rintro e w7 ⟨rfl, d⟩
            clear y10 y11 y20 y21 y30 y31
            replace x3 := x3.later d
            replace q3 := q3.on d (d).size
            replace x2 := x2.later d
            replace q2 := q2.on d (d).size
            replace x1 := x1.later d
            have zz := (d).size
            try (replace ob := objs_on ob d)
            replace q1 := q1.on d zz
            replace bw := bw.trans ((d).mono bw.size)
            clear zz
            clear d
            obtain ⟨y10, y11, -⟩ := id x1.reads
            obtain ⟨y20, y21, -⟩ := id x2.reads
            obtain ⟨y30, y31, -⟩ := id x3.reads
            go_wp2_with fail
            refine (CQV.out _ q1).mono ?_
            rintro e w8 ⟨rfl, d⟩
            clear y10 y11 y20 y21 y30 y31
            replace x3 := x3.later d
            replace q3 := q3.on d (d).size
            replace x2 := x2.later d
            replace q2 := q2.on d (d).size
            replace x1 := x1.later d
            have zz := (d).size
            try (replace ob := objs_on ob d)
            replace q1 := q1.on d zz
            replace bw := bw.trans ((d).mono bw.size)
            clear zz
            clear d
            obtain ⟨y10, y11, -⟩ := id x1.reads
            obtain ⟨y20, y21, -⟩ := id x2.reads
            obtain ⟨y30, y31, -⟩ := id x3.reads
            go_wp2_with fail
            refine (CSV.out _ ob).mono ?_
            rintro e w9 ⟨rfl, d⟩
            clear y10 y11 y20 y21 y30 y31
            replace x3 := x3.later d
            replace q3 := q3.on d (d).size
            replace x2 := x2.later d
            replace q2 := q2.on d (d).size
            replace x1 := x1.later d
            have zz := (d).size
            try (replace ob := objs_on ob d)
            replace q1 := q1.on d zz
            replace bw := bw.trans ((d).mono bw.size)
            clear zz
            clear d
            obtain ⟨y10, y11, -⟩ := id x1.reads
            obtain ⟨y20, y21, -⟩ := id x2.reads
            obtain ⟨y30, y31, -⟩ := id x3.reads
            go_wp2_with fail
            refine (sameQuarantine_is _ _ q' _ q2 q3 HSM).mono ?_
            rintro e w10 ⟨rfl, d⟩
            clear y10 y11 y20 y21 y30 y31
            replace x3 := x3.later d
            replace q3 := q3.on d (d).size
            replace x2 := x2.later d
            replace q2 := q2.on d (d).size
            replace x1 := x1.later d
            have zz := (d).size
            try (replace ob := objs_on ob d)
            replace q1 := q1.on d zz
            replace bw := bw.trans ((d).mono bw.size)
            clear zz
            clear d
            obtain ⟨y10, y11, -⟩ := id x1.reads
            obtain ⟨y20, y21, -⟩ := id x2.reads
            obtain ⟨y30, y31, -⟩ := id x3.reads
            go_wp2
            go_ret
            exact .mk_ bw
          | true =>
            have CSV : Hid (∀ y, Objs y y.heap.size AL os → Calls Try.prog 23 #[.slice AL os.length cL] y (Ret (.bool true) y)) := fun y hy => by
              have := specStoreValid_any AL cL os y hy FO (by unfold maxLen; omega)
              rw [hsb] at this
              exact this
            have hnil : os = [] := Classical.byContradiction fun hn => hno ⟨hqv, htv, hsb, hn⟩
            have e0 : ((os.length : Int) == 0) = true := by rw [hnil]; rfl
            clear hno htv hsb t0 t1 hnil
            go_wp2_with fail
            refine (sameQuarantine_is _ _ q' _ q2 q3 HSM).mono ?_
            rintro e w7 ⟨rfl, d⟩
            clear y10 y11 y20 y21 y30 y31
            replace x3 := x3.later d
            replace q3 := q3.on d (d).size
            replace x2 := x2.later d
            replace q2 := q2.on d (d).size
            replace x1 := x1.later d
            have zz := (d).size
            try (replace ob := objs_on ob d)
            replace q1 := q1.on d zz
            replace bw := bw.trans ((d).mono bw.size)
            clear zz
            clear d
            obtain ⟨y10, y11, -⟩ := id x1.reads
            obtain ⟨y20, y21, -⟩ := id x2.reads
            obtain ⟨y30, y31, -⟩ := id x3.reads
            go_wp2_with fail
            refine (CQV.out _ q1).mono ?_
            rintro e w8 ⟨rfl, d⟩
            clear y10 y11 y20 y21 y30 y31
            replace x3 := x3.later d
            replace q3 := q3.on d (d).size
            replace x2 := x2.later d
            replace q2 := q2.on d (d).size
            replace x1 := x1.later d
            have zz := (d).size
            try (replace ob := objs_on ob d)
            replace q1 := q1.on d zz
            replace bw := bw.trans ((d).mono bw.size)
            clear zz
            clear d
            obtain ⟨y10, y11, -⟩ := id x1.reads
            obtain ⟨y20, y21, -⟩ := id x2.reads
            obtain ⟨y30, y31, -⟩ := id x3.reads
            go_wp2_with fail
            refine (CSV.out _ ob).mono ?_
            rintro e w9 ⟨rfl, d⟩
            clear y10 y11 y20 y21 y30 y31
            replace x3 := x3.later d
            replace q3 := q3.on d (d).size
            replace x2 := x2.later d
            replace q2 := q2.on d (d).size
            replace x1 := x1.later d
            have zz := (d).size
            try (replace ob := objs_on ob d)
            replace q1 := q1.on d zz
            replace bw := bw.trans ((d).mono bw.size)
            clear zz
            clear d
            obtain ⟨y10, y11, -⟩ := id x1.reads
            obtain ⟨y20, y21, -⟩ := id x2.reads
            obtain ⟨y30, y31, -⟩ := id x3.reads
            go_wp2_with fail
            refine (sameQuarantine_is _ _ q' _ q2 q3 HSM).mono ?_
            rintro e w10 ⟨rfl, d⟩
            clear y10 y11 y20 y21 y30 y31
            replace x3 := x3.later d
            replace q3 := q3.on d (d).size
            replace x2 := x2.later d
            replace q2 := q2.on d (d).size
            replace x1 := x1.later d
            have zz := (d).size
            try (replace ob := objs_on ob d)
            replace q1 := q1.on d zz
            replace bw := bw.trans ((d).mono bw.size)
            clear zz
            clear d
            obtain ⟨y10, y11, -⟩ := id x1.reads
            obtain ⟨y20, y21, -⟩ := id x2.reads
            obtain ⟨y30, y31, -⟩ := id x3.reads
            go_wp2
            go_ret
            exact .mk_ bw
  | no =>
    unfold QWay.ok
    obtain ⟨⟨hqv, htv, hsb, hne⟩, -⟩ := HY.out
    have hE : q = q' := HQ.out
    have hm : q'.m = q.m := by rw [← hE]
    obtain ⟨ar, har⟩ : ∃ ar, arOf q'.rs t = ar := ⟨_, rfl⟩
    have hold : arOf q.rs t = ar := by rw [hE]; exact har
    have HTS : Hid (storeB ar = true) := by show storeB ar = true; rw [← hold]; exact arOf_store hqv.2.1 t
    obtain ⟨old, ho⟩ : ∃ old, ar = old := ⟨_, rfl⟩
    have HIN2 : Hid (∀ o ∈ old, o ∈ ar) := fun o h => by rw [ho]; exact h
    have HS2 : Hid (storeB old = true) := by show storeB old = true; rw [← ho]; exact HTS.out
    replace hold : arOf q.rs t = old := by rw [hold]; exact ho
    clear ho
    have hal : ar.length ≤ 1048576 := by have := (storeB_parts HTS.out).2; omega
    have hol2 : old.length ≤ 1048576 := by have := (storeB_parts HS2.out).2; omega
    have HMM := hid hm
    have HSM1 := hid hqv.small
    have t0' : 0 ≤ t := htv.1
    have t1' : t < 12 := by have := htv.2; omega
    have HNE : Hid (os.length ≠ 0) := fun e => hne (List.length_eq_zero_iff.1 e)
    have e0 : ((os.length : Int) == 0) = false := by
      rw [beq_eq_false_iff_ne]
      have := HNE.out
      omega
    have CSV : Hid (∀ y, Objs y y.heap.size AL os → Calls Try.prog 23 #[.slice AL os.length cL] y (Ret (.bool true) y)) := fun y hy => by
      have := specStoreValid_any AL cL os y hy FO (by unfold maxLen; omega)
      rw [hsb] at this
      exact this
    have CQV : Hid (∀ y, Quar y y.heap.size (.agg #[.slice A3 q.m.length c3, .slice A4 q.rs.length c4]) q → Calls Try.prog 22 #[.agg #[.slice A3 q.m.length c3, .slice A4 q.rs.length c4]] y (Ret (.bool true) y)) := fun y hy => specQuarantineValid_is true _ q y hy f1 ⟨fun _ => hqv, fun _ => rfl⟩
    have CAR : Hid (∀ x, Quar x x.heap.size (.agg #[.slice A5 q'.m.length c5, .slice A6 q'.rs.length c6]) q' → Calls Try.prog 25 #[.agg #[.slice A5 q'.m.length c5, .slice A6 q'.rs.length c6], .int .i64 t] x (Shown ar x)) := fun x hx => by
      have := areaOf_any _ q' t x hx HFT.2.2.1
      rw [har] at this
      exact this
    have CAO : Hid (∀ x, Quar x x.heap.size (.agg #[.slice A3 q.m.length c3, .slice A4 q.rs.length c4]) q → Calls Try.prog 25 #[.agg #[.slice A3 q.m.length c3, .slice A4 q.rs.length c4], .int .i64 t] x (Shown old x)) := fun x hx => by
      have := areaOf_any _ q t x hx f1.2.2.1
      rw [hold] at this
      exact this
    have CSO : Hid (∀ x, Objs x x.heap.size A5 q'.m → Objs x x.heap.size A3 q.m → Calls Try.prog 24 #[.slice A5 q'.m.length c5, .slice A3 q.m.length c3] x (Ret (.bool true) x)) := fun x h1 h2 => by
      rw [HMM.out] at h1 ⊢
      exact sameObjectsQ A5 A3 c5 c3 q.m x h1 h2 HSM1.out.2.1 HSM1.out.1
    have CEQ : Hid (∀ x, Quar x x.heap.size (.agg #[.slice A5 q'.m.length c5, .slice A6 q'.rs.length c6]) q' → Quar x x.heap.size (.agg #[.slice A3 q.m.length c3, .slice A4 q.rs.length c4]) q → Calls Try.prog 21 #[.agg #[.slice A5 q'.m.length c5, .slice A6 q'.rs.length c6], .agg #[.slice A3 q.m.length c3, .slice A4 q.rs.length c4]] x (Ret (.bool true) x)) := fun x h1 h2 => by
      refine sameQuarantine_is _ _ q' x h1 ?_ HSM
      have h3 := h2
      rw [hE] at h3 ⊢
      exact h3
    clear hqv htv hne hm har hold hsb HY hE
    go_wp2_with fail
    refine (sameQuarantine_is _ _ q' _ q2 q3 HSM).mono ?_
    rintro e w7 ⟨rfl, d⟩
    clear y10 y11 y20 y21 y30 y31
    replace x3 := x3.later d
    replace q3 := q3.on d (d).size
    replace x2 := x2.later d
    replace q2 := q2.on d (d).size
    replace x1 := x1.later d
    have zz := (d).size
    try (replace ob := objs_on ob d)
    replace q1 := q1.on d zz
    replace bw := bw.trans ((d).mono bw.size)
    clear zz
    clear d
    obtain ⟨y10, y11, -⟩ := id x1.reads
    obtain ⟨y20, y21, -⟩ := id x2.reads
    obtain ⟨y30, y31, -⟩ := id x3.reads
    go_wp2_with fail
    refine (CQV.out _ q1).mono ?_
    rintro e w8 ⟨rfl, d⟩
    clear y10 y11 y20 y21 y30 y31
    replace x3 := x3.later d
    replace q3 := q3.on d (d).size
    replace x2 := x2.later d
    replace q2 := q2.on d (d).size
    replace x1 := x1.later d
    have zz := (d).size
    try (replace ob := objs_on ob d)
    replace q1 := q1.on d zz
    replace bw := bw.trans ((d).mono bw.size)
    clear zz
    clear d
    obtain ⟨y10, y11, -⟩ := id x1.reads
    obtain ⟨y20, y21, -⟩ := id x2.reads
    obtain ⟨y30, y31, -⟩ := id x3.reads
    go_wp2_with fail
    refine (CSV.out _ ob).mono ?_
    rintro e w9 ⟨rfl, d⟩
    clear y10 y11 y20 y21 y30 y31
    replace x3 := x3.later d
    replace q3 := q3.on d (d).size
    replace x2 := x2.later d
    replace q2 := q2.on d (d).size
    replace x1 := x1.later d
    have zz := (d).size
    try (replace ob := objs_on ob d)
    replace q1 := q1.on d zz
    replace bw := bw.trans ((d).mono bw.size)
    clear zz
    clear d
    obtain ⟨y10, y11, -⟩ := id x1.reads
    obtain ⟨y20, y21, -⟩ := id x2.reads
    obtain ⟨y30, y31, -⟩ := id x3.reads
    go_wp2_with fail
    refine (CSO.out _ q2.main q1.main).mono ?_
    rintro e w10 ⟨rfl, d⟩
    clear y10 y11 y20 y21 y30 y31
    replace x3 := x3.later d
    replace q3 := q3.on d (d).size
    replace x2 := x2.later d
    replace q2 := q2.on d (d).size
    replace x1 := x1.later d
    have zz := (d).size
    try (replace ob := objs_on ob d)
    replace q1 := q1.on d zz
    replace bw := bw.trans ((d).mono bw.size)
    clear zz
    clear d
    obtain ⟨y10, y11, -⟩ := id x1.reads
    obtain ⟨y20, y21, -⟩ := id x2.reads
    obtain ⟨y30, y31, -⟩ := id x3.reads
    clear CSO
    go_wp2_with fail
    refine (CAR.out _ q2).mono ?_
    rintro e w11 ⟨AT, cT, rfl, hcT, obT, d⟩
    clear y10 y11 y20 y21 y30 y31
    replace x3 := x3.later d
    replace q3 := q3.on d (d).size
    replace x2 := x2.later d
    replace q2 := q2.on d (d).size
    replace x1 := x1.later d
    have zz := (d).size
    try (replace ob := objs_on ob d)
    replace q1 := q1.on d zz
    replace bw := bw.trans ((d).mono bw.size)
    clear zz
    clear d
    obtain ⟨y10, y11, -⟩ := id x1.reads
    obtain ⟨y20, y21, -⟩ := id x2.reads
    obtain ⟨y30, y31, -⟩ := id x3.reads
    clear CAR
    go_wp2_with fail
    refine (CAO.out _ q1).mono ?_
    rintro e w12 ⟨AO, cO, rfl, hcO, obO, d⟩
    replace obT := objs_on obT d
    clear y10 y11 y20 y21 y30 y31
    replace x3 := x3.later d
    replace q3 := q3.on d (d).size
    replace x2 := x2.later d
    replace q2 := q2.on d (d).size
    replace x1 := x1.later d
    have zz := (d).size
    try (replace ob := objs_on ob d)
    replace q1 := q1.on d zz
    replace bw := bw.trans ((d).mono bw.size)
    clear zz
    clear d
    obtain ⟨y10, y11, -⟩ := id x1.reads
    obtain ⟨y20, y21, -⟩ := id x2.reads
    obtain ⟨y30, y31, -⟩ := id x3.reads
    clear CAO y10 y11 y20 y21 y30 y31 x3 q3
    go_wp2_with fail
    go_loopw [12] (fun i wr => i = .int .i64 0 ∧ Below w12.heap.size w12 wr) (fun i _ => 0)
    case atStart => exact ⟨rfl, Below.refl _ _⟩
    case round =>
      obtain ⟨rfl, hb⟩ := hrel
      replace x2 := x2.later hb
      replace q2 := q2.on hb (hb).size
      replace x1 := x1.later hb
      have zz := (hb).size
      try (replace ob := objs_on ob hb)
      replace q1 := q1.on hb zz
      replace bw := bw.trans ((hb).mono bw.size)
      clear zz
      replace obT := objs_on obT hb
      replace obO := objs_on obO hb
      clear hb
      have k1 : (0 : Int) < (os.length : Int) := by have := HNE.out; omega
      go_wp2_with fail
      go_loopw [15] (fun i wq => ∃ k : Nat, k ≤ old.length ∧ i = .int .i64 k ∧ Below wr.heap.size wr wq) (fun i _ => old.length - (intOf i).toNat)
      case atStart => exact ⟨0, Nat.zero_le _, rfl, Below.refl _ _⟩
      case round =>
        obtain ⟨k, hk, rfl, hb⟩ := hrel
        replace x2 := x2.later hb
        replace q2 := q2.on hb (hb).size
        replace x1 := x1.later hb
        have zz := (hb).size
        try (replace ob := objs_on ob hb)
        replace q1 := q1.on hb zz
        replace bw := bw.trans ((hb).mono bw.size)
        clear zz
        replace obT := objs_on obT hb
        replace obO := objs_on obO hb
        by_cases hlt : k < old.length
        · have HSL := HS2
          have HIN := HIN2
          obtain ⟨o, ad, A', c', hoe, hA, ha, g0, gc1, gc2, gr⟩ := (obO).obj hlt
          subst hA
          have hom : o ∈ old := by rw [← hoe]; exact List.getElem_mem hlt
          have hlen := store_len HSL.out hom
          obtain ⟨x, hx⟩ : ∃ x, iOb o = x := ⟨_, rfl⟩
          have k0 : 0 ≤ (k : Int) := by omega
          have k1 : (k : Int) < ((old).length : Int) := by omega
          have CID : Hid (Calls Try.prog 27 #[.agg #[.int .i64 o.kd, .slice A' o.zs.length c', .string o.s]] wr (Ret (.int .i64 x) wr)) := objectId_q x _ A' c' o wr gr (Nat.le_refl _) hlen.1 hlen.2 hx
          have CSG : Hid (∀ y, Below wr.heap.size wr y → Calls Try.prog 26 #[.slice AT ar.length cT, .int .i64 x] y (GotO o y)) := fun y hy => by
            rw [← hx]
            exact get_there AT cT ar o y (objs_on obT hy) HTS.out (HIN.out o hom)
          clear hx hoe
          go_wp2_with fail
          refine (CID.out).mono ?_
          rintro e w8 ⟨rfl, b8⟩
          go_wp2_with fail
          refine (CSG.out _ b8).mono ?_
          rintro e w9 ⟨A8, c8, rfl, o9, d9⟩
          have b9 := b8.trans (d9.mono b8.size)
          obtain ⟨bx, hbx⟩ : ∃ b, w9.heap.size = b := ⟨_, rfl⟩
          have al := (Below.refl w9.heap.size w9).alloc (Nat.le_refl _) (.cells #[.int .i64 o.kd, .slice A8 o.zs.length c8, .string o.s] 38)
          have uV := Blk.new_ w9 38 (.int .i64 o.kd) (.slice A8 o.zs.length c8) (.string o.s)
          obtain ⟨V0, hV0⟩ : ∃ x, w9.alloc (.cells #[.int .i64 o.kd, .slice A8 o.zs.length c8, .string o.s] 38) = x := ⟨_, rfl⟩
          rw [hV0] at al uV
          rw [hbx] at uV
          have bV := b9.trans (al.mono b9.size)
          go_wp2
          go_roundw
          case rel => exact ⟨k + 1, by omega, by go_num, hb.trans (bV.mono hb.size)⟩
          case measure => simp [intOf]; omega
        · have hk' : k = old.length := by omega
          subst hk'
          clear hk hlt hb
          obtain ⟨y10, y11, -⟩ := id x1.reads
          obtain ⟨y20, y21, -⟩ := id x2.reads
          first
          | (go_wp2_with fail
             refine (CEQ.out _ q2 q1).mono ?_
             rintro e w13 ⟨rfl, d⟩
             replace bw := bw.trans (d.mono bw.size)
             go_wp2
             go_ret
             exact .mk_ bw)
          | (go_wp2
             go_ret
             exact .mk_ bw)
  | yes q0 =>
    unfold QWay.ok
    have hE : q' = q0 := HQ.out.symm
    subst hE
    obtain ⟨⟨hqv, htv, hsb, hne⟩, xs, z, hc, hq0⟩ := HY.out
    have hdv := put_valid hqv htv hne hc
    rw [← hq0] at hdv
    have hm : q'.m = q.m := by rw [hq0]
    have hrs : q'.rs = setA q.rs t xs := by rw [hq0]
    have hat : arOf q'.rs t = xs := by rw [hrs, hdv.2.1, if_pos rfl]
    obtain ⟨ar, har⟩ : ∃ ar, arOf q'.rs t = ar := ⟨_, rfl⟩
    obtain ⟨old, hold⟩ : ∃ old, arOf q.rs t = old := ⟨_, rfl⟩
    have hu : Uni old os ar := by rw [← hold, ← har, hat]; exact hc.1
    have HTS := hid hu.1
    have HIN1 : Hid (∀ o ∈ os, o ∈ ar) := fun o ho => (hu.2 o).2 (.inr ho)
    have HIN2 : Hid (∀ o ∈ old, o ∈ ar) := fun o ho => (hu.2 o).2 (.inl ho)
    have HS1 := hid hsb
    have HS2 : Hid (storeB old = true) := by show storeB old = true; rw [← hold]; exact arOf_store hqv.2.1 t
    have hal : ar.length ≤ 1048576 := by have := (storeB_parts HTS.out).2; omega
    have hol2 : old.length ≤ 1048576 := by have := (storeB_parts HS2.out).2; omega
    have HMM := hid hm
    have HSM1 := hid hqv.small
    have t0' : 0 ≤ t := htv.1
    have t1' : t < 12 := by have := htv.2; omega
    have HNE : Hid (os.length ≠ 0) := fun e => hne (List.length_eq_zero_iff.1 e)
    have e0 : ((os.length : Int) == 0) = false := by
      rw [beq_eq_false_iff_ne]
      have := HNE.out
      omega
    have CSV : Hid (∀ y, Objs y y.heap.size AL os → Calls Try.prog 23 #[.slice AL os.length cL] y (Ret (.bool true) y)) := fun y hy => by
      have := specStoreValid_any AL cL os y hy FO (by unfold maxLen; omega)
      rw [hsb] at this
      exact this
    have CQV : Hid (∀ y, Quar y y.heap.size (.agg #[.slice A3 q.m.length c3, .slice A4 q.rs.length c4]) q → Calls Try.prog 22 #[.agg #[.slice A3 q.m.length c3, .slice A4 q.rs.length c4]] y (Ret (.bool true) y)) := fun y hy => specQuarantineValid_is true _ q y hy f1 ⟨fun _ => hqv, fun _ => rfl⟩
    have CAR : Hid (∀ x, Quar x x.heap.size (.agg #[.slice A5 q'.m.length c5, .slice A6 q'.rs.length c6]) q' → Calls Try.prog 25 #[.agg #[.slice A5 q'.m.length c5, .slice A6 q'.rs.length c6], .int .i64 t] x (Shown ar x)) := fun x hx => by
      have := areaOf_any _ q' t x hx HFT.2.2.1
      rw [har] at this
      exact this
    have CAO : Hid (∀ x, Quar x x.heap.size (.agg #[.slice A3 q.m.length c3, .slice A4 q.rs.length c4]) q → Calls Try.prog 25 #[.agg #[.slice A3 q.m.length c3, .slice A4 q.rs.length c4], .int .i64 t] x (Shown old x)) := fun x hx => by
      have := areaOf_any _ q t x hx f1.2.2.1
      rw [hold] at this
      exact this
    have CSO : Hid (∀ x, Objs x x.heap.size A5 q'.m → Objs x x.heap.size A3 q.m → Calls Try.prog 24 #[.slice A5 q'.m.length c5, .slice A3 q.m.length c3] x (Ret (.bool true) x)) := fun x h1 h2 => by
      rw [HMM.out] at h1 ⊢
      exact sameObjectsQ A5 A3 c5 c3 q.m x h1 h2 HSM1.out.2.1 HSM1.out.1
    clear hqv htv hne hc hq0 hdv hm hrs hat har hold hu hsb HY
    have CEQ := HMM
    go_wp2_with fail
    refine (sameQuarantine_is _ _ q' _ q2 q3 HSM).mono ?_
    rintro e w7 ⟨rfl, d⟩
    clear y10 y11 y20 y21 y30 y31
    replace x3 := x3.later d
    replace q3 := q3.on d (d).size
    replace x2 := x2.later d
    replace q2 := q2.on d (d).size
    replace x1 := x1.later d
    have zz := (d).size
    try (replace ob := objs_on ob d)
    replace q1 := q1.on d zz
    replace bw := bw.trans ((d).mono bw.size)
    clear zz
    clear d
    obtain ⟨y10, y11, -⟩ := id x1.reads
    obtain ⟨y20, y21, -⟩ := id x2.reads
    obtain ⟨y30, y31, -⟩ := id x3.reads
    go_wp2_with fail
    refine (CQV.out _ q1).mono ?_
    rintro e w8 ⟨rfl, d⟩
    clear y10 y11 y20 y21 y30 y31
    replace x3 := x3.later d
    replace q3 := q3.on d (d).size
    replace x2 := x2.later d
    replace q2 := q2.on d (d).size
    replace x1 := x1.later d
    have zz := (d).size
    try (replace ob := objs_on ob d)
    replace q1 := q1.on d zz
    replace bw := bw.trans ((d).mono bw.size)
    clear zz
    clear d
    obtain ⟨y10, y11, -⟩ := id x1.reads
    obtain ⟨y20, y21, -⟩ := id x2.reads
    obtain ⟨y30, y31, -⟩ := id x3.reads
    go_wp2_with fail
    refine (CSV.out _ ob).mono ?_
    rintro e w9 ⟨rfl, d⟩
    clear y10 y11 y20 y21 y30 y31
    replace x3 := x3.later d
    replace q3 := q3.on d (d).size
    replace x2 := x2.later d
    replace q2 := q2.on d (d).size
    replace x1 := x1.later d
    have zz := (d).size
    try (replace ob := objs_on ob d)
    replace q1 := q1.on d zz
    replace bw := bw.trans ((d).mono bw.size)
    clear zz
    clear d
    obtain ⟨y10, y11, -⟩ := id x1.reads
    obtain ⟨y20, y21, -⟩ := id x2.reads
    obtain ⟨y30, y31, -⟩ := id x3.reads
    go_wp2_with fail
    refine (CSO.out _ q2.main q1.main).mono ?_
    rintro e w10 ⟨rfl, d⟩
    clear y10 y11 y20 y21 y30 y31
    replace x3 := x3.later d
    replace q3 := q3.on d (d).size
    replace x2 := x2.later d
    replace q2 := q2.on d (d).size
    replace x1 := x1.later d
    have zz := (d).size
    try (replace ob := objs_on ob d)
    replace q1 := q1.on d zz
    replace bw := bw.trans ((d).mono bw.size)
    clear zz
    clear d
    obtain ⟨y10, y11, -⟩ := id x1.reads
    obtain ⟨y20, y21, -⟩ := id x2.reads
    obtain ⟨y30, y31, -⟩ := id x3.reads
    clear CSO
    go_wp2_with fail
    refine (CAR.out _ q2).mono ?_
    rintro e w11 ⟨AT, cT, rfl, hcT, obT, d⟩
    clear y10 y11 y20 y21 y30 y31
    replace x3 := x3.later d
    replace q3 := q3.on d (d).size
    replace x2 := x2.later d
    replace q2 := q2.on d (d).size
    replace x1 := x1.later d
    have zz := (d).size
    try (replace ob := objs_on ob d)
    replace q1 := q1.on d zz
    replace bw := bw.trans ((d).mono bw.size)
    clear zz
    clear d
    obtain ⟨y10, y11, -⟩ := id x1.reads
    obtain ⟨y20, y21, -⟩ := id x2.reads
    obtain ⟨y30, y31, -⟩ := id x3.reads
    clear CAR
    go_wp2_with fail
    refine (CAO.out _ q1).mono ?_
    rintro e w12 ⟨AO, cO, rfl, hcO, obO, d⟩
    replace obT := objs_on obT d
    clear y10 y11 y20 y21 y30 y31
    replace x3 := x3.later d
    replace q3 := q3.on d (d).size
    replace x2 := x2.later d
    replace q2 := q2.on d (d).size
    replace x1 := x1.later d
    have zz := (d).size
    try (replace ob := objs_on ob d)
    replace q1 := q1.on d zz
    replace bw := bw.trans ((d).mono bw.size)
    clear zz
    clear d
    obtain ⟨y10, y11, -⟩ := id x1.reads
    obtain ⟨y20, y21, -⟩ := id x2.reads
    obtain ⟨y30, y31, -⟩ := id x3.reads
    clear CAO y10 y11 y20 y21 y30 y31 x3 q3
    go_wp2_with fail
    go_loopw [12] (fun i wr => ∃ k : Nat, k ≤ os.length ∧ i = .int .i64 k ∧ Below w12.heap.size w12 wr) (fun i _ => os.length - (intOf i).toNat)
    case atStart => exact ⟨0, Nat.zero_le _, rfl, Below.refl _ _⟩
    case round =>
      obtain ⟨k, hk, rfl, hb⟩ := hrel
      replace x2 := x2.later hb
      replace q2 := q2.on hb (hb).size
      replace x1 := x1.later hb
      have zz := (hb).size
      try (replace ob := objs_on ob hb)
      replace q1 := q1.on hb zz
      replace bw := bw.trans ((hb).mono bw.size)
      clear zz
      replace obT := objs_on obT hb
      replace obO := objs_on obO hb
      by_cases hlt : k < os.length
      · have HSL := HS1
        have HIN := HIN1
        obtain ⟨o, ad, A', c', hoe, hA, ha, g0, gc1, gc2, gr⟩ := (ob).obj hlt
        subst hA
        have hom : o ∈ os := by rw [← hoe]; exact List.getElem_mem hlt
        have hlen := store_len HSL.out hom
        obtain ⟨x, hx⟩ : ∃ x, iOb o = x := ⟨_, rfl⟩
        have k0 : 0 ≤ (k : Int) := by omega
        have k1 : (k : Int) < ((os).length : Int) := by omega
        have CID : Hid (Calls Try.prog 27 #[.agg #[.int .i64 o.kd, .slice A' o.zs.length c', .string o.s]] wr (Ret (.int .i64 x) wr)) := objectId_q x _ A' c' o wr gr (Nat.le_refl _) hlen.1 hlen.2 hx
        have CSG : Hid (∀ y, Below wr.heap.size wr y → Calls Try.prog 26 #[.slice AT ar.length cT, .int .i64 x] y (GotO o y)) := fun y hy => by
          rw [← hx]
          exact get_there AT cT ar o y (objs_on obT hy) HTS.out (HIN.out o hom)
        clear hx hoe
        go_wp2_with fail
        refine (CID.out).mono ?_
        rintro e w8 ⟨rfl, b8⟩
        go_wp2_with fail
        refine (CSG.out _ b8).mono ?_
        rintro e w9 ⟨A8, c8, rfl, o9, d9⟩
        have b9 := b8.trans (d9.mono b8.size)
        obtain ⟨bx, hbx⟩ : ∃ b, w9.heap.size = b := ⟨_, rfl⟩
        have al := (Below.refl w9.heap.size w9).alloc (Nat.le_refl _) (.cells #[.int .i64 o.kd, .slice A8 o.zs.length c8, .string o.s] 38)
        have uV := Blk.new_ w9 38 (.int .i64 o.kd) (.slice A8 o.zs.length c8) (.string o.s)
        obtain ⟨V0, hV0⟩ : ∃ x, w9.alloc (.cells #[.int .i64 o.kd, .slice A8 o.zs.length c8, .string o.s] 38) = x := ⟨_, rfl⟩
        rw [hV0] at al uV
        rw [hbx] at uV
        have bV := b9.trans (al.mono b9.size)
        have oV := o9.below al (Nat.le_refl _)
        obtain ⟨z0, z1, z2, -⟩ := id uV.reads
        have hv := Nat.lt_of_lt_of_le ha bV.size
        have E0 := Later.cell z0 uV.lt
        have E1 := Later.cell z1 uV.lt
        have E2 := Later.cell z2 uV.lt
        have E3 := Later.cell ((bV.cell ha).trans g0) hv
        have E4 := Later.cell ((bV.cell (p := ⟨(ad.add (k * 3)).block, (ad.add (k * 3)).off + 1, none⟩) ha).trans gc1) hv
        have E5 := Later.cell ((bV.cell (p := ⟨(ad.add (k * 3)).block, (ad.add (k * 3)).off + 2, none⟩) ha).trans gc2) hv
        have rV := oV.row
        have rG := (gr.below bV (Nat.le_refl _)).more bV.size
        clear z0 z1 z2 al g0 gc1 gc2
        go_wp2_with fail
        clear hV0
        refine wp_region_later V0.heap.size (by kernel_rfl) (by kernel_rfl) ?_
        repeat (go_big_quiet_step ((go_at_call 28; exact Later.call (Nat.le_refl _) _ (sameObQ A8 A' c8 c' o _ V0.heap.size (rV.later _) (rG.later _) (Later.size (Nat.le_refl _) _) hlen.1))))
        refine wpQuiet_nil ?_
        intro _ hw'
        obtain ⟨xx, hxx⟩ := hw'
        have hbx := xx.b
        subst hxx
        go_wp2
        go_roundw
        case rel => exact ⟨k + 1, by omega, by go_num, hb.trans ((bV.trans (hbx.mono bV.size)).mono hb.size)⟩
        case measure => simp [intOf]; omega
      · have hk' : k = os.length := by omega
        subst hk'
        clear hk hlt hb
        go_wp2_with fail
        go_loopw [15] (fun i wq => ∃ k : Nat, k ≤ old.length ∧ i = .int .i64 k ∧ Below wr.heap.size wr wq) (fun i _ => old.length - (intOf i).toNat)
        case atStart => exact ⟨0, Nat.zero_le _, rfl, Below.refl _ _⟩
        case round =>
          obtain ⟨k, hk, rfl, hb⟩ := hrel
          replace x2 := x2.later hb
          replace q2 := q2.on hb (hb).size
          replace x1 := x1.later hb
          have zz := (hb).size
          try (replace ob := objs_on ob hb)
          replace q1 := q1.on hb zz
          replace bw := bw.trans ((hb).mono bw.size)
          clear zz
          replace obT := objs_on obT hb
          replace obO := objs_on obO hb
          by_cases hlt : k < old.length
          · have HSL := HS2
            have HIN := HIN2
            obtain ⟨o, ad, A', c', hoe, hA, ha, g0, gc1, gc2, gr⟩ := (obO).obj hlt
            subst hA
            have hom : o ∈ old := by rw [← hoe]; exact List.getElem_mem hlt
            have hlen := store_len HSL.out hom
            obtain ⟨x, hx⟩ : ∃ x, iOb o = x := ⟨_, rfl⟩
            have k0 : 0 ≤ (k : Int) := by omega
            have k1 : (k : Int) < ((old).length : Int) := by omega
            have CID : Hid (Calls Try.prog 27 #[.agg #[.int .i64 o.kd, .slice A' o.zs.length c', .string o.s]] wr (Ret (.int .i64 x) wr)) := objectId_q x _ A' c' o wr gr (Nat.le_refl _) hlen.1 hlen.2 hx
            have CSG : Hid (∀ y, Below wr.heap.size wr y → Calls Try.prog 26 #[.slice AT ar.length cT, .int .i64 x] y (GotO o y)) := fun y hy => by
              rw [← hx]
              exact get_there AT cT ar o y (objs_on obT hy) HTS.out (HIN.out o hom)
            clear hx hoe
            go_wp2_with fail
            refine (CID.out).mono ?_
            rintro e w8 ⟨rfl, b8⟩
            go_wp2_with fail
            refine (CSG.out _ b8).mono ?_
            rintro e w9 ⟨A8, c8, rfl, o9, d9⟩
            have b9 := b8.trans (d9.mono b8.size)
            obtain ⟨bx, hbx⟩ : ∃ b, w9.heap.size = b := ⟨_, rfl⟩
            have al := (Below.refl w9.heap.size w9).alloc (Nat.le_refl _) (.cells #[.int .i64 o.kd, .slice A8 o.zs.length c8, .string o.s] 38)
            have uV := Blk.new_ w9 38 (.int .i64 o.kd) (.slice A8 o.zs.length c8) (.string o.s)
            obtain ⟨V0, hV0⟩ : ∃ x, w9.alloc (.cells #[.int .i64 o.kd, .slice A8 o.zs.length c8, .string o.s] 38) = x := ⟨_, rfl⟩
            rw [hV0] at al uV
            rw [hbx] at uV
            have bV := b9.trans (al.mono b9.size)
            go_wp2
            go_roundw
            case rel => exact ⟨k + 1, by omega, by go_num, hb.trans (bV.mono hb.size)⟩
            case measure => simp [intOf]; omega
          · have hk' : k = old.length := by omega
            subst hk'
            clear hk hlt hb
            obtain ⟨y10, y11, -⟩ := id x1.reads
            obtain ⟨y20, y21, -⟩ := id x2.reads
            first
            | (go_wp2_with fail
               refine (CEQ.out _ q2 q1).mono ?_
               rintro e w13 ⟨rfl, d⟩
               replace bw := bw.trans (d.mono bw.size)
               go_wp2
               go_ret
               exact .mk_ bw)
            | (go_wp2
               go_ret
               exact .mk_ bw)
theorem FnQuarPut_any (A : Option Addr) (c : Nat) (bs : List Int) (w : World) (f1 : Row w w.heap.size A (bs.map (Value.int .u8))) (f2 : bs.length ≤ c) (f3 : c ≤ maxLen) (f4 : ∀ n ∈ bs, 0 ≤ n ∧ n < 256) :
    Calls Try.prog 3 #[.slice A bs.length c] w (Ret (.bool true) w) := by
  by_cases hl : bs.length ≤ 1048576
  · exact FnQuarPut_yes A c bs w ⟨f1, f2, f3, f4⟩ hl
  · exact FnQuarPut_no A c bs w ⟨f1, f2, f3, f4⟩ hl
end Go.Proofs.Ytblknnifccmpkaa
