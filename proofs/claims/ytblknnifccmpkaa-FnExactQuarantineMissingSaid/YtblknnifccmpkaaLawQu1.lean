/-
  Walks of the laws on quarantines changed twice.
-/
import Derived.Test.YtblknnifccmpkaaQuarI
import Derived.Test.YtblknnifccmpkaaDrawQM
import Derived.Test.YtblknnifccmpkaaSameQ
namespace Go.Proofs.Ytblknnifccmpkaa
open Go.RowKit Wo Pu Qu

theorem QSml.sm {q : Qr} (h : QSml q) : SmQ q := ⟨fun o ho => by have := (vOb_small (h.2.1 o ho)).1; omega, by have := h.1; omega, by have := h.2.2.1; omega, fun a ha => ⟨fun o ho => by have := (vOb_small ((h.2.2.2 a ha).2 o ho)).1; omega, by have := (h.2.2.2 a ha).1; omega⟩⟩
theorem objs_on {w w' : World} {A : Option Addr} {os : List Ob} (h : Objs w w.heap.size A os) (hb : Below w.heap.size w w') : Objs w' w'.heap.size A os := (h.below hb (Nat.le_refl _)).more hb.size
theorem sf_nil : SmQ ⟨[], []⟩ ∧ FitQ ⟨[], []⟩ := by
  refine ⟨⟨fun o ho => ?_, Nat.zero_le _, Nat.zero_le _, fun a ha => ?_⟩, fun o ho => ?_, Nat.zero_le _, Nat.zero_le _, fun a ha => ?_⟩
  · exact absurd ho (by simp)
  · exact absurd ha (by simp)
  · exact absurd ho (by simp)
  · exact absurd ha (by simp)
theorem qv_sf {q : Qr} (h : QV q) : SmQ q ∧ FitQ q := ⟨h.small, h.fit⟩
theorem pro_sf {q : Qr} {t : Int} {y : QWay} (h : IsPro q t y) : SmQ (y.q q) ∧ FitQ (y.q q) := by
  cases y with
  | bad => exact sf_nil
  | no => exact qv_sf h.1.1
  | yes q' => obtain ⟨⟨h1, _⟩, z, _, h4, rfl⟩ := h; exact qv_sf (del_valid h1 h4.1).1
theorem dis_sf {q : Qr} {t : Int} {y : QWay} (h : IsDis q t y) : SmQ (y.q q) ∧ FitQ (y.q q) := by
  cases y with
  | bad => exact sf_nil
  | no => exact qv_sf h.1.1
  | yes q' => obtain ⟨⟨h1, _⟩, _, rfl⟩ := h; exact qv_sf (del_valid h1 h1.1).1
theorem put_sf {q : Qr} {t : Int} {l : List Ob} {y : QWay} (h : IsPut q t l y) : SmQ (y.q q) ∧ FitQ (y.q q) := by
  cases y with
  | bad => exact sf_nil
  | no => exact qv_sf h.1.1
  | yes q' => obtain ⟨⟨h1, h2, _, h3⟩, x, z, h4, rfl⟩ := h; exact qv_sf (put_valid h1 h2 h3 h4).1
theorem FnPromoteTwice_no (A : Option Addr) (c : Nat) (bs : List Int) (w : World) (h : Code_ w A c bs) (hl : ¬ bs.length ≤ 1048576) :
    Calls Try.prog 6 #[.slice A bs.length c] w (Ret (.bool true) w) := by
  have hc := h.2.1
  have hm := h.2.2.1
  unfold maxLen at hm
  go_enter Try.func6, Try.ntmps6
  go_wp2
  go_ret
  exact .mk_ (Below.refl _ _)
set_option maxRecDepth 100000 in
set_option maxHeartbeats 4000000 in
theorem FnPromoteTwice_yes (A : Option Addr) (c : Nat) (bs : List Int) (w : World) (h : Code_ w A c bs) (hl : bs.length ≤ 1048576) :
    Calls Try.prog 6 #[.slice A bs.length c] w (Ret (.bool true) w) := by
  go_enter Try.func6, Try.ntmps6
  go_wp2_with fail
  refine (DrawQuarantinePromote_any A c bs _ h).mono ?_
  rintro e w1 ⟨v1, q, t, rfl, o1, f1, b1⟩
  have bw := b1
  clear b1
  have q1 := o1.quar
  obtain ⟨A3, c3, A4, c4, rfl, -, -, -, -⟩ := id o1
  obtain ⟨y, hy⟩ := pro_way q t
  have HSF := pro_sf hy
  obtain ⟨q', hq'⟩ : ∃ q', y.q q = q' := ⟨_, rfl⟩
  rw [hq'] at HSF
  obtain ⟨HSM, HFT⟩ := HSF
  have HY := hid hy
  have HQ := hid hq'
  clear hy hq' o1
  unfold qv at *
  obtain ⟨g1, hg⟩ : ∃ g, (w1).heap.size = g := ⟨_, rfl⟩
  have al := (Below.refl (w1).heap.size w1).alloc (Nat.le_refl _) (.cells #[.slice A3 q.m.length c3, .slice A4 q.rs.length c4] 26)
  have xn := BlkQ.new_ w1 26 (.slice A3 q.m.length c3) (.slice A4 q.rs.length c4)
  obtain ⟨w1', hw'⟩ : ∃ x, (w1).alloc (.cells #[.slice A3 q.m.length c3, .slice A4 q.rs.length c4] 26) = x := ⟨_, rfl⟩
  rw [hw'] at al xn
  rw [hg] at xn
  have x1 := xn
  clear xn
  have zz := (al).size
  try (replace ob := objs_on ob al)
  replace q1 := q1.on al zz
  replace bw := bw.trans ((al).mono bw.size)
  clear zz
  clear al
  obtain ⟨y10, y11, -⟩ := id x1.reads
  go_wp2_with fail
  refine (implQuarantinePromote_is y _ q t _ q1 f1 HY.out).mono ?_
  rintro e w3 o2
  unfold Changed at o2
  rw [HQ.out] at o2
  obtain ⟨v2, rfl, o2, d2⟩ := o2
  have q2 := o2.quar
  obtain ⟨A5, c5, A6, c6, rfl, -, -, -, -⟩ := id o2
  clear o2 y10 y11
  unfold qv at *
  replace x1 := x1.later d2
  have zz := (d2).size
  try (replace ob := objs_on ob d2)
  replace q1 := q1.on d2 zz
  replace bw := bw.trans ((d2).mono bw.size)
  clear zz
  obtain ⟨g2, hg⟩ : ∃ g, (w3).heap.size = g := ⟨_, rfl⟩
  have al := (Below.refl (w3).heap.size w3).alloc (Nat.le_refl _) (.cells #[.slice A5 q'.m.length c5, .slice A6 q'.rs.length c6] 26)
  have xn := BlkQ.new_ w3 26 (.slice A5 q'.m.length c5) (.slice A6 q'.rs.length c6)
  obtain ⟨w3', hw'⟩ : ∃ x, (w3).alloc (.cells #[.slice A5 q'.m.length c5, .slice A6 q'.rs.length c6] 26) = x := ⟨_, rfl⟩
  rw [hw'] at al xn
  rw [hg] at xn
  have x2 := xn
  clear xn d2
  replace x1 := x1.later al
  have zz := (al).size
  try (replace ob := objs_on ob al)
  replace q1 := q1.on al zz
  replace bw := bw.trans ((al).mono bw.size)
  clear zz
  replace q2 := q2.on al al.size
  clear al
  obtain ⟨y10, y11, -⟩ := id x1.reads
  obtain ⟨y20, y21, -⟩ := id x2.reads
  go_wp2_with fail
  refine (specQuarantinePromote_is y _ q t _ q1 f1 HY.out).mono ?_
  rintro e w5 o3
  unfold Changed at o3
  rw [HQ.out] at o3
  obtain ⟨v3, rfl, o3, d3⟩ := o3
  have q3 := o3.quar
  obtain ⟨A7, c7, A8, c8, rfl, -, -, -, -⟩ := id o3
  clear o3 y10 y11 y20 y21
  unfold qv at *
  replace x2 := x2.later d3
  replace q2 := q2.on d3 (d3).size
  replace x1 := x1.later d3
  have zz := (d3).size
  try (replace ob := objs_on ob d3)
  replace q1 := q1.on d3 zz
  replace bw := bw.trans ((d3).mono bw.size)
  clear zz
  obtain ⟨g3, hg⟩ : ∃ g, (w5).heap.size = g := ⟨_, rfl⟩
  have al := (Below.refl (w5).heap.size w5).alloc (Nat.le_refl _) (.cells #[.slice A7 q'.m.length c7, .slice A8 q'.rs.length c8] 26)
  have xn := BlkQ.new_ w5 26 (.slice A7 q'.m.length c7) (.slice A8 q'.rs.length c8)
  obtain ⟨w5', hw'⟩ : ∃ x, (w5).alloc (.cells #[.slice A7 q'.m.length c7, .slice A8 q'.rs.length c8] 26) = x := ⟨_, rfl⟩
  rw [hw'] at al xn
  rw [hg] at xn
  have x3 := xn
  clear xn d3
  replace x2 := x2.later al
  replace q2 := q2.on al (al).size
  replace x1 := x1.later al
  have zz := (al).size
  try (replace ob := objs_on ob al)
  replace q1 := q1.on al zz
  replace bw := bw.trans ((al).mono bw.size)
  clear zz
  replace q3 := q3.on al al.size
  clear al
  obtain ⟨y10, y11, -⟩ := id x1.reads
  obtain ⟨y20, y21, -⟩ := id x2.reads
  obtain ⟨y30, y31, -⟩ := id x3.reads
  cases y with
  | bad =>
    unfold QWay.ok
    go_wp2_with fail
    refine (sameQuarantine_is _ _ q' _ q2 q3 HSM).mono ?_
    rintro e w7 ⟨rfl, d⟩
    clear y10 y11 y20 y21 y30 y31
    replace x3 := x3.later d
    replace q3 := q3.on d (d).size
    replace x2 := x2.later d
    replace q2 := q2.on d (d).size
    replace x1 := x1.later d
    have zz := (d).size
    try (replace ob := objs_on ob d)
    replace q1 := q1.on d zz
    replace bw := bw.trans ((d).mono bw.size)
    clear zz
    clear d
    obtain ⟨y10, y11, -⟩ := id x1.reads
    obtain ⟨y20, y21, -⟩ := id x2.reads
    obtain ⟨y30, y31, -⟩ := id x3.reads
    go_wp2_with fail
    refine (sameQuarantine_is _ _ q' _ q2 q3 HSM).mono ?_
    rintro e w8 ⟨rfl, d⟩
    clear y10 y11 y20 y21 y30 y31
    replace x3 := x3.later d
    replace q3 := q3.on d (d).size
    replace x2 := x2.later d
    replace q2 := q2.on d (d).size
    replace x1 := x1.later d
    have zz := (d).size
    try (replace ob := objs_on ob d)
    replace q1 := q1.on d zz
    replace bw := bw.trans ((d).mono bw.size)
    clear zz
    clear d
    obtain ⟨y10, y11, -⟩ := id x1.reads
    obtain ⟨y20, y21, -⟩ := id x2.reads
    obtain ⟨y30, y31, -⟩ := id x3.reads
    go_wp2
    go_ret
    exact .mk_ bw
  | no =>
    unfold QWay.ok
    go_wp2_with fail
    refine (sameQuarantine_is _ _ q' _ q2 q3 HSM).mono ?_
    rintro e w7 ⟨rfl, d⟩
    clear y10 y11 y20 y21 y30 y31
    replace x3 := x3.later d
    replace q3 := q3.on d (d).size
    replace x2 := x2.later d
    replace q2 := q2.on d (d).size
    replace x1 := x1.later d
    have zz := (d).size
    try (replace ob := objs_on ob d)
    replace q1 := q1.on d zz
    replace bw := bw.trans ((d).mono bw.size)
    clear zz
    clear d
    obtain ⟨y10, y11, -⟩ := id x1.reads
    obtain ⟨y20, y21, -⟩ := id x2.reads
    obtain ⟨y30, y31, -⟩ := id x3.reads
    go_wp2_with fail
    refine (sameQuarantine_is _ _ q' _ q2 q3 HSM).mono ?_
    rintro e w8 ⟨rfl, d⟩
    clear y10 y11 y20 y21 y30 y31
    replace x3 := x3.later d
    replace q3 := q3.on d (d).size
    replace x2 := x2.later d
    replace q2 := q2.on d (d).size
    replace x1 := x1.later d
    have zz := (d).size
    try (replace ob := objs_on ob d)
    replace q1 := q1.on d zz
    replace bw := bw.trans ((d).mono bw.size)
    clear zz
    clear d
    obtain ⟨y10, y11, -⟩ := id x1.reads
    obtain ⟨y20, y21, -⟩ := id x2.reads
    obtain ⟨y30, y31, -⟩ := id x3.reads
    go_wp2
    go_ret
    exact .mk_ bw
  | yes q0 =>
    unfold QWay.ok
    have W2 : Hid (IsPro q' t .no) := by
      rw [← HQ.out]
      obtain ⟨⟨hq, ht⟩, z, _, h4, e⟩ := HY.out
      show IsPro q0 t .no
      rw [e]
      exact ⟨⟨(del_valid hq h4.1).1, ht⟩, fun ⟨_, h5, _⟩ => del_has hq h5⟩
    go_wp2_with fail
    refine (sameQuarantine_is _ _ q' _ q2 q3 HSM).mono ?_
    rintro e w7 ⟨rfl, d⟩
    clear y10 y11 y20 y21 y30 y31
    replace x3 := x3.later d
    replace q3 := q3.on d (d).size
    replace x2 := x2.later d
    replace q2 := q2.on d (d).size
    replace x1 := x1.later d
    have zz := (d).size
    try (replace ob := objs_on ob d)
    replace q1 := q1.on d zz
    replace bw := bw.trans ((d).mono bw.size)
    clear zz
    clear d
    obtain ⟨y10, y11, -⟩ := id x1.reads
    obtain ⟨y20, y21, -⟩ := id x2.reads
    obtain ⟨y30, y31, -⟩ := id x3.reads
    go_wp2_with fail
    refine (implQuarantinePromote_is .no _ q' t _ q2 HFT W2.out).mono ?_
    rintro e w8 o4
    replace o4 : NewQB q' _ w7 e w8 := o4
    obtain ⟨v4, rfl, o4, d4⟩ := o4
    have q4 := o4.quar
    obtain ⟨A9, c9, A10, c10, rfl, -, -, -, -⟩ := id o4
    clear o4 y10 y11 y20 y21 y30 y31
    unfold qv at *
    replace x3 := x3.later d4
    replace q3 := q3.on d4 (d4).size
    replace x2 := x2.later d4
    replace q2 := q2.on d4 (d4).size
    replace x1 := x1.later d4
    have zz := (d4).size
    try (replace ob := objs_on ob d4)
    replace q1 := q1.on d4 zz
    replace bw := bw.trans ((d4).mono bw.size)
    clear zz
    obtain ⟨g4, hg⟩ : ∃ g, (w8).heap.size = g := ⟨_, rfl⟩
    have al := (Below.refl (w8).heap.size w8).alloc (Nat.le_refl _) (.cells #[.slice A9 (q').m.length c9, .slice A10 (q').rs.length c10] 26)
    have xn := BlkQ.new_ w8 26 (.slice A9 (q').m.length c9) (.slice A10 (q').rs.length c10)
    obtain ⟨w8', hw'⟩ : ∃ x, (w8).alloc (.cells #[.slice A9 (q').m.length c9, .slice A10 (q').rs.length c10] 26) = x := ⟨_, rfl⟩
    rw [hw'] at al xn
    rw [hg] at xn
    have x4 := xn
    clear xn d4
    replace x3 := x3.later al
    replace q3 := q3.on al (al).size
    replace x2 := x2.later al
    replace q2 := q2.on al (al).size
    replace x1 := x1.later al
    have zz := (al).size
    try (replace ob := objs_on ob al)
    replace q1 := q1.on al zz
    replace bw := bw.trans ((al).mono bw.size)
    clear zz
    replace q4 := q4.on al al.size
    clear al
    obtain ⟨y10, y11, -⟩ := id x1.reads
    obtain ⟨y20, y21, -⟩ := id x2.reads
    obtain ⟨y40, y41, -⟩ := id x4.reads
    unfold QWay.ok
    go_wp2_with fail
    refine (sameQuarantine_is _ _ q' _ q4 q2 HSM).mono ?_
    rintro e w9 ⟨rfl, d⟩
    replace bw := bw.trans (d.mono bw.size)
    go_wp2
    go_ret
    exact .mk_ bw
theorem FnPromoteTwice_any (A : Option Addr) (c : Nat) (bs : List Int) (w : World) (f1 : Row w w.heap.size A (bs.map (Value.int .u8))) (f2 : bs.length ≤ c) (f3 : c ≤ maxLen) (f4 : ∀ n ∈ bs, 0 ≤ n ∧ n < 256) :
    Calls Try.prog 6 #[.slice A bs.length c] w (Ret (.bool true) w) := by
  by_cases hl : bs.length ≤ 1048576
  · exact FnPromoteTwice_yes A c bs w ⟨f1, f2, f3, f4⟩ hl
  · exact FnPromoteTwice_no A c bs w ⟨f1, f2, f3, f4⟩ hl
theorem FnQuarTwice_no (A : Option Addr) (c : Nat) (bs : List Int) (w : World) (h : Code_ w A c bs) (hl : ¬ bs.length ≤ 1048576) :
    Calls Try.prog 4 #[.slice A bs.length c] w (Ret (.bool true) w) := by
  have hc := h.2.1
  have hm := h.2.2.1
  unfold maxLen at hm
  go_enter Try.func4, Try.ntmps4
  go_wp2
  go_ret
  exact .mk_ (Below.refl _ _)
set_option maxRecDepth 100000 in
set_option maxHeartbeats 4000000 in
theorem FnQuarTwice_yes (A : Option Addr) (c : Nat) (bs : List Int) (w : World) (h : Code_ w A c bs) (hl : bs.length ≤ 1048576) :
    Calls Try.prog 4 #[.slice A bs.length c] w (Ret (.bool true) w) := by
  go_enter Try.func4, Try.ntmps4
  go_wp2_with fail
  refine (DrawQuarantinePut_any A c bs _ h).mono ?_
  rintro e w1 ⟨v1, q, t, AL, cL, os, rfl, q1, f1, ob, hol, -, hov, bw⟩
  have FO := fit_of hov
  have hol' : os.length ≤ 1048576 := by omega
  obtain ⟨A3, c3, A4, c4, rfl, -, -, -, -⟩ := id q1
  obtain ⟨y, hy⟩ := put_way q t os
  have HSF := put_sf hy
  obtain ⟨q', hq'⟩ : ∃ q', y.q q = q' := ⟨_, rfl⟩
  rw [hq'] at HSF
  obtain ⟨HSM, HFT⟩ := HSF
  have HY := hid hy
  have HQ := hid hq'
  clear hy hq'
  unfold qv at *
  obtain ⟨g1, hg⟩ : ∃ g, (w1).heap.size = g := ⟨_, rfl⟩
  have al := (Below.refl (w1).heap.size w1).alloc (Nat.le_refl _) (.cells #[.slice A3 q.m.length c3, .slice A4 q.rs.length c4] 26)
  have xn := BlkQ.new_ w1 26 (.slice A3 q.m.length c3) (.slice A4 q.rs.length c4)
  obtain ⟨w1', hw'⟩ : ∃ x, (w1).alloc (.cells #[.slice A3 q.m.length c3, .slice A4 q.rs.length c4] 26) = x := ⟨_, rfl⟩
  rw [hw'] at al xn
  rw [hg] at xn
  have x1 := xn
  clear xn
  have zz := (al).size
  try (replace ob := objs_on ob al)
  replace q1 := q1.on al zz
  replace bw := bw.trans ((al).mono bw.size)
  clear zz
  clear al
  obtain ⟨y10, y11, -⟩ := id x1.reads
  go_wp2_with fail
  refine (implQuarantinePut_is y _ q t AL cL os _ q1 f1 ob FO hol' HY.out).mono ?_
  rintro e w3 o2
  unfold Changed at o2
  rw [HQ.out] at o2
  obtain ⟨v2, rfl, o2, d2⟩ := o2
  have q2 := o2.quar
  obtain ⟨A5, c5, A6, c6, rfl, -, -, -, -⟩ := id o2
  clear o2 y10 y11
  unfold qv at *
  replace x1 := x1.later d2
  have zz := (d2).size
  try (replace ob := objs_on ob d2)
  replace q1 := q1.on d2 zz
  replace bw := bw.trans ((d2).mono bw.size)
  clear zz
  obtain ⟨g2, hg⟩ : ∃ g, (w3).heap.size = g := ⟨_, rfl⟩
  have al := (Below.refl (w3).heap.size w3).alloc (Nat.le_refl _) (.cells #[.slice A5 q'.m.length c5, .slice A6 q'.rs.length c6] 26)
  have xn := BlkQ.new_ w3 26 (.slice A5 q'.m.length c5) (.slice A6 q'.rs.length c6)
  obtain ⟨w3', hw'⟩ : ∃ x, (w3).alloc (.cells #[.slice A5 q'.m.length c5, .slice A6 q'.rs.length c6] 26) = x := ⟨_, rfl⟩
  rw [hw'] at al xn
  rw [hg] at xn
  have x2 := xn
  clear xn d2
  replace x1 := x1.later al
  have zz := (al).size
  try (replace ob := objs_on ob al)
  replace q1 := q1.on al zz
  replace bw := bw.trans ((al).mono bw.size)
  clear zz
  replace q2 := q2.on al al.size
  clear al
  obtain ⟨y10, y11, -⟩ := id x1.reads
  obtain ⟨y20, y21, -⟩ := id x2.reads
  go_wp2_with fail
  refine (specQuarantinePut_is y _ q t AL cL os _ q1 f1 ob FO hol' HY.out).mono ?_
  rintro e w5 o3
  unfold Changed at o3
  rw [HQ.out] at o3
  obtain ⟨v3, rfl, o3, d3⟩ := o3
  have q3 := o3.quar
  obtain ⟨A7, c7, A8, c8, rfl, -, -, -, -⟩ := id o3
  clear o3 y10 y11 y20 y21
  unfold qv at *
  replace x2 := x2.later d3
  replace q2 := q2.on d3 (d3).size
  replace x1 := x1.later d3
  have zz := (d3).size
  try (replace ob := objs_on ob d3)
  replace q1 := q1.on d3 zz
  replace bw := bw.trans ((d3).mono bw.size)
  clear zz
  obtain ⟨g3, hg⟩ : ∃ g, (w5).heap.size = g := ⟨_, rfl⟩
  have al := (Below.refl (w5).heap.size w5).alloc (Nat.le_refl _) (.cells #[.slice A7 q'.m.length c7, .slice A8 q'.rs.length c8] 26)
  have xn := BlkQ.new_ w5 26 (.slice A7 q'.m.length c7) (.slice A8 q'.rs.length c8)
  obtain ⟨w5', hw'⟩ : ∃ x, (w5).alloc (.cells #[.slice A7 q'.m.length c7, .slice A8 q'.rs.length c8] 26) = x := ⟨_, rfl⟩
  rw [hw'] at al xn
  rw [hg] at xn
  have x3 := xn
  clear xn d3
  replace x2 := x2.later al
  replace q2 := q2.on al (al).size
  replace x1 := x1.later al
  have zz := (al).size
  try (replace ob := objs_on ob al)
  replace q1 := q1.on al zz
  replace bw := bw.trans ((al).mono bw.size)
  clear zz
  replace q3 := q3.on al al.size
  clear al
  obtain ⟨y10, y11, -⟩ := id x1.reads
  obtain ⟨y20, y21, -⟩ := id x2.reads
  obtain ⟨y30, y31, -⟩ := id x3.reads
  cases y with
  | bad =>
    unfold QWay.ok
    go_wp2_with fail
    refine (sameQuarantine_is _ _ q' _ q2 q3 HSM).mono ?_
    rintro e w7 ⟨rfl, d⟩
    clear y10 y11 y20 y21 y30 y31
    replace x3 := x3.later d
    replace q3 := q3.on d (d).size
    replace x2 := x2.later d
    replace q2 := q2.on d (d).size
    replace x1 := x1.later d
    have zz := (d).size
    try (replace ob := objs_on ob d)
    replace q1 := q1.on d zz
    replace bw := bw.trans ((d).mono bw.size)
    clear zz
    clear d
    obtain ⟨y10, y11, -⟩ := id x1.reads
    obtain ⟨y20, y21, -⟩ := id x2.reads
    obtain ⟨y30, y31, -⟩ := id x3.reads
    go_wp2_with fail
    refine (sameQuarantine_is _ _ q' _ q2 q3 HSM).mono ?_
    rintro e w8 ⟨rfl, d⟩
    clear y10 y11 y20 y21 y30 y31
    replace x3 := x3.later d
    replace q3 := q3.on d (d).size
    replace x2 := x2.later d
    replace q2 := q2.on d (d).size
    replace x1 := x1.later d
    have zz := (d).size
    try (replace ob := objs_on ob d)
    replace q1 := q1.on d zz
    replace bw := bw.trans ((d).mono bw.size)
    clear zz
    clear d
    obtain ⟨y10, y11, -⟩ := id x1.reads
    obtain ⟨y20, y21, -⟩ := id x2.reads
    obtain ⟨y30, y31, -⟩ := id x3.reads
    go_wp2
    go_ret
    exact .mk_ bw
  | no =>
    unfold QWay.ok
    go_wp2_with fail
    refine (sameQuarantine_is _ _ q' _ q2 q3 HSM).mono ?_
    rintro e w7 ⟨rfl, d⟩
    clear y10 y11 y20 y21 y30 y31
    replace x3 := x3.later d
    replace q3 := q3.on d (d).size
    replace x2 := x2.later d
    replace q2 := q2.on d (d).size
    replace x1 := x1.later d
    have zz := (d).size
    try (replace ob := objs_on ob d)
    replace q1 := q1.on d zz
    replace bw := bw.trans ((d).mono bw.size)
    clear zz
    clear d
    obtain ⟨y10, y11, -⟩ := id x1.reads
    obtain ⟨y20, y21, -⟩ := id x2.reads
    obtain ⟨y30, y31, -⟩ := id x3.reads
    go_wp2_with fail
    refine (sameQuarantine_is _ _ q' _ q2 q3 HSM).mono ?_
    rintro e w8 ⟨rfl, d⟩
    clear y10 y11 y20 y21 y30 y31
    replace x3 := x3.later d
    replace q3 := q3.on d (d).size
    replace x2 := x2.later d
    replace q2 := q2.on d (d).size
    replace x1 := x1.later d
    have zz := (d).size
    try (replace ob := objs_on ob d)
    replace q1 := q1.on d zz
    replace bw := bw.trans ((d).mono bw.size)
    clear zz
    clear d
    obtain ⟨y10, y11, -⟩ := id x1.reads
    obtain ⟨y20, y21, -⟩ := id x2.reads
    obtain ⟨y30, y31, -⟩ := id x3.reads
    go_wp2
    go_ret
    exact .mk_ bw
  | yes q0 =>
    unfold QWay.ok
    have HV : Hid (QV q' ∧ IsPut q' t os (.yes q')) := by
      obtain ⟨⟨hq, ht, hl, hn⟩, x, z, hc, e⟩ := HY.out
      have e' : q0 = q' := HQ.out
      have hv := put_valid hq ht hn hc
      have ha := put_again hq ht hn hc
      rw [← e', e]
      exact ⟨hv.1, ⟨hv.1, ht, hl, hn⟩, x, z, ha.1, by rw [ha.2]⟩
    go_wp2_with fail
    refine (sameQuarantine_is _ _ q' _ q2 q3 HSM).mono ?_
    rintro e w7 ⟨rfl, d⟩
    clear y10 y11 y20 y21 y30 y31
    replace x3 := x3.later d
    replace q3 := q3.on d (d).size
    replace x2 := x2.later d
    replace q2 := q2.on d (d).size
    replace x1 := x1.later d
    have zz := (d).size
    try (replace ob := objs_on ob d)
    replace q1 := q1.on d zz
    replace bw := bw.trans ((d).mono bw.size)
    clear zz
    clear d
    obtain ⟨y10, y11, -⟩ := id x1.reads
    obtain ⟨y20, y21, -⟩ := id x2.reads
    obtain ⟨y30, y31, -⟩ := id x3.reads
    go_wp2_with fail
    refine (implQuarantinePut_is (.yes q') _ q' t AL cL os _ q2 HFT ob FO hol' HV.out.2).mono ?_
    rintro e w8 o4
    replace o4 : NewQB q' _ w7 e w8 := o4
    obtain ⟨v4, rfl, o4, d4⟩ := o4
    have q4 := o4.quar
    obtain ⟨A9, c9, A10, c10, rfl, -, -, -, -⟩ := id o4
    clear o4 y10 y11 y20 y21 y30 y31
    unfold qv at *
    replace x3 := x3.later d4
    replace q3 := q3.on d4 (d4).size
    replace x2 := x2.later d4
    replace q2 := q2.on d4 (d4).size
    replace x1 := x1.later d4
    have zz := (d4).size
    try (replace ob := objs_on ob d4)
    replace q1 := q1.on d4 zz
    replace bw := bw.trans ((d4).mono bw.size)
    clear zz
    obtain ⟨g4, hg⟩ : ∃ g, (w8).heap.size = g := ⟨_, rfl⟩
    have al := (Below.refl (w8).heap.size w8).alloc (Nat.le_refl _) (.cells #[.slice A9 (q').m.length c9, .slice A10 (q').rs.length c10] 26)
    have xn := BlkQ.new_ w8 26 (.slice A9 (q').m.length c9) (.slice A10 (q').rs.length c10)
    obtain ⟨w8', hw'⟩ : ∃ x, (w8).alloc (.cells #[.slice A9 (q').m.length c9, .slice A10 (q').rs.length c10] 26) = x := ⟨_, rfl⟩
    rw [hw'] at al xn
    rw [hg] at xn
    have x4 := xn
    clear xn d4
    replace x3 := x3.later al
    replace q3 := q3.on al (al).size
    replace x2 := x2.later al
    replace q2 := q2.on al (al).size
    replace x1 := x1.later al
    have zz := (al).size
    try (replace ob := objs_on ob al)
    replace q1 := q1.on al zz
    replace bw := bw.trans ((al).mono bw.size)
    clear zz
    replace q4 := q4.on al al.size
    clear al
    obtain ⟨y10, y11, -⟩ := id x1.reads
    obtain ⟨y20, y21, -⟩ := id x2.reads
    obtain ⟨y40, y41, -⟩ := id x4.reads
    unfold QWay.ok
    go_wp2_with fail
    refine (sameQuarantine_is _ _ q' _ q4 q2 HSM).mono ?_
    rintro e w10 ⟨rfl, d⟩
    clear y10 y11 y20 y21 y40 y41
    replace x2 := x2.later d
    replace q2 := q2.on d (d).size
    replace x1 := x1.later d
    have zz := (d).size
    try (replace ob := objs_on ob d)
    replace q1 := q1.on d zz
    replace bw := bw.trans ((d).mono bw.size)
    clear zz
    obtain ⟨y20, y21, -⟩ := id x2.reads
    go_wp2_with fail
    refine (implQuarantineValid_is true _ q' _ q2 HFT ⟨fun _ => HV.out.1, fun _ => rfl⟩).mono ?_
    rintro e w11 ⟨rfl, d11⟩
    replace bw := bw.trans (d11.mono bw.size)
    go_wp2
    go_ret
    exact .mk_ bw
theorem FnQuarTwice_any (A : Option Addr) (c : Nat) (bs : List Int) (w : World) (f1 : Row w w.heap.size A (bs.map (Value.int .u8))) (f2 : bs.length ≤ c) (f3 : c ≤ maxLen) (f4 : ∀ n ∈ bs, 0 ≤ n ∧ n < 256) :
    Calls Try.prog 4 #[.slice A bs.length c] w (Ret (.bool true) w) := by
  by_cases hl : bs.length ≤ 1048576
  · exact FnQuarTwice_yes A c bs w ⟨f1, f2, f3, f4⟩ hl
  · exact FnQuarTwice_no A c bs w ⟨f1, f2, f3, f4⟩ hl
end Go.Proofs.Ytblknnifccmpkaa
