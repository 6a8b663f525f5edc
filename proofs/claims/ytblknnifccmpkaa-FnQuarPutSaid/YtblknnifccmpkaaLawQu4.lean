/-
  Walk of the law on areas that are discarded.
-/
import Derived.Test.YtblknnifccmpkaaLawQu2
namespace Go.Proofs.Ytblknnifccmpkaa
open Go.RowKit Wo Pu Qu

theorem Quar.main {w : World} {B n c n2 c2 : Nat} {A A2 : Option Addr} {q : Qr} (h : Quar w B (.agg #[.slice A n c, .slice A2 n2 c2]) q) : Objs w B A q.m := by
  obtain ⟨A', c', A2', c2', e, h1, _⟩ := h
  unfold qv at e
  injection e with e
  have e2 := congrArg (fun a : Array Value => a[0]?) e
  simp only [List.getElem?_toArray, List.getElem?_cons_zero, Option.some.injEq] at e2
  injection e2 with e2 _ _
  subst e2
  exact h1
theorem FnDiscard_no (A : Option Addr) (c : Nat) (bs : List Int) (w : World) (h : Code_ w A c bs) (hl : ¬ bs.length ≤ 1048576) :
    Calls Try.prog 7 #[.slice A bs.length c] w (Ret (.bool true) w) := by
  have hc := h.2.1
  have hm := h.2.2.1
  unfold maxLen at hm
  go_enter Try.func7, Try.ntmps7
  go_wp2
  go_ret
  exact .mk_ (Below.refl _ _)
set_option linter.unusedSimpArgs false in
set_option maxRecDepth 100000 in
set_option maxHeartbeats 8000000 in
theorem FnDiscard_yes (A : Option Addr) (c : Nat) (bs : List Int) (w : World) (h : Code_ w A c bs) (hl : bs.length ≤ 1048576) :
    Calls Try.prog 7 #[.slice A bs.length c] w (Ret (.bool true) w) := by
  go_enter Try.func7, Try.ntmps7
  go_wp2_with fail
  refine (DrawQuarantineDiscard_any A c bs _ h).mono ?_
  rintro e w1 ⟨v1, q, t, rfl, o1, f1, b1⟩
  have bw := b1
  clear b1
  have q1 := o1.quar
  obtain ⟨A3, c3, A4, c4, rfl, -, -, -, -⟩ := id o1
  obtain ⟨y, hy⟩ := dis_way q t
  have HSF := dis_sf hy
  obtain ⟨q', hq'⟩ : ∃ q', y.q q = q' := ⟨_, rfl⟩
  rw [hq'] at HSF
  obtain ⟨HSM, HFT⟩ := HSF
  have HY := hid hy
  have HQ := hid hq'
  clear hy hq' o1
  unfold qv at *
  obtain ⟨g1, hg⟩ : ∃ g, (w1).heap.size = g := ⟨_, rfl⟩
  have al := (Below.refl (w1).heap.size w1).alloc (Nat.le_refl _) (.cells #[.slice A3 q.m.length c3, .slice A4 q.rs.length c4] 26)
  have xn := BlkQ.new_ w1 26 (.slice A3 q.m.length c3) (.slice A4 q.rs.length c4)
  obtain ⟨w1', hw'⟩ : ∃ x, (w1).alloc (.cells #[.slice A3 q.m.length c3, .slice A4 q.rs.length c4] 26) = x := ⟨_, rfl⟩
  rw [hw'] at al xn
  rw [hg] at xn
  have x1 := xn
  clear xn
  have zz := (al).size
  try (replace ob := objs_on ob al)
  replace q1 := q1.on al zz
  replace bw := bw.trans ((al).mono bw.size)
  clear zz
  clear al
  obtain ⟨y10, y11, -⟩ := id x1.reads
  go_wp2_with fail
  refine (implQuarantineDiscard_is y _ q t _ q1 f1 HY.out).mono ?_
  rintro e w3 o2
  unfold Changed at o2
  rw [HQ.out] at o2
  obtain ⟨v2, rfl, o2, d2⟩ := o2
  have q2 := o2.quar
  obtain ⟨A5, c5, A6, c6, rfl, -, -, -, -⟩ := id o2
  clear o2 y10 y11
  unfold qv at *
  replace x1 := x1.later d2
  have zz := (d2).size
  try (replace ob := objs_on ob d2)
  replace q1 := q1.on d2 zz
  replace bw := bw.trans ((d2).mono bw.size)
  clear zz
  obtain ⟨g2, hg⟩ : ∃ g, (w3).heap.size = g := ⟨_, rfl⟩
  have al := (Below.refl (w3).heap.size w3).alloc (Nat.le_refl _) (.cells #[.slice A5 q'.m.length c5, .slice A6 q'.rs.length c6] 26)
  have xn := BlkQ.new_ w3 26 (.slice A5 q'.m.length c5) (.slice A6 q'.rs.length c6)
  obtain ⟨w3', hw'⟩ : ∃ x, (w3).alloc (.cells #[.slice A5 q'.m.length c5, .slice A6 q'.rs.length c6] 26) = x := ⟨_, rfl⟩
  rw [hw'] at al xn
  rw [hg] at xn
  have x2 := xn
  clear xn d2
  replace x1 := x1.later al
  have zz := (al).size
  try (replace ob := objs_on ob al)
  replace q1 := q1.on al zz
  replace bw := bw.trans ((al).mono bw.size)
  clear zz
  replace q2 := q2.on al al.size
  clear al
  obtain ⟨y10, y11, -⟩ := id x1.reads
  obtain ⟨y20, y21, -⟩ := id x2.reads
  go_wp2_with fail
  refine (specQuarantineDiscard_is y _ q t _ q1 f1 HY.out).mono ?_
  rintro e w5 o3
  unfold Changed at o3
  rw [HQ.out] at o3
  obtain ⟨v3, rfl, o3, d3⟩ := o3
  have q3 := o3.quar
  obtain ⟨A7, c7, A8, c8, rfl, -, -, -, -⟩ := id o3
  clear o3 y10 y11 y20 y21
  unfold qv at *
  replace x2 := x2.later d3
  replace q2 := q2.on d3 (d3).size
  replace x1 := x1.later d3
  have zz := (d3).size
  try (replace ob := objs_on ob d3)
  replace q1 := q1.on d3 zz
  replace bw := bw.trans ((d3).mono bw.size)
  clear zz
  obtain ⟨g3, hg⟩ : ∃ g, (w5).heap.size = g := ⟨_, rfl⟩
  have al := (Below.refl (w5).heap.size w5).alloc (Nat.le_refl _) (.cells #[.slice A7 q'.m.length c7, .slice A8 q'.rs.length c8] 26)
  have xn := BlkQ.new_ w5 26 (.slice A7 q'.m.length c7) (.slice A8 q'.rs.length c8)
  obtain ⟨w5', hw'⟩ : ∃ x, (w5).alloc (.cells #[.slice A7 q'.m.length c7, .slice A8 q'.rs.length c8] 26) = x := ⟨_, rfl⟩
  rw [hw'] at al xn
  rw [hg] at xn
  have x3 := xn
  clear xn d3
  replace x2 := x2.later al
  replace q2 := q2.on al (al).size
  replace x1 := x1.later al
  have zz := (al).size
  try (replace ob := objs_on ob al)
  replace q1 := q1.on al zz
  replace bw := bw.trans ((al).mono bw.size)
  clear zz
  replace q3 := q3.on al al.size
  clear al
  obtain ⟨y10, y11, -⟩ := id x1.reads
  obtain ⟨y20, y21, -⟩ := id x2.reads
  obtain ⟨y30, y31, -⟩ := id x3.reads
  cases y with
  | bad =>
    unfold QWay.ok
    go_wp2_with fail
    refine (sameQuarantine_is _ _ q' _ q2 q3 HSM).mono ?_
    rintro e w7 ⟨rfl, d⟩
    clear y10 y11 y20 y21 y30 y31
    replace x3 := x3.later d
    replace q3 := q3.on d (d).size
    replace x2 := x2.later d
    replace q2 := q2.on d (d).size
    replace x1 := x1.later d
    have zz := (d).size
    try (replace ob := objs_on ob d)
    replace q1 := q1.on d zz
    replace bw := bw.trans ((d).mono bw.size)
    clear zz
    clear d
    obtain ⟨y10, y11, -⟩ := id x1.reads
    obtain ⟨y20, y21, -⟩ := id x2.reads
    obtain ⟨y30, y31, -⟩ := id x3.reads
    go_wp2_with fail
    refine (sameQuarantine_is _ _ q' _ q2 q3 HSM).mono ?_
    rintro e w8 ⟨rfl, d⟩
    clear y10 y11 y20 y21 y30 y31
    replace x3 := x3.later d
    replace q3 := q3.on d (d).size
    replace x2 := x2.later d
    replace q2 := q2.on d (d).size
    replace x1 := x1.later d
    have zz := (d).size
    try (replace ob := objs_on ob d)
    replace q1 := q1.on d zz
    replace bw := bw.trans ((d).mono bw.size)
    clear zz
    clear d
    obtain ⟨y10, y11, -⟩ := id x1.reads
    obtain ⟨y20, y21, -⟩ := id x2.reads
    obtain ⟨y30, y31, -⟩ := id x3.reads
    go_wp2
    go_ret
    exact .mk_ bw
  | no =>
    unfold QWay.ok
    go_wp2_with fail
    refine (sameQuarantine_is _ _ q' _ q2 q3 HSM).mono ?_
    rintro e w7 ⟨rfl, d⟩
    clear y10 y11 y20 y21 y30 y31
    replace x3 := x3.later d
    replace q3 := q3.on d (d).size
    replace x2 := x2.later d
    replace q2 := q2.on d (d).size
    replace x1 := x1.later d
    have zz := (d).size
    try (replace ob := objs_on ob d)
    replace q1 := q1.on d zz
    replace bw := bw.trans ((d).mono bw.size)
    clear zz
    clear d
    obtain ⟨y10, y11, -⟩ := id x1.reads
    obtain ⟨y20, y21, -⟩ := id x2.reads
    obtain ⟨y30, y31, -⟩ := id x3.reads
    go_wp2_with fail
    refine (sameQuarantine_is _ _ q' _ q2 q3 HSM).mono ?_
    rintro e w8 ⟨rfl, d⟩
    clear y10 y11 y20 y21 y30 y31
    replace x3 := x3.later d
    replace q3 := q3.on d (d).size
    replace x2 := x2.later d
    replace q2 := q2.on d (d).size
    replace x1 := x1.later d
    have zz := (d).size
    try (replace ob := objs_on ob d)
    replace q1 := q1.on d zz
    replace bw := bw.trans ((d).mono bw.size)
    clear zz
    clear d
    obtain ⟨y10, y11, -⟩ := id x1.reads
    obtain ⟨y20, y21, -⟩ := id x2.reads
    obtain ⟨y30, y31, -⟩ := id x3.reads
    go_wp2
    go_ret
    exact .mk_ bw
  | yes q0 =>
    unfold QWay.ok
    have hE : q0 = q' := HQ.out
    subst hE
    obtain ⟨⟨hqv, htv⟩, hh, hq0⟩ := HY.out
    have hdv := del_valid (t := t) hqv hqv.1
    rw [← hq0] at hdv
    have hm : q0.m = q.m := by rw [hq0]
    have hrs : q0.rs = setA q.rs t [] := by rw [hq0]
    have HAO : Hid (∀ s, arOf q0.rs s = if s = t then [] else arOf q.rs s) := by rw [hrs]; exact hdv.2.1
    have HLN : Hid (q0.rs.length + 1 = q.rs.length) := by rw [hrs]; exact hdv.2.2 hh
    have HMM := hid hm
    have HSM1 := hid hqv.small
    have HARS : Hid (∀ s, (∀ o ∈ arOf q.rs s, o.zs.length ≤ 1048576) ∧ (arOf q.rs s).length ≤ 1048576) := fun s => by
      have := store_small (arOf_store hqv.2.1 s)
      exact ⟨fun o ho => by have := (this.1 o ho).1; omega, by omega⟩
    clear hqv htv hh hq0 hdv hm hrs HY
    go_wp2_with fail
    refine (sameQuarantine_is _ _ q0 _ q2 q3 HSM).mono ?_
    rintro e w7 ⟨rfl, d⟩
    clear y10 y11 y20 y21 y30 y31 q3 x3
    replace x2 := x2.later d
    replace q2 := q2.on d (d).size
    replace x1 := x1.later d
    have zz := (d).size
    try (replace ob := objs_on ob d)
    replace q1 := q1.on d zz
    replace bw := bw.trans ((d).mono bw.size)
    clear zz
    clear d
    go_wp2_with fail
    go_loopw [9] (fun i wr => ∃ k : Nat, k ≤ 12 ∧ i = .int .i64 k ∧ Below w7.heap.size w7 wr) (fun i _ => 12 - (intOf i).toNat)
    case atStart => exact ⟨0, Nat.zero_le _, rfl, Below.refl _ _⟩
    case round =>
      obtain ⟨k, hk, rfl, hb⟩ := hrel
      replace x2 := x2.later hb
      replace q2 := q2.on hb (hb).size
      replace x1 := x1.later hb
      have zz := (hb).size
      try (replace ob := objs_on ob hb)
      replace q1 := q1.on hb zz
      replace bw := bw.trans ((hb).mono bw.size)
      clear zz
      obtain ⟨y10, y11, -⟩ := id x1.reads
      obtain ⟨y20, y21, -⟩ := id x2.reads
      by_cases hlt : k < 12
      · have k1 : (k : Int) < 12 := by omega
        by_cases hkt : (k : Int) = t
        · have e0 : ((k : Int) != t) = false := by rw [bne_eq_false_iff_eq]; exact hkt
          clear hkt
          go_wp2_with fail
          go_quiet (fail)
          go_wp2
          go_roundw
          case rel => exact ⟨k + 1, by omega, by go_num, Wo.Below.drewN hb _⟩
          case measure => simp [intOf]; omega
        · have e0 : ((k : Int) != t) = true := by rw [bne_iff_ne]; exact hkt
          have HAK : Hid (arOf q0.rs (k : Int) = arOf q.rs (k : Int)) := by
            have := HAO.out (k : Int)
            rwa [if_neg hkt] at this
          clear hkt
          obtain ⟨os, hos⟩ : ∃ os, arOf q.rs (k : Int) = os := ⟨_, rfl⟩
          have hfo := HARS.out (k : Int)
          rw [hos] at hfo
          have CA2 : Hid (∀ x, Quar x x.heap.size (.agg #[.slice A5 q0.m.length c5, .slice A6 q0.rs.length c6]) q0 → Calls Try.prog 25 #[.agg #[.slice A5 q0.m.length c5, .slice A6 q0.rs.length c6], .int .i64 (k : Int)] x (Shown os x)) := fun x hx => by
            have := areaOf_any _ q0 (k : Int) x hx HFT.2.2.1
            rw [HAK.out, hos] at this
            exact this
          have CA1 : Hid (∀ x, Quar x x.heap.size (.agg #[.slice A3 q.m.length c3, .slice A4 q.rs.length c4]) q → Calls Try.prog 25 #[.agg #[.slice A3 q.m.length c3, .slice A4 q.rs.length c4], .int .i64 (k : Int)] x (Shown os x)) := fun x hx => by
            have := areaOf_any _ q (k : Int) x hx f1.2.2.1
            rw [hos] at this
            exact this
          clear hos
          go_wp2_with fail
          have dr := (Below.refl wr.heap.size wr).drew
          clear y10 y11 y20 y21
          replace x2 := x2.later dr
          replace q2 := q2.on dr (dr).size
          replace x1 := x1.later dr
          have zz := (dr).size
          try (replace ob := objs_on ob dr)
          replace q1 := q1.on dr zz
          replace bw := bw.trans ((dr).mono bw.size)
          clear zz
          replace hb := hb.trans ((dr).mono hb.size)
          clear dr
          have HX : Hid (∀ {x : World} {u0 u1 v0 v1 : Value}, BlkQ x g1 26 u0 u1 → BlkQ x g2 26 v0 v1 → x.cell? ⟨g1, 0, none⟩ = some u0 ∧ x.cell? ⟨g1, 1, none⟩ = some u1 ∧ x.cell? ⟨g2, 0, none⟩ = some v0 ∧ x.cell? ⟨g2, 1, none⟩ = some v1) := fun h k => ⟨h.reads.1, h.reads.2.1, k.reads.1, k.reads.2.1⟩
          refine wp_region_held_drew (S := fun x => x.cell? ⟨g1, 0, none⟩ = some (.slice A3 q.m.length c3) ∧ x.cell? ⟨g1, 1, none⟩ = some (.slice A4 q.rs.length c4) ∧ x.cell? ⟨g2, 0, none⟩ = some (.slice A5 q0.m.length c5) ∧ x.cell? ⟨g2, 1, none⟩ = some (.slice A6 q0.rs.length c6)) (by kernel_rfl) (HX.out x1 x2) (fun hHeld => ?_)
          refine wpAnyH_take (i := 0) (oi := _) (v := ?_) rfl (by kernel_rfl) (by kernel_rfl) (by kernel_rfl) (fun _ _ _ h => h) (Or.inl ⟨by rfl, ?_⟩) hHeld ?_
          rotate_left
          · (intro w' hSw; (try dsimp only at hSw); go_simp <;> with_reducible rfl)
          try simp only [Act.put, List.getElem_toArray, List.getElem_cons_succ, List.getElem_cons_zero, List.setIfInBounds_toArray, List.set_cons_zero, List.set_cons_succ]
          refine wpAnyH_take (i := 1) (oi := _) (v := ?_) rfl (by kernel_rfl) (by kernel_rfl) (by kernel_rfl) (fun _ _ _ h => h) (Or.inl ⟨by rfl, ?_⟩) hHeld ?_
          rotate_left
          · (intro w' hSw; (try dsimp only at hSw); go_simp <;> with_reducible rfl)
          try simp only [Act.put, List.getElem_toArray, List.getElem_cons_succ, List.getElem_cons_zero, List.setIfInBounds_toArray, List.set_cons_zero, List.set_cons_succ]
          refine wpAnyH_take (i := 2) (oi := _) (v := ?_) rfl (by kernel_rfl) (by kernel_rfl) (by kernel_rfl) (fun _ _ _ h => h) (Or.inl ⟨by rfl, ?_⟩) hHeld ?_
          rotate_left
          · (intro w' hSw; (try dsimp only at hSw); go_simp <;> with_reducible rfl)
          try simp only [Act.put, List.getElem_toArray, List.getElem_cons_succ, List.getElem_cons_zero, List.setIfInBounds_toArray, List.set_cons_zero, List.set_cons_succ]
          refine wpAnyH_take (i := 3) (oi := _) (v := ?_) rfl (by kernel_rfl) (by kernel_rfl) (by kernel_rfl) (fun _ _ _ h => h) (Or.inl ⟨by rfl, ?_⟩) hHeld ?_
          rotate_left
          · (intro w' hSw; (try dsimp only at hSw); go_simp <;> with_reducible rfl)
          try simp only [Act.put, List.getElem_toArray, List.getElem_cons_succ, List.getElem_cons_zero, List.setIfInBounds_toArray, List.set_cons_zero, List.set_cons_succ]
          refine wpAnyH_take (i := 4) (oi := _) (v := ?_) rfl (by kernel_rfl) (by kernel_rfl) (by kernel_rfl) (fun _ _ _ h => h) (Or.inl ⟨by rfl, ?_⟩) hHeld ?_
          rotate_left
          · (intro w' hSw; (try dsimp only at hSw); go_simp <;> with_reducible rfl)
          try simp only [Act.put, List.getElem_toArray, List.getElem_cons_succ, List.getElem_cons_zero, List.setIfInBounds_toArray, List.set_cons_zero, List.set_cons_succ]
          refine wpAnyH_take (i := 5) (oi := _) (v := ?_) rfl (by kernel_rfl) (by kernel_rfl) (by kernel_rfl) (fun _ _ _ h => h) (Or.inl ⟨by rfl, ?_⟩) hHeld ?_
          rotate_left
          · (intro w' hSw; (try dsimp only at hSw); go_simp <;> with_reducible rfl)
          try simp only [Act.put, List.getElem_toArray, List.getElem_cons_succ, List.getElem_cons_zero, List.setIfInBounds_toArray, List.set_cons_zero, List.set_cons_succ]
          refine wpAnyH_take (i := 7) (oi := _) (v := ?_) rfl (by kernel_rfl) (by kernel_rfl) (by kernel_rfl) (fun _ _ _ h => h) (Or.inl ⟨by rfl, ?_⟩) hHeld ?_
          rotate_left
          · (intro w' hSw; (try dsimp only at hSw); go_simp <;> with_reducible rfl)
          try simp only [Act.put, List.getElem_toArray, List.getElem_cons_succ, List.getElem_cons_zero, List.setIfInBounds_toArray, List.set_cons_zero, List.set_cons_succ]
          refine wpAnyH_take (i := 8) (oi := _) (v := ?_) rfl (by kernel_rfl) (by kernel_rfl) (by kernel_rfl) (fun _ _ _ h => h) (Or.inl ⟨by rfl, ?_⟩) hHeld ?_
          rotate_left
          · (intro w' hSw; (try dsimp only at hSw); go_simp <;> with_reducible rfl)
          try simp only [Act.put, List.getElem_toArray, List.getElem_cons_succ, List.getElem_cons_zero, List.setIfInBounds_toArray, List.set_cons_zero, List.set_cons_succ]
          refine wpAnyH_ready (rs := [6]) (by kernel_rfl) (by simp) (AllReadyH.cons (o := _) rfl (fun K hK => ?_) AllReadyH.nil)
          try simp only [Act.put, List.getElem_toArray, List.getElem_cons_succ, List.getElem_cons_zero, List.setIfInBounds_toArray, List.set_cons_zero, List.set_cons_succ]
          go_simp
          go_at_call 25
          refine (CA2.out _ q2).mono ?_
          rintro e w8 ⟨A9, c9, rfl, -, ob9, d⟩
          replace x2 := x2.later d
          replace q2 := q2.on d (d).size
          replace x1 := x1.later d
          have zz := (d).size
          try (replace ob := objs_on ob d)
          replace q1 := q1.on d zz
          replace bw := bw.trans ((d).mono bw.size)
          clear zz
          replace hb := hb.trans ((d).mono hb.size)
          clear d
          refine hK.out _ _ (HX.out x1 x2) (fun hHeld => ?_)
          clear hK K
          try simp only [Act.put, List.getElem_toArray, List.getElem_cons_succ, List.getElem_cons_zero, List.setIfInBounds_toArray, List.set_cons_zero, List.set_cons_succ]
          refine wpAnyH_ready (rs := [9]) (by kernel_rfl) (by simp) (AllReadyH.cons (o := _) rfl (fun K hK => ?_) AllReadyH.nil)
          try simp only [Act.put, List.getElem_toArray, List.getElem_cons_succ, List.getElem_cons_zero, List.setIfInBounds_toArray, List.set_cons_zero, List.set_cons_succ]
          go_simp
          go_at_call 25
          refine (CA1.out _ q1).mono ?_
          rintro e w9 ⟨A10, c10, rfl, -, ob10, d⟩
          replace x2 := x2.later d
          replace q2 := q2.on d (d).size
          replace x1 := x1.later d
          have zz := (d).size
          try (replace ob := objs_on ob d)
          replace q1 := q1.on d zz
          replace bw := bw.trans ((d).mono bw.size)
          clear zz
          replace hb := hb.trans ((d).mono hb.size)
          replace ob9 := objs_on ob9 d
          clear d
          refine hK.out _ _ (HX.out x1 x2) (fun hHeld => ?_)
          clear hK K
          try simp only [Act.put, List.getElem_toArray, List.getElem_cons_succ, List.getElem_cons_zero, List.setIfInBounds_toArray, List.set_cons_zero, List.set_cons_succ]
          refine wpAnyH_ready (rs := [10]) (by kernel_rfl) (by simp) (AllReadyH.cons (o := _) rfl (fun K hK => ?_) AllReadyH.nil)
          try simp only [Act.put, List.getElem_toArray, List.getElem_cons_succ, List.getElem_cons_zero, List.setIfInBounds_toArray, List.set_cons_zero, List.set_cons_succ]
          go_simp
          go_at_call 24
          refine (sameObjectsQ A9 A10 c9 c10 os _ ob9 ob10 hfo.2 hfo.1).mono ?_
          rintro e w10 ⟨rfl, d⟩
          replace x2 := x2.later d
          replace q2 := q2.on d (d).size
          replace x1 := x1.later d
          have zz := (d).size
          try (replace ob := objs_on ob d)
          replace q1 := q1.on d zz
          replace bw := bw.trans ((d).mono bw.size)
          clear zz
          replace hb := hb.trans ((d).mono hb.size)
          clear d
          refine hK.out _ _ (HX.out x1 x2) (fun hHeld => ?_)
          clear hK K
          try simp only [Act.put, List.getElem_toArray, List.getElem_cons_succ, List.getElem_cons_zero, List.setIfInBounds_toArray, List.set_cons_zero, List.set_cons_succ]
          refine wpAnyH_take (i := 11) (oi := _) (v := ?_) rfl (by kernel_rfl) (by kernel_rfl) (by kernel_rfl) (fun _ _ _ h => h) (Or.inl ⟨by rfl, ?_⟩) hHeld ?_
          rotate_left
          · (intro w' hSw; (try dsimp only at hSw); go_simp <;> with_reducible rfl)
          try simp only [Act.put, List.getElem_toArray, List.getElem_cons_succ, List.getElem_cons_zero, List.setIfInBounds_toArray, List.set_cons_zero, List.set_cons_succ]
          refine wpAnyH_take (i := 12) (oi := _) (v := ?_) rfl (by kernel_rfl) (by kernel_rfl) (by kernel_rfl) (fun _ _ _ h => h) (Or.inl ⟨by rfl, ?_⟩) hHeld ?_
          rotate_left
          · (intro w' hSw; (try dsimp only at hSw); go_simp <;> with_reducible rfl)
          try simp only [Act.put, List.getElem_toArray, List.getElem_cons_succ, List.getElem_cons_zero, List.setIfInBounds_toArray, List.set_cons_zero, List.set_cons_succ]
          refine wpAnyH_done (by kernel_rfl) ?_ _
          clear hHeld
          go_wp2
          go_roundw
          case rel => exact ⟨k + 1, by omega, by go_num, hb⟩
          case measure => simp [intOf]; omega
      · have hk' : k = 12 := by omega
        subst hk'
        have om1 := q1.main
        have om2 : Objs wr wr.heap.size A5 q.m := by rw [← HMM.out]; exact q2.main
        have CSO : Hid (Calls Try.prog 24 #[.slice A5 q0.m.length c5, .slice A3 q.m.length c3] wr (Ret (.bool true) wr)) := by
          have := sameObjectsQ A5 A3 c5 c3 q.m wr om2 om1 HSM1.out.2.1 HSM1.out.1
          rw [← HMM.out] at this ⊢
          exact this
        have CAT : Hid (∀ x, Quar x x.heap.size (.agg #[.slice A5 q0.m.length c5, .slice A6 q0.rs.length c6]) q0 → Calls Try.prog 25 #[.agg #[.slice A5 q0.m.length c5, .slice A6 q0.rs.length c6], .int .i64 t] x (Shown [] x)) := fun x hx => by
          have := areaOf_any _ q0 t x hx HFT.2.2.1
          have e := HAO.out t
          rw [if_pos rfl] at e
          rw [e] at this
          exact this
        have e9 : (((q0.rs.length : Nat) : Int) == ((q.rs.length : Nat) : Int) - 1) = true := by rw [beq_iff_eq]; have := HLN.out; omega
        have l1 : q.rs.length ≤ 1048576 := f1.2.2.1
        have l2 : 1 ≤ q.rs.length := by have := HLN.out; omega
        clear om1 om2
        go_wp2_with fail
        refine CSO.out.mono ?_
        rintro e w8 ⟨rfl, d⟩
        clear y10 y11 y20 y21
        replace x2 := x2.later d
        replace q2 := q2.on d (d).size
        replace x1 := x1.later d
        have zz := (d).size
        try (replace ob := objs_on ob d)
        replace q1 := q1.on d zz
        replace bw := bw.trans ((d).mono bw.size)
        clear zz
        replace hb := hb.trans ((d).mono hb.size)
        clear d CSO
        obtain ⟨y10, y11, -⟩ := id x1.reads
        obtain ⟨y20, y21, -⟩ := id x2.reads
        go_wp2_with fail
        refine (CAT.out _ q2).mono ?_
        rintro e w9 ⟨A9, c9, rfl, -, -, d⟩
        clear y10 y11 y20 y21
        replace x2 := x2.later d
        replace q2 := q2.on d (d).size
        replace x1 := x1.later d
        have zz := (d).size
        try (replace ob := objs_on ob d)
        replace q1 := q1.on d zz
        replace bw := bw.trans ((d).mono bw.size)
        clear zz
        replace hb := hb.trans ((d).mono hb.size)
        clear d CAT
        obtain ⟨y10, y11, -⟩ := id x1.reads
        obtain ⟨y20, y21, -⟩ := id x2.reads
        go_wp2
        go_ret
        exact .mk_ bw
theorem FnDiscard_any (A : Option Addr) (c : Nat) (bs : List Int) (w : World) (f1 : Row w w.heap.size A (bs.map (Value.int .u8))) (f2 : bs.length ≤ c) (f3 : c ≤ maxLen) (f4 : ∀ n ∈ bs, 0 ≤ n ∧ n < 256) :
    Calls Try.prog 7 #[.slice A bs.length c] w (Ret (.bool true) w) := by
  by_cases hl : bs.length ≤ 1048576
  · exact FnDiscard_yes A c bs w ⟨f1, f2, f3, f4⟩ hl
  · exact FnDiscard_no A c bs w ⟨f1, f2, f3, f4⟩ hl
end Go.Proofs.Ytblknnifccmpkaa
