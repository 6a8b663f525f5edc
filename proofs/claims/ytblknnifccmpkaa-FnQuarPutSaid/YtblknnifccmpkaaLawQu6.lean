/-
  Walks of the laws on objects put and promoted.
-/
import Derived.Test.YtblknnifccmpkaaLawQu2
import Derived.Test.YtblknnifccmpkaaLawQu4
import Derived.Test.YtblknnifccmpkaaRchC
namespace Go.Proofs.Ytblknnifccmpkaa
open Go.RowKit Wo Pu Qu

theorem objectId_q (v : Int) (B : Nat) (A : Option Addr) (c : Nat) (o : Ob) (w : World) (hr : Row w B A (ints o.zs)) (hB : B ≤ w.heap.size) (hm : o.zs.length ≤ maxLen) (hs : o.s.size ≤ maxLen) (e : iOb o = v) :
    Calls Try.prog 27 #[.agg #[.int .i64 o.kd, .slice A o.zs.length c, .string o.s]] w (Ret (.int .i64 v) w) := by
  subst e
  exact implObjectId_any B A c o.kd o.zs o.s w hr hB hm hs
/-- Behind it: the object, of the call's own. -/
def GotO (o : Ob) (w : World) (e : Ending) (w' : World) : Prop := ∃ A c, e = .returned (.tuple #[.agg #[.int .i64 o.kd, .slice A o.zs.length c, .string o.s], .bool true]) ∧ Own w' w.heap.size (.slice A o.zs.length c) o.zs ∧ Below w.heap.size w w'
theorem get_there (A : Option Addr) (c : Nat) (os : List Ob) (o : Ob) (w : World) (h : Objs w w.heap.size A os) (hs : storeB os = true) (ho : o ∈ os) :
    Calls Try.prog 26 #[.slice A os.length c, .int .i64 (iOb o)] w (GotO o w) := by
  refine (get_any A c os (iOb o) w h (store_fit hs) (by have := (storeB_parts hs).2; unfold maxLen; omega) hs).mono ?_
  rintro e w' ⟨A', c', o', he, hw, hb, h1⟩
  have hi : isIn os (iOb o) = true := isIn_iff.2 ⟨o, ho, rfl⟩
  obtain ⟨h2, h3⟩ := h1.1 hi
  obtain rfl := Go.Proofs.Ytblknnifccmpkaa.storeB_inj hs h2 ho h3
  rw [hi] at he
  exact ⟨A', c', he, hw, hb⟩
theorem store_len {os : List Ob} (h : storeB os = true) {o : Ob} (ho : o ∈ os) : o.zs.length ≤ maxLen ∧ o.s.size ≤ maxLen := by
  have := (store_small h).1 o ho
  unfold maxLen
  omega
theorem blk_store' {w : World} {g : Nat} {t : TypeId} {v0 v1 v2 : Value} (h : Blk w g t v0 v1 v2) (u0 u1 u2 : Value) : Blk (((w.setCell ⟨g, 0, none⟩ u0).setCell ⟨g, 1, none⟩ u1).setCell ⟨g, 2, none⟩ u2) g t u0 u1 u2 :=
  ((h.set0 u0).set1 u1).set2 u2
theorem below_store {w : World} {g : Nat} {t : TypeId} {v0 v1 v2 : Value} (_ : Blk w g t v0 v1 v2) {w0 : World} {B : Nat} (hb : Below B w0 w) (hB : B ≤ g) (u0 u1 u2 : Value) : Below B w0 (((w.setCell ⟨g, 0, none⟩ u0).setCell ⟨g, 1, none⟩ u1).setCell ⟨g, 2, none⟩ u2) :=
  ((hb.setCell (p := ⟨g, 0, none⟩) hB u0).setCell (p := ⟨g, 1, none⟩) hB u1).setCell (p := ⟨g, 2, none⟩) hB u2
theorem own_store {w : World} {g B : Nat} {v v0 v1 v2 : Value} {zs : List Int} (h : Own w B v zs) (u : Blk w g 38 v0 v1 v2) (u0 u1 u2 : Value) : Own (((w.setCell ⟨g, 0, none⟩ u0).setCell ⟨g, 1, none⟩ u1).setCell ⟨g, 2, none⟩ u2) B v zs :=
  ((h.far u 0 u0).far (u.set0 _) 1 u1).far ((u.set0 _).set1 _) 2 u2
theorem FnPromote_no (A : Option Addr) (c : Nat) (bs : List Int) (w : World) (h : Code_ w A c bs) (hl : ¬ bs.length ≤ 1048576) :
    Calls Try.prog 5 #[.slice A bs.length c] w (Ret (.bool true) w) := by
  have hc := h.2.1
  have hm := h.2.2.1
  unfold maxLen at hm
  go_enter Try.func5, Try.ntmps5
  go_wp2
  go_ret
  exact .mk_ (Below.refl _ _)
set_option linter.unusedSimpArgs false in
set_option maxRecDepth 100000 in
set_option maxHeartbeats 16000000 in
theorem FnPromote_yes (A : Option Addr) (c : Nat) (bs : List Int) (w : World) (h : Code_ w A c bs) (hl : bs.length ≤ 1048576) :
    Calls Try.prog 5 #[.slice A bs.length c] w (Ret (.bool true) w) := by
  go_enter Try.func5, Try.ntmps5
  go_wp2_with fail
  refine (DrawQuarantinePromote_any A c bs _ h).mono ?_
  rintro e w1 ⟨v1, q, t, rfl, o1, f1, b1⟩
  have bw := b1
  clear b1
  have q1 := o1.quar
  obtain ⟨A3, c3, A4, c4, rfl, -, -, -, -⟩ := id o1
  obtain ⟨y, hy⟩ := pro_way q t
  have HSF := pro_sf hy
  obtain ⟨q', hq'⟩ : ∃ q', y.q q = q' := ⟨_, rfl⟩
  rw [hq'] at HSF
  obtain ⟨HSM, HFT⟩ := HSF
  have HY := hid hy
  have HQ := hid hq'
  clear hy hq' o1
  unfold qv at *
  obtain ⟨g1, hg⟩ : ∃ g, (w1).heap.size = g := ⟨_, rfl⟩
  have al := (Below.refl (w1).heap.size w1).alloc (Nat.le_refl _) (.cells #[.slice A3 q.m.length c3, .slice A4 q.rs.length c4] 26)
  have xn := BlkQ.new_ w1 26 (.slice A3 q.m.length c3) (.slice A4 q.rs.length c4)
  obtain ⟨w1', hw'⟩ : ∃ x, (w1).alloc (.cells #[.slice A3 q.m.length c3, .slice A4 q.rs.length c4] 26) = x := ⟨_, rfl⟩
  rw [hw'] at al xn
  rw [hg] at xn
  have x1 := xn
  clear xn
  have zz := (al).size
  try (replace ob := objs_on ob al)
  replace q1 := q1.on al zz
  replace bw := bw.trans ((al).mono bw.size)
  clear zz
  clear al
  obtain ⟨y10, y11, -⟩ := id x1.reads
  go_wp2_with fail
  refine (implQuarantinePromote_is y _ q t _ q1 f1 HY.out).mono ?_
  rintro e w3 o2
  unfold Changed at o2
  rw [HQ.out] at o2
  obtain ⟨v2, rfl, o2, d2⟩ := o2
  have q2 := o2.quar
  obtain ⟨A5, c5, A6, c6, rfl, -, -, -, -⟩ := id o2
  clear o2 y10 y11
  unfold qv at *
  replace x1 := x1.later d2
  have zz := (d2).size
  try (replace ob := objs_on ob d2)
  replace q1 := q1.on d2 zz
  replace bw := bw.trans ((d2).mono bw.size)
  clear zz
  obtain ⟨g2, hg⟩ : ∃ g, (w3).heap.size = g := ⟨_, rfl⟩
  have al := (Below.refl (w3).heap.size w3).alloc (Nat.le_refl _) (.cells #[.slice A5 q'.m.length c5, .slice A6 q'.rs.length c6] 26)
  have xn := BlkQ.new_ w3 26 (.slice A5 q'.m.length c5) (.slice A6 q'.rs.length c6)
  obtain ⟨w3', hw'⟩ : ∃ x, (w3).alloc (.cells #[.slice A5 q'.m.length c5, .slice A6 q'.rs.length c6] 26) = x := ⟨_, rfl⟩
  rw [hw'] at al xn
  rw [hg] at xn
  have x2 := xn
  clear xn d2
  replace x1 := x1.later al
  have zz := (al).size
  try (replace ob := objs_on ob al)
  replace q1 := q1.on al zz
  replace bw := bw.trans ((al).mono bw.size)
  clear zz
  replace q2 := q2.on al al.size
  clear al
  obtain ⟨y10, y11, -⟩ := id x1.reads
  obtain ⟨y20, y21, -⟩ := id x2.reads
  go_wp2_with fail
  refine (specQuarantinePromote_is y _ q t _ q1 f1 HY.out).mono ?_
  rintro e w5 o3
  unfold Changed at o3
  rw [HQ.out] at o3
  obtain ⟨v3, rfl, o3, d3⟩ := o3
  have q3 := o3.quar
  obtain ⟨A7, c7, A8, c8, rfl, -, -, -, -⟩ := id o3
  clear o3 y10 y11 y20 y21
  unfold qv at *
  replace x2 := x2.later d3
  replace q2 := q2.on d3 (d3).size
  replace x1 := x1.later d3
  have zz := (d3).size
  try (replace ob := objs_on ob d3)
  replace q1 := q1.on d3 zz
  replace bw := bw.trans ((d3).mono bw.size)
  clear zz
  obtain ⟨g3, hg⟩ : ∃ g, (w5).heap.size = g := ⟨_, rfl⟩
  have al := (Below.refl (w5).heap.size w5).alloc (Nat.le_refl _) (.cells #[.slice A7 q'.m.length c7, .slice A8 q'.rs.length c8] 26)
  have xn := BlkQ.new_ w5 26 (.slice A7 q'.m.length c7) (.slice A8 q'.rs.length c8)
  obtain ⟨w5', hw'⟩ : ∃ x, (w5).alloc (.cells #[.slice A7 q'.m.length c7, .slice A8 q'.rs.length c8] 26) = x := ⟨_, rfl⟩
  rw [hw'] at al xn
  rw [hg] at xn
  have x3 := xn
  clear xn d3
  replace x2 := x2.later al
  replace q2 := q2.on al (al).size
  replace x1 := x1.later al
  have zz := (al).size
  try (replace ob := objs_on ob al)
  replace q1 := q1.on al zz
  replace bw := bw.trans ((al).mono bw.size)
  clear zz
  replace q3 := q3.on al al.size
  clear al
  obtain ⟨y10, y11, -⟩ := id x1.reads
  obtain ⟨y20, y21, -⟩ := id x2.reads
  obtain ⟨y30, y31, -⟩ := id x3.reads
  cases y with
  | bad =>
    unfold QWay.ok
    go_wp2_with fail
    refine (sameQuarantine_is _ _ q' _ q2 q3 HSM).mono ?_
    rintro e w7 ⟨rfl, d⟩
    clear y10 y11 y20 y21 y30 y31
    replace x3 := x3.later d
    replace q3 := q3.on d (d).size
    replace x2 := x2.later d
    replace q2 := q2.on d (d).size
    replace x1 := x1.later d
    have zz := (d).size
    try (replace ob := objs_on ob d)
    replace q1 := q1.on d zz
    replace bw := bw.trans ((d).mono bw.size)
    clear zz
    clear d
    obtain ⟨y10, y11, -⟩ := id x1.reads
    obtain ⟨y20, y21, -⟩ := id x2.reads
    obtain ⟨y30, y31, -⟩ := id x3.reads
    go_wp2_with fail
    refine (sameQuarantine_is _ _ q' _ q2 q3 HSM).mono ?_
    rintro e w8 ⟨rfl, d⟩
    clear y10 y11 y20 y21 y30 y31
    replace x3 := x3.later d
    replace q3 := q3.on d (d).size
    replace x2 := x2.later d
    replace q2 := q2.on d (d).size
    replace x1 := x1.later d
    have zz := (d).size
    try (replace ob := objs_on ob d)
    replace q1 := q1.on d zz
    replace bw := bw.trans ((d).mono bw.size)
    clear zz
    clear d
    obtain ⟨y10, y11, -⟩ := id x1.reads
    obtain ⟨y20, y21, -⟩ := id x2.reads
    obtain ⟨y30, y31, -⟩ := id x3.reads
    go_wp2
    go_ret
    exact .mk_ bw
  | no =>
    unfold QWay.ok
    go_wp2_with fail
    refine (sameQuarantine_is _ _ q' _ q2 q3 HSM).mono ?_
    rintro e w7 ⟨rfl, d⟩
    clear y10 y11 y20 y21 y30 y31
    replace x3 := x3.later d
    replace q3 := q3.on d (d).size
    replace x2 := x2.later d
    replace q2 := q2.on d (d).size
    replace x1 := x1.later d
    have zz := (d).size
    try (replace ob := objs_on ob d)
    replace q1 := q1.on d zz
    replace bw := bw.trans ((d).mono bw.size)
    clear zz
    clear d
    obtain ⟨y10, y11, -⟩ := id x1.reads
    obtain ⟨y20, y21, -⟩ := id x2.reads
    obtain ⟨y30, y31, -⟩ := id x3.reads
    go_wp2_with fail
    refine (sameQuarantine_is _ _ q' _ q2 q3 HSM).mono ?_
    rintro e w8 ⟨rfl, d⟩
    clear y10 y11 y20 y21 y30 y31
    replace x3 := x3.later d
    replace q3 := q3.on d (d).size
    replace x2 := x2.later d
    replace q2 := q2.on d (d).size
    replace x1 := x1.later d
    have zz := (d).size
    try (replace ob := objs_on ob d)
    replace q1 := q1.on d zz
    replace bw := bw.trans ((d).mono bw.size)
    clear zz
    clear d
    obtain ⟨y10, y11, -⟩ := id x1.reads
    obtain ⟨y20, y21, -⟩ := id x2.reads
    obtain ⟨y30, y31, -⟩ := id x3.reads
    go_wp2
    go_ret
    exact .mk_ bw
  | yes q0 =>
    unfold QWay.ok
    have hE : q0 = q' := HQ.out
    subst hE
    obtain ⟨⟨hqv, htv⟩, z, hh, hu, hq0⟩ := HY.out
    have hdv := del_valid (t := t) hqv hu.1
    rw [← hq0] at hdv
    have hm : q0.m = z := by rw [hq0]
    have hrs : q0.rs = setA q.rs t [] := by rw [hq0]
    have HAT : Hid (arOf q0.rs t = []) := by show _ = _; rw [hrs, hdv.2.1, if_pos rfl]
    have HLN : Hid (q0.rs.length + 1 = q.rs.length) := by rw [hrs]; exact hdv.2.2 hh
    have HQV := hid hdv.1
    have HU : Hid (Uni q.m (arOf q.rs t) q0.m) := by rw [hm]; exact hu
    have HSm : Hid (storeB q.m = true) := hqv.1
    have HSa : Hid (storeB (arOf q.rs t) = true) := arOf_store hqv.2.1 t
    have hal : (arOf q.rs t).length ≤ 1048576 := by have := (storeB_parts (arOf_store hqv.2.1 t)).2; omega
    have hml : q.m.length ≤ 1048576 := by have := (storeB_parts hqv.1).2; omega
    have l1 : q.rs.length ≤ 1048576 := f1.2.2.1
    obtain ⟨ar, har⟩ : ∃ ar, arOf q.rs t = ar := ⟨_, rfl⟩
    rw [har] at HU HSa hal
    have CAR : Hid (∀ y, Quar y y.heap.size (.agg #[.slice A3 q.m.length c3, .slice A4 q.rs.length c4]) q → Calls Try.prog 25 #[.agg #[.slice A3 q.m.length c3, .slice A4 q.rs.length c4], .int .i64 t] y (Shown ar y)) := fun y hy => by
      have := areaOf_any _ q t y hy f1.2.2.1
      rw [har] at this
      exact this
    clear hqv htv hh hu hq0 hdv hm hrs HY har
    go_wp2_with fail
    refine (sameQuarantine_is _ _ q0 _ q2 q3 HSM).mono ?_
    rintro e w7 ⟨rfl, d⟩
    clear y10 y11 y20 y21 y30 y31 q3 x3
    replace x2 := x2.later d
    replace q2 := q2.on d (d).size
    replace x1 := x1.later d
    have zz := (d).size
    try (replace ob := objs_on ob d)
    replace q1 := q1.on d zz
    replace bw := bw.trans ((d).mono bw.size)
    clear zz
    clear d
    obtain ⟨y10, y11, -⟩ := id x1.reads
    go_wp2_with fail
    refine (CAR.out _ q1).mono ?_
    rintro e w8 ⟨AA, cA, rfl, hcA, obA, d⟩
    clear y10 y11
    replace x2 := x2.later d
    replace q2 := q2.on d (d).size
    replace x1 := x1.later d
    have zz := (d).size
    try (replace ob := objs_on ob d)
    replace q1 := q1.on d zz
    replace bw := bw.trans ((d).mono bw.size)
    clear zz
    clear d CAR
    go_wp2_with fail
    go_loopw [10] (fun i wr => ∃ k : Nat, k ≤ ar.length ∧ i = .int .i64 k ∧ Below w8.heap.size w8 wr) (fun i _ => ar.length - (intOf i).toNat)
    case atStart => exact ⟨0, Nat.zero_le _, rfl, Below.refl _ _⟩
    case round =>
      obtain ⟨k, hk, rfl, hb⟩ := hrel
      replace x2 := x2.later hb
      replace q2 := q2.on hb (hb).size
      replace x1 := x1.later hb
      have zz := (hb).size
      try (replace ob := objs_on ob hb)
      replace q1 := q1.on hb zz
      replace bw := bw.trans ((hb).mono bw.size)
      clear zz
      replace obA := objs_on obA hb
      by_cases hlt : k < ar.length
      · obtain ⟨o, ad, A', c', hoe, rfl, ha, g0, gc1, gc2, gr⟩ := obA.obj hlt
        have hom : o ∈ ar := by rw [← hoe]; exact List.getElem_mem hlt
        have hlen := store_len HSa.out hom
        obtain ⟨x, hx⟩ : ∃ x, iOb o = x := ⟨_, rfl⟩
        have k0 : 0 ≤ (k : Int) := by omega
        have k1 : (k : Int) < (ar.length : Int) := by omega
        have CID : Hid (∀ y, Below wr.heap.size wr y → Calls Try.prog 27 #[.agg #[.int .i64 o.kd, .slice A' o.zs.length c', .string o.s]] y (Ret (.int .i64 x) y)) := fun y hy => objectId_q x _ A' c' o y ((gr.below hy (Nat.le_refl _)).more hy.size) (Nat.le_refl _) hlen.1 hlen.2 hx
        have CSG : Hid (∀ y, Below wr.heap.size wr y → Calls Try.prog 26 #[.slice A5 q0.m.length c5, .int .i64 x] y (GotO o y)) := fun y hy => by
          rw [← hx]
          exact get_there A5 c5 q0.m o y (objs_on q2.main hy) HU.out.1 ((HU.out.2 o).2 (.inr hom))
        have HK : Hid (∀ y, Below wr.heap.size wr y → y.cell? ⟨g2, 0, none⟩ = some (.slice A5 q0.m.length c5) ∧ y.cell? (ad.add (k * 3)) = some (.int .i64 o.kd) ∧ y.cell? ⟨(ad.add (k * 3)).block, (ad.add (k * 3)).off + 1, none⟩ = some (.slice A' o.zs.length c') ∧ y.cell? ⟨(ad.add (k * 3)).block, (ad.add (k * 3)).off + 2, none⟩ = some (.string o.s)) := fun y hy => ⟨(x2.later hy).reads.1, (hy.cell ha).trans g0, (hy.cell (p := ⟨(ad.add (k * 3)).block, (ad.add (k * 3)).off + 1, none⟩) ha).trans gc1, (hy.cell (p := ⟨(ad.add (k * 3)).block, (ad.add (k * 3)).off + 2, none⟩) ha).trans gc2⟩
        have b0 := (Below.refl wr.heap.size wr).drew
        clear hx hoe g0 gc1 gc2
        go_wp2_with fail
        refine wp_region_held_drew (S := fun y => y.cell? ⟨g2, 0, none⟩ = some (.slice A5 q0.m.length c5) ∧ y.cell? (ad.add (k * 3)) = some (.int .i64 o.kd) ∧ y.cell? ⟨(ad.add (k * 3)).block, (ad.add (k * 3)).off + 1, none⟩ = some (.slice A' o.zs.length c') ∧ y.cell? ⟨(ad.add (k * 3)).block, (ad.add (k * 3)).off + 2, none⟩ = some (.string o.s)) (by kernel_rfl) (HK.out _ b0) (fun hHeld => ?_)
        refine wpAnyH_take (i := 0) (oi := _) (v := ?_) rfl (by kernel_rfl) (by kernel_rfl) (by kernel_rfl) (fun _ _ _ h => h) (Or.inl ⟨by rfl, ?_⟩) hHeld ?_
        rotate_left
        · (intro w' hSw; (try dsimp only at hSw); go_simp <;> with_reducible rfl)
        try simp only [Act.put, List.getElem_toArray, List.getElem_cons_succ, List.getElem_cons_zero, List.setIfInBounds_toArray, List.set_cons_zero, List.set_cons_succ]
        refine wpAnyH_take (i := 1) (oi := _) (v := ?_) rfl (by kernel_rfl) (by kernel_rfl) (by kernel_rfl) (fun _ _ _ h => h) (Or.inl ⟨by rfl, ?_⟩) hHeld ?_
        rotate_left
        · (intro w' hSw; (try dsimp only at hSw); go_simp <;> with_reducible rfl)
        try simp only [Act.put, List.getElem_toArray, List.getElem_cons_succ, List.getElem_cons_zero, List.setIfInBounds_toArray, List.set_cons_zero, List.set_cons_succ]
        refine wpAnyH_take (i := 2) (oi := _) (v := ?_) rfl (by kernel_rfl) (by kernel_rfl) (by kernel_rfl) (fun _ _ _ h => h) (Or.inl ⟨by rfl, ?_⟩) hHeld ?_
        rotate_left
        · (intro w' hSw; (try dsimp only at hSw); go_simp <;> with_reducible rfl)
        try simp only [Act.put, List.getElem_toArray, List.getElem_cons_succ, List.getElem_cons_zero, List.setIfInBounds_toArray, List.set_cons_zero, List.set_cons_succ]
        refine wpAnyH_take (i := 3) (oi := _) (v := ?_) rfl (by kernel_rfl) (by kernel_rfl) (by kernel_rfl) (fun _ _ _ h => h) (Or.inl ⟨by rfl, ?_⟩) hHeld ?_
        rotate_left
        · (intro w' hSw; (try dsimp only at hSw); go_simp <;> with_reducible rfl)
        try simp only [Act.put, List.getElem_toArray, List.getElem_cons_succ, List.getElem_cons_zero, List.setIfInBounds_toArray, List.set_cons_zero, List.set_cons_succ]
        refine wpAnyH_take (i := 4) (oi := _) (v := ?_) rfl (by kernel_rfl) (by kernel_rfl) (by kernel_rfl) (fun _ _ _ h => h) (Or.inl ⟨by rfl, ?_⟩) hHeld ?_
        rotate_left
        · (intro w' hSw; (try dsimp only at hSw); go_simp <;> with_reducible rfl)
        try simp only [Act.put, List.getElem_toArray, List.getElem_cons_succ, List.getElem_cons_zero, List.setIfInBounds_toArray, List.set_cons_zero, List.set_cons_succ]
        refine wpAnyH_take (i := 5) (oi := _) (v := ?_) rfl (by kernel_rfl) (by kernel_rfl) (by kernel_rfl) (fun _ _ _ h => h) (Or.inl ⟨by rfl, ?_⟩) hHeld ?_
        rotate_left
        · (intro w' hSw; (try dsimp only at hSw); go_simp <;> with_reducible rfl)
        try simp only [Act.put, List.getElem_toArray, List.getElem_cons_succ, List.getElem_cons_zero, List.setIfInBounds_toArray, List.set_cons_zero, List.set_cons_succ]
        refine wpAnyH_ready (rs := [6, 11]) (by kernel_rfl) (by simp) (AllReadyH.cons (o := _) rfl (fun K hK => ?_) (AllReadyH.cons (o := _) rfl (fun K hK => ?_) AllReadyH.nil))
        · skip
          try simp only [Act.put, List.getElem_toArray, List.getElem_cons_succ, List.getElem_cons_zero, List.setIfInBounds_toArray, List.set_cons_zero, List.set_cons_succ]
          go_simp
          go_at_call 27
          refine (CID.out _ b0).mono ?_
          rintro e w8 ⟨rfl, d8⟩
          have b8 := (b0).trans (d8.mono (b0).size)
          refine hK.out _ _ (HK.out _ b8) (fun hHeld => ?_)
          clear hK K
          try simp only [Act.put, List.getElem_toArray, List.getElem_cons_succ, List.getElem_cons_zero, List.setIfInBounds_toArray, List.set_cons_zero, List.set_cons_succ]
          refine wpAnyH_ready (rs := [7, 11]) (by kernel_rfl) (by simp) (AllReadyH.cons (o := _) rfl (fun K hK => ?_) (AllReadyH.cons (o := _) rfl (fun K hK => ?_) AllReadyH.nil))
          · skip
            try simp only [Act.put, List.getElem_toArray, List.getElem_cons_succ, List.getElem_cons_zero, List.setIfInBounds_toArray, List.set_cons_zero, List.set_cons_succ]
            go_simp
            go_at_call 26
            refine (CSG.out _ b8).mono ?_
            rintro e w9 ⟨A8, c8, rfl, o9, d9⟩
            have b9 := (b8).trans (d9.mono (b8).size)
            refine hK.out _ _ (HK.out _ b9) (fun hHeld => ?_)
            clear hK K
            try simp only [Act.put, List.getElem_toArray, List.getElem_cons_succ, List.getElem_cons_zero, List.setIfInBounds_toArray, List.set_cons_zero, List.set_cons_succ]
            refine wpAnyH_take (i := 8) (oi := _) (v := ?_) rfl (by kernel_rfl) (by kernel_rfl) (by kernel_rfl) (fun _ _ _ h => h) (Or.inl ⟨by rfl, ?_⟩) hHeld ?_
            rotate_left
            · (intro w' hSw; (try dsimp only at hSw); go_simp <;> with_reducible rfl)
            try simp only [Act.put, List.getElem_toArray, List.getElem_cons_succ, List.getElem_cons_zero, List.setIfInBounds_toArray, List.set_cons_zero, List.set_cons_succ]
            refine wpAnyH_take (i := 9) (oi := _) (v := ?_) rfl (by kernel_rfl) (by kernel_rfl) (by kernel_rfl) (fun _ _ _ h => h) (Or.inl ⟨by rfl, ?_⟩) hHeld ?_
            rotate_left
            · (intro w' hSw; (try dsimp only at hSw); go_simp <;> with_reducible rfl)
            try simp only [Act.put, List.getElem_toArray, List.getElem_cons_succ, List.getElem_cons_zero, List.setIfInBounds_toArray, List.set_cons_zero, List.set_cons_succ]
            refine wpAnyH_take (i := 10) (oi := _) (v := ?_) rfl (by kernel_rfl) (by kernel_rfl) (by kernel_rfl) (fun _ _ _ h => h) (Or.inl ⟨by rfl, ?_⟩) hHeld ?_
            rotate_left
            · (intro w' hSw; (try dsimp only at hSw); go_simp <;> with_reducible rfl)
            try simp only [Act.put, List.getElem_toArray, List.getElem_cons_succ, List.getElem_cons_zero, List.setIfInBounds_toArray, List.set_cons_zero, List.set_cons_succ]
            refine wpAnyH_ready (rs := [11]) (by kernel_rfl) (by simp) (AllReadyH.cons (o := _) rfl (fun K hK => ?_) AllReadyH.nil)
            try simp only [Act.put, List.getElem_toArray, List.getElem_cons_succ, List.getElem_cons_zero, List.setIfInBounds_toArray, List.set_cons_zero, List.set_cons_succ]
            try simp only [Act.put, List.getElem_toArray, List.getElem_cons_succ, List.getElem_cons_zero, List.setIfInBounds_toArray, List.set_cons_zero, List.set_cons_succ]
            go_simp
            have b10 := (b9).alloc (b9).size (.cells #[.int .i64 0, .slice none 0 0, .string ⟨#[]⟩] 38)
            have u10 := Blk.new_ w9 38 (.int .i64 0) (.slice none 0 0) (.string ⟨#[]⟩)
            have su10 : wr.heap.size ≤ (w9).heap.size := (b9).size
            have au10 := (Below.refl (w9).heap.size w9).alloc (Nat.le_refl _) (.cells #[.int .i64 0, .slice none 0 0, .string ⟨#[]⟩] 38)
            obtain ⟨W10, hWN⟩ : ∃ x, (w9).alloc (.cells #[.int .i64 0, .slice none 0 0, .string ⟨#[]⟩] 38) = x := ⟨_, rfl⟩
            rw [hWN] at b10 u10 au10 ⊢
            clear hWN
            refine hK.out _ _ (HK.out _ b10) (fun hHeld => ?_)
            clear hK K
            try simp only [Act.put, List.getElem_toArray, List.getElem_cons_succ, List.getElem_cons_zero, List.setIfInBounds_toArray, List.set_cons_zero, List.set_cons_succ]
            obtain ⟨z0, z1, z2, zf⟩ := id (u10).reads
            have f0 := zf 0
            have f1' := zf 1
            have f2 := zf 2
            clear zf
            refine wpAnyH_ready (rs := [12]) (by kernel_rfl) (by simp) (AllReadyH.cons (o := _) rfl (fun K hK => ?_) AllReadyH.nil)
            try simp only [Act.put, List.getElem_toArray, List.getElem_cons_succ, List.getElem_cons_zero, List.setIfInBounds_toArray, List.set_cons_zero, List.set_cons_succ]
            go_simp
            have bV := below_store u10 b10 su10 (.int .i64 o.kd) (.slice A8 o.zs.length c8) (.string o.s)
            have uV := blk_store' u10 (.int .i64 o.kd) (.slice A8 o.zs.length c8) (.string o.s)
            have oV := own_store (o9.below au10 (Nat.le_refl _)) u10 (.int .i64 o.kd) (.slice A8 o.zs.length c8) (.string o.s)
            refine hK.out _ _ (HK.out _ bV) (fun hHeld => ?_)
            clear hK K
            try simp only [Act.put, List.getElem_toArray, List.getElem_cons_succ, List.getElem_cons_zero, List.setIfInBounds_toArray, List.set_cons_zero, List.set_cons_succ]
            clear z0 z1 z2 f0 f1' f2
            refine wpAnyH_take (i := 13) (oi := _) (v := ?_) rfl (by kernel_rfl) (by kernel_rfl) (by kernel_rfl) (fun _ _ _ h => h) (Or.inl ⟨by rfl, ?_⟩) hHeld ?_
            rotate_left
            · (intro w' hSw; (try dsimp only at hSw); go_simp <;> with_reducible rfl)
            try simp only [Act.put, List.getElem_toArray, List.getElem_cons_succ, List.getElem_cons_zero, List.setIfInBounds_toArray, List.set_cons_zero, List.set_cons_succ]
            refine wpAnyH_done (by kernel_rfl) ?_ _
            clear hHeld
            obtain ⟨V0, hV0⟩ : ∃ V0, ((W10.setCell ⟨w9.heap.size, 0, none⟩ (.int .i64 o.kd)).setCell ⟨w9.heap.size, 1, none⟩ (.slice A8 o.zs.length c8)).setCell ⟨w9.heap.size, 2, none⟩ (.string o.s) = V0 := ⟨_, rfl⟩
            rw [hV0] at bV uV oV ⊢
            clear hV0
            obtain ⟨bx, hbx⟩ : ∃ b, w9.heap.size = b := ⟨_, rfl⟩
            rw [hbx] at uV ⊢
            clear hbx
            obtain ⟨z0, z1, z2, -⟩ := id uV.reads
            obtain ⟨-, y1, y2, y3⟩ := HK.out _ bV
            have hv := Nat.lt_of_lt_of_le ha bV.size
            have E0 := Later.cell z0 uV.lt
            have E1 := Later.cell z1 uV.lt
            have E2 := Later.cell z2 uV.lt
            have E3 := Later.cell y1 hv
            have E4 := Later.cell y2 hv
            have E5 := Later.cell y3 hv
            have rV := oV.row
            have rG := (gr.below bV (Nat.le_refl _)).more bV.size
            clear z0 z1 z2 y1 y2 y3
            go_wp2_with fail
            refine wp_region_later V0.heap.size (by kernel_rfl) (by kernel_rfl) ?_
            repeat (go_big_quiet_step ((go_at_call 28; exact Later.call (Nat.le_refl _) _ (sameObQ A8 A' c8 c' o _ V0.heap.size (rV.later _) (rG.later _) (Later.size (Nat.le_refl _) _) hlen.1))))
            refine wpQuiet_nil ?_
            intro _ hw'
            obtain ⟨xx, hxx⟩ := hw'
            have hbx := xx.b
            subst hxx
            go_wp2
            go_roundw
            case rel => exact ⟨k + 1, by omega, by go_num, hb.trans ((bV.trans (hbx.mono bV.size)).mono hb.size)⟩
            case measure => simp [intOf]; omega
          · skip
            try simp only [Act.put, List.getElem_toArray, List.getElem_cons_succ, List.getElem_cons_zero, List.setIfInBounds_toArray, List.set_cons_zero, List.set_cons_succ]
            go_simp
            have b10 := (b8).alloc (b8).size (.cells #[.int .i64 0, .slice none 0 0, .string ⟨#[]⟩] 38)
            have u10 := Blk.new_ w8 38 (.int .i64 0) (.slice none 0 0) (.string ⟨#[]⟩)
            have su10 : wr.heap.size ≤ (w8).heap.size := (b8).size
            have au10 := (Below.refl (w8).heap.size w8).alloc (Nat.le_refl _) (.cells #[.int .i64 0, .slice none 0 0, .string ⟨#[]⟩] 38)
            obtain ⟨W10, hWN⟩ : ∃ x, (w8).alloc (.cells #[.int .i64 0, .slice none 0 0, .string ⟨#[]⟩] 38) = x := ⟨_, rfl⟩
            rw [hWN] at b10 u10 au10 ⊢
            clear hWN
            refine hK.out _ _ (HK.out _ b10) (fun hHeld => ?_)
            clear hK K
            try simp only [Act.put, List.getElem_toArray, List.getElem_cons_succ, List.getElem_cons_zero, List.setIfInBounds_toArray, List.set_cons_zero, List.set_cons_succ]
            refine wpAnyH_ready (rs := [7]) (by kernel_rfl) (by simp) (AllReadyH.cons (o := _) rfl (fun K hK => ?_) AllReadyH.nil)
            try simp only [Act.put, List.getElem_toArray, List.getElem_cons_succ, List.getElem_cons_zero, List.setIfInBounds_toArray, List.set_cons_zero, List.set_cons_succ]
            try simp only [Act.put, List.getElem_toArray, List.getElem_cons_succ, List.getElem_cons_zero, List.setIfInBounds_toArray, List.set_cons_zero, List.set_cons_succ]
            go_simp
            go_at_call 26
            refine (CSG.out _ b10).mono ?_
            rintro e w9 ⟨A8, c8, rfl, o9, d9⟩
            have b9 := (b10).trans (d9.mono (b10).size)
            refine hK.out _ _ (HK.out _ b9) (fun hHeld => ?_)
            clear hK K
            try simp only [Act.put, List.getElem_toArray, List.getElem_cons_succ, List.getElem_cons_zero, List.setIfInBounds_toArray, List.set_cons_zero, List.set_cons_succ]
            have u11 := u10.below d9 u10.lt
            have su11 := su10
            refine wpAnyH_take (i := 8) (oi := _) (v := ?_) rfl (by kernel_rfl) (by kernel_rfl) (by kernel_rfl) (fun _ _ _ h => h) (Or.inl ⟨by rfl, ?_⟩) hHeld ?_
            rotate_left
            · (intro w' hSw; (try dsimp only at hSw); go_simp <;> with_reducible rfl)
            try simp only [Act.put, List.getElem_toArray, List.getElem_cons_succ, List.getElem_cons_zero, List.setIfInBounds_toArray, List.set_cons_zero, List.set_cons_succ]
            refine wpAnyH_take (i := 9) (oi := _) (v := ?_) rfl (by kernel_rfl) (by kernel_rfl) (by kernel_rfl) (fun _ _ _ h => h) (Or.inl ⟨by rfl, ?_⟩) hHeld ?_
            rotate_left
            · (intro w' hSw; (try dsimp only at hSw); go_simp <;> with_reducible rfl)
            try simp only [Act.put, List.getElem_toArray, List.getElem_cons_succ, List.getElem_cons_zero, List.setIfInBounds_toArray, List.set_cons_zero, List.set_cons_succ]
            refine wpAnyH_take (i := 10) (oi := _) (v := ?_) rfl (by kernel_rfl) (by kernel_rfl) (by kernel_rfl) (fun _ _ _ h => h) (Or.inl ⟨by rfl, ?_⟩) hHeld ?_
            rotate_left
            · (intro w' hSw; (try dsimp only at hSw); go_simp <;> with_reducible rfl)
            try simp only [Act.put, List.getElem_toArray, List.getElem_cons_succ, List.getElem_cons_zero, List.setIfInBounds_toArray, List.set_cons_zero, List.set_cons_succ]
            obtain ⟨z0, z1, z2, zf⟩ := id (u11).reads
            have f0 := zf 0
            have f1' := zf 1
            have f2 := zf 2
            clear zf
            refine wpAnyH_ready (rs := [12]) (by kernel_rfl) (by simp) (AllReadyH.cons (o := _) rfl (fun K hK => ?_) AllReadyH.nil)
            try simp only [Act.put, List.getElem_toArray, List.getElem_cons_succ, List.getElem_cons_zero, List.setIfInBounds_toArray, List.set_cons_zero, List.set_cons_succ]
            go_simp
            have bV := below_store u11 b9 su11 (.int .i64 o.kd) (.slice A8 o.zs.length c8) (.string o.s)
            have uV := blk_store' u11 (.int .i64 o.kd) (.slice A8 o.zs.length c8) (.string o.s)
            have oV := own_store o9 u11 (.int .i64 o.kd) (.slice A8 o.zs.length c8) (.string o.s)
            refine hK.out _ _ (HK.out _ bV) (fun hHeld => ?_)
            clear hK K
            try simp only [Act.put, List.getElem_toArray, List.getElem_cons_succ, List.getElem_cons_zero, List.setIfInBounds_toArray, List.set_cons_zero, List.set_cons_succ]
            clear z0 z1 z2 f0 f1' f2
            refine wpAnyH_take (i := 13) (oi := _) (v := ?_) rfl (by kernel_rfl) (by kernel_rfl) (by kernel_rfl) (fun _ _ _ h => h) (Or.inl ⟨by rfl, ?_⟩) hHeld ?_
            rotate_left
            · (intro w' hSw; (try dsimp only at hSw); go_simp <;> with_reducible rfl)
            try simp only [Act.put, List.getElem_toArray, List.getElem_cons_succ, List.getElem_cons_zero, List.setIfInBounds_toArray, List.set_cons_zero, List.set_cons_succ]
            refine wpAnyH_done (by kernel_rfl) ?_ _
            clear hHeld
            obtain ⟨V0, hV0⟩ : ∃ V0, ((w9.setCell ⟨w8.heap.size, 0, none⟩ (.int .i64 o.kd)).setCell ⟨w8.heap.size, 1, none⟩ (.slice A8 o.zs.length c8)).setCell ⟨w8.heap.size, 2, none⟩ (.string o.s) = V0 := ⟨_, rfl⟩
            rw [hV0] at bV uV oV ⊢
            clear hV0
            obtain ⟨bx, hbx⟩ : ∃ b, w8.heap.size = b := ⟨_, rfl⟩
            rw [hbx] at uV ⊢
            clear hbx
            obtain ⟨z0, z1, z2, -⟩ := id uV.reads
            obtain ⟨-, y1, y2, y3⟩ := HK.out _ bV
            have hv := Nat.lt_of_lt_of_le ha bV.size
            have E0 := Later.cell z0 uV.lt
            have E1 := Later.cell z1 uV.lt
            have E2 := Later.cell z2 uV.lt
            have E3 := Later.cell y1 hv
            have E4 := Later.cell y2 hv
            have E5 := Later.cell y3 hv
            have rV := oV.row
            have rG := (gr.below bV (Nat.le_refl _)).more bV.size
            clear z0 z1 z2 y1 y2 y3
            go_wp2_with fail
            refine wp_region_later V0.heap.size (by kernel_rfl) (by kernel_rfl) ?_
            repeat (go_big_quiet_step ((go_at_call 28; exact Later.call (Nat.le_refl _) _ (sameObQ A8 A' c8 c' o _ V0.heap.size (rV.later _) (rG.later _) (Later.size (Nat.le_refl _) _) hlen.1))))
            refine wpQuiet_nil ?_
            intro _ hw'
            obtain ⟨xx, hxx⟩ := hw'
            have hbx := xx.b
            subst hxx
            go_wp2
            go_roundw
            case rel => exact ⟨k + 1, by omega, by go_num, hb.trans ((bV.trans (hbx.mono bV.size)).mono hb.size)⟩
            case measure => simp [intOf]; omega
        · skip
          try simp only [Act.put, List.getElem_toArray, List.getElem_cons_succ, List.getElem_cons_zero, List.setIfInBounds_toArray, List.set_cons_zero, List.set_cons_succ]
          go_simp
          have b10 := (((Below.refl wr.heap.size wr)).alloc ((Below.refl wr.heap.size wr)).size (.cells #[.int .i64 0, .slice none 0 0, .string ⟨#[]⟩] 38)).drew
          have u10 : Blk ((wr).alloc (.cells #[.int .i64 0, .slice none 0 0, .string ⟨#[]⟩] 38)).drew (wr).heap.size 38 (.int .i64 0) (.slice none 0 0) (.string ⟨#[]⟩) := Blk.new_ wr 38 (.int .i64 0) (.slice none 0 0) (.string ⟨#[]⟩)
          have su10 : wr.heap.size ≤ (wr).heap.size := ((Below.refl wr.heap.size wr)).size
          obtain ⟨W10, hWN⟩ : ∃ x, ((wr).alloc (.cells #[.int .i64 0, .slice none 0 0, .string ⟨#[]⟩] 38)).drew = x := ⟨_, rfl⟩
          rw [hWN] at b10 u10 ⊢
          clear hWN
          refine hK.out _ _ (HK.out _ b10) (fun hHeld => ?_)
          clear hK K
          try simp only [Act.put, List.getElem_toArray, List.getElem_cons_succ, List.getElem_cons_zero, List.setIfInBounds_toArray, List.set_cons_zero, List.set_cons_succ]
          refine wpAnyH_ready (rs := [6]) (by kernel_rfl) (by simp) (AllReadyH.cons (o := _) rfl (fun K hK => ?_) AllReadyH.nil)
          try simp only [Act.put, List.getElem_toArray, List.getElem_cons_succ, List.getElem_cons_zero, List.setIfInBounds_toArray, List.set_cons_zero, List.set_cons_succ]
          try simp only [Act.put, List.getElem_toArray, List.getElem_cons_succ, List.getElem_cons_zero, List.setIfInBounds_toArray, List.set_cons_zero, List.set_cons_succ]
          go_simp
          go_at_call 27
          refine (CID.out _ b10).mono ?_
          rintro e w8 ⟨rfl, d8⟩
          have b8 := (b10).trans (d8.mono (b10).size)
          refine hK.out _ _ (HK.out _ b8) (fun hHeld => ?_)
          clear hK K
          try simp only [Act.put, List.getElem_toArray, List.getElem_cons_succ, List.getElem_cons_zero, List.setIfInBounds_toArray, List.set_cons_zero, List.set_cons_succ]
          have u11 := u10.below d8 u10.lt
          have su11 := su10
          refine wpAnyH_ready (rs := [7]) (by kernel_rfl) (by simp) (AllReadyH.cons (o := _) rfl (fun K hK => ?_) AllReadyH.nil)
          try simp only [Act.put, List.getElem_toArray, List.getElem_cons_succ, List.getElem_cons_zero, List.setIfInBounds_toArray, List.set_cons_zero, List.set_cons_succ]
          try simp only [Act.put, List.getElem_toArray, List.getElem_cons_succ, List.getElem_cons_zero, List.setIfInBounds_toArray, List.set_cons_zero, List.set_cons_succ]
          go_simp
          go_at_call 26
          refine (CSG.out _ b8).mono ?_
          rintro e w9 ⟨A8, c8, rfl, o9, d9⟩
          have b9 := (b8).trans (d9.mono (b8).size)
          refine hK.out _ _ (HK.out _ b9) (fun hHeld => ?_)
          clear hK K
          try simp only [Act.put, List.getElem_toArray, List.getElem_cons_succ, List.getElem_cons_zero, List.setIfInBounds_toArray, List.set_cons_zero, List.set_cons_succ]
          have u12 := u11.below d9 u11.lt
          have su12 := su10
          refine wpAnyH_take (i := 8) (oi := _) (v := ?_) rfl (by kernel_rfl) (by kernel_rfl) (by kernel_rfl) (fun _ _ _ h => h) (Or.inl ⟨by rfl, ?_⟩) hHeld ?_
          rotate_left
          · (intro w' hSw; (try dsimp only at hSw); go_simp <;> with_reducible rfl)
          try simp only [Act.put, List.getElem_toArray, List.getElem_cons_succ, List.getElem_cons_zero, List.setIfInBounds_toArray, List.set_cons_zero, List.set_cons_succ]
          refine wpAnyH_take (i := 9) (oi := _) (v := ?_) rfl (by kernel_rfl) (by kernel_rfl) (by kernel_rfl) (fun _ _ _ h => h) (Or.inl ⟨by rfl, ?_⟩) hHeld ?_
          rotate_left
          · (intro w' hSw; (try dsimp only at hSw); go_simp <;> with_reducible rfl)
          try simp only [Act.put, List.getElem_toArray, List.getElem_cons_succ, List.getElem_cons_zero, List.setIfInBounds_toArray, List.set_cons_zero, List.set_cons_succ]
          refine wpAnyH_take (i := 10) (oi := _) (v := ?_) rfl (by kernel_rfl) (by kernel_rfl) (by kernel_rfl) (fun _ _ _ h => h) (Or.inl ⟨by rfl, ?_⟩) hHeld ?_
          rotate_left
          · (intro w' hSw; (try dsimp only at hSw); go_simp <;> with_reducible rfl)
          try simp only [Act.put, List.getElem_toArray, List.getElem_cons_succ, List.getElem_cons_zero, List.setIfInBounds_toArray, List.set_cons_zero, List.set_cons_succ]
          obtain ⟨z0, z1, z2, zf⟩ := id (u12).reads
          have f0 := zf 0
          have f1' := zf 1
          have f2 := zf 2
          clear zf
          refine wpAnyH_ready (rs := [12]) (by kernel_rfl) (by simp) (AllReadyH.cons (o := _) rfl (fun K hK => ?_) AllReadyH.nil)
          try simp only [Act.put, List.getElem_toArray, List.getElem_cons_succ, List.getElem_cons_zero, List.setIfInBounds_toArray, List.set_cons_zero, List.set_cons_succ]
          go_simp
          have bV := below_store u12 b9 su12 (.int .i64 o.kd) (.slice A8 o.zs.length c8) (.string o.s)
          have uV := blk_store' u12 (.int .i64 o.kd) (.slice A8 o.zs.length c8) (.string o.s)
          have oV := own_store o9 u12 (.int .i64 o.kd) (.slice A8 o.zs.length c8) (.string o.s)
          refine hK.out _ _ (HK.out _ bV) (fun hHeld => ?_)
          clear hK K
          try simp only [Act.put, List.getElem_toArray, List.getElem_cons_succ, List.getElem_cons_zero, List.setIfInBounds_toArray, List.set_cons_zero, List.set_cons_succ]
          clear z0 z1 z2 f0 f1' f2
          refine wpAnyH_take (i := 13) (oi := _) (v := ?_) rfl (by kernel_rfl) (by kernel_rfl) (by kernel_rfl) (fun _ _ _ h => h) (Or.inl ⟨by rfl, ?_⟩) hHeld ?_
          rotate_left
          · (intro w' hSw; (try dsimp only at hSw); go_simp <;> with_reducible rfl)
          try simp only [Act.put, List.getElem_toArray, List.getElem_cons_succ, List.getElem_cons_zero, List.setIfInBounds_toArray, List.set_cons_zero, List.set_cons_succ]
          refine wpAnyH_done (by kernel_rfl) ?_ _
          clear hHeld
          obtain ⟨V0, hV0⟩ : ∃ V0, ((w9.setCell ⟨wr.heap.size, 0, none⟩ (.int .i64 o.kd)).setCell ⟨wr.heap.size, 1, none⟩ (.slice A8 o.zs.length c8)).setCell ⟨wr.heap.size, 2, none⟩ (.string o.s) = V0 := ⟨_, rfl⟩
          rw [hV0] at bV uV oV ⊢
          clear hV0
          obtain ⟨bx, hbx⟩ : ∃ b, wr.heap.size = b := ⟨_, rfl⟩
          rw [hbx] at uV ⊢
          clear hbx
          obtain ⟨z0, z1, z2, -⟩ := id uV.reads
          obtain ⟨-, y1, y2, y3⟩ := HK.out _ bV
          have hv := Nat.lt_of_lt_of_le ha bV.size
          have E0 := Later.cell z0 uV.lt
          have E1 := Later.cell z1 uV.lt
          have E2 := Later.cell z2 uV.lt
          have E3 := Later.cell y1 hv
          have E4 := Later.cell y2 hv
          have E5 := Later.cell y3 hv
          have rV := oV.row
          have rG := (gr.below bV (Nat.le_refl _)).more bV.size
          clear z0 z1 z2 y1 y2 y3
          go_wp2_with fail
          refine wp_region_later V0.heap.size (by kernel_rfl) (by kernel_rfl) ?_
          repeat (go_big_quiet_step ((go_at_call 28; exact Later.call (Nat.le_refl _) _ (sameObQ A8 A' c8 c' o _ V0.heap.size (rV.later _) (rG.later _) (Later.size (Nat.le_refl _) _) hlen.1))))
          refine wpQuiet_nil ?_
          intro _ hw'
          obtain ⟨xx, hxx⟩ := hw'
          have hbx := xx.b
          subst hxx
          go_wp2
          go_roundw
          case rel => exact ⟨k + 1, by omega, by go_num, hb.trans ((bV.trans (hbx.mono bV.size)).mono hb.size)⟩
          case measure => simp [intOf]; omega
      · have hk' : k = ar.length := by omega
        subst hk'
        clear hk hlt hb obA
        go_wp2_with fail
        go_loopw [13] (fun i wq => ∃ k : Nat, k ≤ q.m.length ∧ i = .int .i64 k ∧ Below wr.heap.size wr wq) (fun i _ => q.m.length - (intOf i).toNat)
        case atStart => exact ⟨0, Nat.zero_le _, rfl, Below.refl _ _⟩
        case round =>
          obtain ⟨k, hk, rfl, hb⟩ := hrel
          replace x2 := x2.later hb
          replace q2 := q2.on hb (hb).size
          replace x1 := x1.later hb
          have zz := (hb).size
          try (replace ob := objs_on ob hb)
          replace q1 := q1.on hb zz
          replace bw := bw.trans ((hb).mono bw.size)
          clear zz
          by_cases hlt : k < q.m.length
          · have obA := q1.main
            obtain ⟨o, ad, A', c', hoe, hA, ha, g0, gc1, gc2, gr⟩ := obA.obj hlt
            subst hA
            have hom : o ∈ q.m := by rw [← hoe]; exact List.getElem_mem hlt
            have hlen := store_len HSm.out hom
            obtain ⟨x, hx⟩ : ∃ x, iOb o = x := ⟨_, rfl⟩
            have k0 : 0 ≤ (k : Int) := by omega
            have k1 : (k : Int) < (q.m.length : Int) := by omega
            have CID : Hid (∀ y, Below wr.heap.size wr y → Calls Try.prog 27 #[.agg #[.int .i64 o.kd, .slice A' o.zs.length c', .string o.s]] y (Ret (.int .i64 x) y)) := fun y hy => objectId_q x _ A' c' o y ((gr.below hy (Nat.le_refl _)).more hy.size) (Nat.le_refl _) hlen.1 hlen.2 hx
            have CSG : Hid (∀ y, Below wr.heap.size wr y → Calls Try.prog 26 #[.slice A5 q0.m.length c5, .int .i64 x] y (GotO o y)) := fun y hy => by
              rw [← hx]
              exact get_there A5 c5 q0.m o y (objs_on q2.main hy) HU.out.1 ((HU.out.2 o).2 (.inl hom))
            have HK : Hid (∀ y, Below wr.heap.size wr y → y.cell? ⟨g2, 0, none⟩ = some (.slice A5 q0.m.length c5) ∧ y.cell? ⟨g1, 0, none⟩ = some (.slice (some ad) q.m.length c3) ∧ y.cell? (ad.add (k * 3)) = some (.int .i64 o.kd) ∧ y.cell? ⟨(ad.add (k * 3)).block, (ad.add (k * 3)).off + 1, none⟩ = some (.slice A' o.zs.length c') ∧ y.cell? ⟨(ad.add (k * 3)).block, (ad.add (k * 3)).off + 2, none⟩ = some (.string o.s)) := fun y hy => ⟨(x2.later hy).reads.1, (x1.later hy).reads.1, (hy.cell ha).trans g0, (hy.cell (p := ⟨(ad.add (k * 3)).block, (ad.add (k * 3)).off + 1, none⟩) ha).trans gc1, (hy.cell (p := ⟨(ad.add (k * 3)).block, (ad.add (k * 3)).off + 2, none⟩) ha).trans gc2⟩
            have b0 := (Below.refl wr.heap.size wr).drew
            clear hx hoe g0 gc1 gc2
            obtain ⟨y10, y11, -⟩ := id x1.reads
            go_wp2_with fail
            clear y10 y11
            refine wp_region_held_drew (S := fun y => y.cell? ⟨g2, 0, none⟩ = some (.slice A5 q0.m.length c5) ∧ y.cell? ⟨g1, 0, none⟩ = some (.slice (some ad) q.m.length c3) ∧ y.cell? (ad.add (k * 3)) = some (.int .i64 o.kd) ∧ y.cell? ⟨(ad.add (k * 3)).block, (ad.add (k * 3)).off + 1, none⟩ = some (.slice A' o.zs.length c') ∧ y.cell? ⟨(ad.add (k * 3)).block, (ad.add (k * 3)).off + 2, none⟩ = some (.string o.s)) (by kernel_rfl) (HK.out _ b0) (fun hHeld => ?_)
            refine wpAnyH_take (i := 0) (oi := _) (v := ?_) rfl (by kernel_rfl) (by kernel_rfl) (by kernel_rfl) (fun _ _ _ h => h) (Or.inl ⟨by rfl, ?_⟩) hHeld ?_
            rotate_left
            · (intro w' hSw; (try dsimp only at hSw); go_simp <;> with_reducible rfl)
            try simp only [Act.put, List.getElem_toArray, List.getElem_cons_succ, List.getElem_cons_zero, List.setIfInBounds_toArray, List.set_cons_zero, List.set_cons_succ]
            refine wpAnyH_take (i := 1) (oi := _) (v := ?_) rfl (by kernel_rfl) (by kernel_rfl) (by kernel_rfl) (fun _ _ _ h => h) (Or.inl ⟨by rfl, ?_⟩) hHeld ?_
            rotate_left
            · (intro w' hSw; (try dsimp only at hSw); go_simp <;> with_reducible rfl)
            try simp only [Act.put, List.getElem_toArray, List.getElem_cons_succ, List.getElem_cons_zero, List.setIfInBounds_toArray, List.set_cons_zero, List.set_cons_succ]
            refine wpAnyH_take (i := 2) (oi := _) (v := ?_) rfl (by kernel_rfl) (by kernel_rfl) (by kernel_rfl) (fun _ _ _ h => h) (Or.inl ⟨by rfl, ?_⟩) hHeld ?_
            rotate_left
            · (intro w' hSw; (try dsimp only at hSw); go_simp <;> with_reducible rfl)
            try simp only [Act.put, List.getElem_toArray, List.getElem_cons_succ, List.getElem_cons_zero, List.setIfInBounds_toArray, List.set_cons_zero, List.set_cons_succ]
            refine wpAnyH_take (i := 3) (oi := _) (v := ?_) rfl (by kernel_rfl) (by kernel_rfl) (by kernel_rfl) (fun _ _ _ h => h) (Or.inl ⟨by rfl, ?_⟩) hHeld ?_
            rotate_left
            · (intro w' hSw; (try dsimp only at hSw); go_simp <;> with_reducible rfl)
            try simp only [Act.put, List.getElem_toArray, List.getElem_cons_succ, List.getElem_cons_zero, List.setIfInBounds_toArray, List.set_cons_zero, List.set_cons_succ]
            refine wpAnyH_take (i := 4) (oi := _) (v := ?_) rfl (by kernel_rfl) (by kernel_rfl) (by kernel_rfl) (fun _ _ _ h => h) (Or.inl ⟨by rfl, ?_⟩) hHeld ?_
            rotate_left
            · (intro w' hSw; (try dsimp only at hSw); go_simp <;> with_reducible rfl)
            try simp only [Act.put, List.getElem_toArray, List.getElem_cons_succ, List.getElem_cons_zero, List.setIfInBounds_toArray, List.set_cons_zero, List.set_cons_succ]
            refine wpAnyH_take (i := 5) (oi := _) (v := ?_) rfl (by kernel_rfl) (by kernel_rfl) (by kernel_rfl) (fun _ _ _ h => h) (Or.inl ⟨by rfl, ?_⟩) hHeld ?_
            rotate_left
            · (intro w' hSw; (try dsimp only at hSw); go_simp <;> with_reducible rfl)
            try simp only [Act.put, List.getElem_toArray, List.getElem_cons_succ, List.getElem_cons_zero, List.setIfInBounds_toArray, List.set_cons_zero, List.set_cons_succ]
            refine wpAnyH_take (i := 6) (oi := _) (v := ?_) rfl (by kernel_rfl) (by kernel_rfl) (by kernel_rfl) (fun _ _ _ h => h) (Or.inl ⟨by rfl, ?_⟩) hHeld ?_
            rotate_left
            · (intro w' hSw; (try dsimp only at hSw); go_simp <;> with_reducible rfl)
            try simp only [Act.put, List.getElem_toArray, List.getElem_cons_succ, List.getElem_cons_zero, List.setIfInBounds_toArray, List.set_cons_zero, List.set_cons_succ]
            refine wpAnyH_ready (rs := [7, 12]) (by kernel_rfl) (by simp) (AllReadyH.cons (o := _) rfl (fun K hK => ?_) (AllReadyH.cons (o := _) rfl (fun K hK => ?_) AllReadyH.nil))
            · skip
              try simp only [Act.put, List.getElem_toArray, List.getElem_cons_succ, List.getElem_cons_zero, List.setIfInBounds_toArray, List.set_cons_zero, List.set_cons_succ]
              go_simp
              go_at_call 27
              refine (CID.out _ b0).mono ?_
              rintro e w8 ⟨rfl, d8⟩
              have b8 := (b0).trans (d8.mono (b0).size)
              refine hK.out _ _ (HK.out _ b8) (fun hHeld => ?_)
              clear hK K
              try simp only [Act.put, List.getElem_toArray, List.getElem_cons_succ, List.getElem_cons_zero, List.setIfInBounds_toArray, List.set_cons_zero, List.set_cons_succ]
              refine wpAnyH_ready (rs := [8, 12]) (by kernel_rfl) (by simp) (AllReadyH.cons (o := _) rfl (fun K hK => ?_) (AllReadyH.cons (o := _) rfl (fun K hK => ?_) AllReadyH.nil))
              · skip
                try simp only [Act.put, List.getElem_toArray, List.getElem_cons_succ, List.getElem_cons_zero, List.setIfInBounds_toArray, List.set_cons_zero, List.set_cons_succ]
                go_simp
                go_at_call 26
                refine (CSG.out _ b8).mono ?_
                rintro e w9 ⟨A8, c8, rfl, o9, d9⟩
                have b9 := (b8).trans (d9.mono (b8).size)
                refine hK.out _ _ (HK.out _ b9) (fun hHeld => ?_)
                clear hK K
                try simp only [Act.put, List.getElem_toArray, List.getElem_cons_succ, List.getElem_cons_zero, List.setIfInBounds_toArray, List.set_cons_zero, List.set_cons_succ]
                refine wpAnyH_take (i := 9) (oi := _) (v := ?_) rfl (by kernel_rfl) (by kernel_rfl) (by kernel_rfl) (fun _ _ _ h => h) (Or.inl ⟨by rfl, ?_⟩) hHeld ?_
                rotate_left
                · (intro w' hSw; (try dsimp only at hSw); go_simp <;> with_reducible rfl)
                try simp only [Act.put, List.getElem_toArray, List.getElem_cons_succ, List.getElem_cons_zero, List.setIfInBounds_toArray, List.set_cons_zero, List.set_cons_succ]
                refine wpAnyH_take (i := 10) (oi := _) (v := ?_) rfl (by kernel_rfl) (by kernel_rfl) (by kernel_rfl) (fun _ _ _ h => h) (Or.inl ⟨by rfl, ?_⟩) hHeld ?_
                rotate_left
                · (intro w' hSw; (try dsimp only at hSw); go_simp <;> with_reducible rfl)
                try simp only [Act.put, List.getElem_toArray, List.getElem_cons_succ, List.getElem_cons_zero, List.setIfInBounds_toArray, List.set_cons_zero, List.set_cons_succ]
                refine wpAnyH_take (i := 11) (oi := _) (v := ?_) rfl (by kernel_rfl) (by kernel_rfl) (by kernel_rfl) (fun _ _ _ h => h) (Or.inl ⟨by rfl, ?_⟩) hHeld ?_
                rotate_left
                · (intro w' hSw; (try dsimp only at hSw); go_simp <;> with_reducible rfl)
                try simp only [Act.put, List.getElem_toArray, List.getElem_cons_succ, List.getElem_cons_zero, List.setIfInBounds_toArray, List.set_cons_zero, List.set_cons_succ]
                refine wpAnyH_ready (rs := [12]) (by kernel_rfl) (by simp) (AllReadyH.cons (o := _) rfl (fun K hK => ?_) AllReadyH.nil)
                try simp only [Act.put, List.getElem_toArray, List.getElem_cons_succ, List.getElem_cons_zero, List.setIfInBounds_toArray, List.set_cons_zero, List.set_cons_succ]
                try simp only [Act.put, List.getElem_toArray, List.getElem_cons_succ, List.getElem_cons_zero, List.setIfInBounds_toArray, List.set_cons_zero, List.set_cons_succ]
                go_simp
                have b10 := (b9).alloc (b9).size (.cells #[.int .i64 0, .slice none 0 0, .string ⟨#[]⟩] 38)
                have u10 := Blk.new_ w9 38 (.int .i64 0) (.slice none 0 0) (.string ⟨#[]⟩)
                have su10 : wr.heap.size ≤ (w9).heap.size := (b9).size
                have au10 := (Below.refl (w9).heap.size w9).alloc (Nat.le_refl _) (.cells #[.int .i64 0, .slice none 0 0, .string ⟨#[]⟩] 38)
                obtain ⟨W10, hWN⟩ : ∃ x, (w9).alloc (.cells #[.int .i64 0, .slice none 0 0, .string ⟨#[]⟩] 38) = x := ⟨_, rfl⟩
                rw [hWN] at b10 u10 au10 ⊢
                clear hWN
                refine hK.out _ _ (HK.out _ b10) (fun hHeld => ?_)
                clear hK K
                try simp only [Act.put, List.getElem_toArray, List.getElem_cons_succ, List.getElem_cons_zero, List.setIfInBounds_toArray, List.set_cons_zero, List.set_cons_succ]
                obtain ⟨z0, z1, z2, zf⟩ := id (u10).reads
                have f0 := zf 0
                have f1' := zf 1
                have f2 := zf 2
                clear zf
                refine wpAnyH_ready (rs := [13]) (by kernel_rfl) (by simp) (AllReadyH.cons (o := _) rfl (fun K hK => ?_) AllReadyH.nil)
                try simp only [Act.put, List.getElem_toArray, List.getElem_cons_succ, List.getElem_cons_zero, List.setIfInBounds_toArray, List.set_cons_zero, List.set_cons_succ]
                go_simp
                have bV := below_store u10 b10 su10 (.int .i64 o.kd) (.slice A8 o.zs.length c8) (.string o.s)
                have uV := blk_store' u10 (.int .i64 o.kd) (.slice A8 o.zs.length c8) (.string o.s)
                have oV := own_store (o9.below au10 (Nat.le_refl _)) u10 (.int .i64 o.kd) (.slice A8 o.zs.length c8) (.string o.s)
                refine hK.out _ _ (HK.out _ bV) (fun hHeld => ?_)
                clear hK K
                try simp only [Act.put, List.getElem_toArray, List.getElem_cons_succ, List.getElem_cons_zero, List.setIfInBounds_toArray, List.set_cons_zero, List.set_cons_succ]
                clear z0 z1 z2 f0 f1' f2
                refine wpAnyH_take (i := 14) (oi := _) (v := ?_) rfl (by kernel_rfl) (by kernel_rfl) (by kernel_rfl) (fun _ _ _ h => h) (Or.inl ⟨by rfl, ?_⟩) hHeld ?_
                rotate_left
                · (intro w' hSw; (try dsimp only at hSw); go_simp <;> with_reducible rfl)
                try simp only [Act.put, List.getElem_toArray, List.getElem_cons_succ, List.getElem_cons_zero, List.setIfInBounds_toArray, List.set_cons_zero, List.set_cons_succ]
                refine wpAnyH_done (by kernel_rfl) ?_ _
                clear hHeld
                obtain ⟨V0, hV0⟩ : ∃ V0, ((W10.setCell ⟨w9.heap.size, 0, none⟩ (.int .i64 o.kd)).setCell ⟨w9.heap.size, 1, none⟩ (.slice A8 o.zs.length c8)).setCell ⟨w9.heap.size, 2, none⟩ (.string o.s) = V0 := ⟨_, rfl⟩
                rw [hV0] at bV uV oV ⊢
                clear hV0
                go_wp2
                go_roundw
                case rel => exact ⟨k + 1, by omega, by go_num, hb.trans (bV.mono hb.size)⟩
                case measure => simp [intOf]; omega
              · skip
                try simp only [Act.put, List.getElem_toArray, List.getElem_cons_succ, List.getElem_cons_zero, List.setIfInBounds_toArray, List.set_cons_zero, List.set_cons_succ]
                go_simp
                have b10 := (b8).alloc (b8).size (.cells #[.int .i64 0, .slice none 0 0, .string ⟨#[]⟩] 38)
                have u10 := Blk.new_ w8 38 (.int .i64 0) (.slice none 0 0) (.string ⟨#[]⟩)
                have su10 : wr.heap.size ≤ (w8).heap.size := (b8).size
                have au10 := (Below.refl (w8).heap.size w8).alloc (Nat.le_refl _) (.cells #[.int .i64 0, .slice none 0 0, .string ⟨#[]⟩] 38)
                obtain ⟨W10, hWN⟩ : ∃ x, (w8).alloc (.cells #[.int .i64 0, .slice none 0 0, .string ⟨#[]⟩] 38) = x := ⟨_, rfl⟩
                rw [hWN] at b10 u10 au10 ⊢
                clear hWN
                refine hK.out _ _ (HK.out _ b10) (fun hHeld => ?_)
                clear hK K
                try simp only [Act.put, List.getElem_toArray, List.getElem_cons_succ, List.getElem_cons_zero, List.setIfInBounds_toArray, List.set_cons_zero, List.set_cons_succ]
                refine wpAnyH_ready (rs := [8]) (by kernel_rfl) (by simp) (AllReadyH.cons (o := _) rfl (fun K hK => ?_) AllReadyH.nil)
                try simp only [Act.put, List.getElem_toArray, List.getElem_cons_succ, List.getElem_cons_zero, List.setIfInBounds_toArray, List.set_cons_zero, List.set_cons_succ]
                try simp only [Act.put, List.getElem_toArray, List.getElem_cons_succ, List.getElem_cons_zero, List.setIfInBounds_toArray, List.set_cons_zero, List.set_cons_succ]
                go_simp
                go_at_call 26
                refine (CSG.out _ b10).mono ?_
                rintro e w9 ⟨A8, c8, rfl, o9, d9⟩
                have b9 := (b10).trans (d9.mono (b10).size)
                refine hK.out _ _ (HK.out _ b9) (fun hHeld => ?_)
                clear hK K
                try simp only [Act.put, List.getElem_toArray, List.getElem_cons_succ, List.getElem_cons_zero, List.setIfInBounds_toArray, List.set_cons_zero, List.set_cons_succ]
                have u11 := u10.below d9 u10.lt
                have su11 := su10
                refine wpAnyH_take (i := 9) (oi := _) (v := ?_) rfl (by kernel_rfl) (by kernel_rfl) (by kernel_rfl) (fun _ _ _ h => h) (Or.inl ⟨by rfl, ?_⟩) hHeld ?_
                rotate_left
                · (intro w' hSw; (try dsimp only at hSw); go_simp <;> with_reducible rfl)
                try simp only [Act.put, List.getElem_toArray, List.getElem_cons_succ, List.getElem_cons_zero, List.setIfInBounds_toArray, List.set_cons_zero, List.set_cons_succ]
                refine wpAnyH_take (i := 10) (oi := _) (v := ?_) rfl (by kernel_rfl) (by kernel_rfl) (by kernel_rfl) (fun _ _ _ h => h) (Or.inl ⟨by rfl, ?_⟩) hHeld ?_
                rotate_left
                · (intro w' hSw; (try dsimp only at hSw); go_simp <;> with_reducible rfl)
                try simp only [Act.put, List.getElem_toArray, List.getElem_cons_succ, List.getElem_cons_zero, List.setIfInBounds_toArray, List.set_cons_zero, List.set_cons_succ]
                refine wpAnyH_take (i := 11) (oi := _) (v := ?_) rfl (by kernel_rfl) (by kernel_rfl) (by kernel_rfl) (fun _ _ _ h => h) (Or.inl ⟨by rfl, ?_⟩) hHeld ?_
                rotate_left
                · (intro w' hSw; (try dsimp only at hSw); go_simp <;> with_reducible rfl)
                try simp only [Act.put, List.getElem_toArray, List.getElem_cons_succ, List.getElem_cons_zero, List.setIfInBounds_toArray, List.set_cons_zero, List.set_cons_succ]
                obtain ⟨z0, z1, z2, zf⟩ := id (u11).reads
                have f0 := zf 0
                have f1' := zf 1
                have f2 := zf 2
                clear zf
                refine wpAnyH_ready (rs := [13]) (by kernel_rfl) (by simp) (AllReadyH.cons (o := _) rfl (fun K hK => ?_) AllReadyH.nil)
                try simp only [Act.put, List.getElem_toArray, List.getElem_cons_succ, List.getElem_cons_zero, List.setIfInBounds_toArray, List.set_cons_zero, List.set_cons_succ]
                go_simp
                have bV := below_store u11 b9 su11 (.int .i64 o.kd) (.slice A8 o.zs.length c8) (.string o.s)
                have uV := blk_store' u11 (.int .i64 o.kd) (.slice A8 o.zs.length c8) (.string o.s)
                have oV := own_store o9 u11 (.int .i64 o.kd) (.slice A8 o.zs.length c8) (.string o.s)
                refine hK.out _ _ (HK.out _ bV) (fun hHeld => ?_)
                clear hK K
                try simp only [Act.put, List.getElem_toArray, List.getElem_cons_succ, List.getElem_cons_zero, List.setIfInBounds_toArray, List.set_cons_zero, List.set_cons_succ]
                clear z0 z1 z2 f0 f1' f2
                refine wpAnyH_take (i := 14) (oi := _) (v := ?_) rfl (by kernel_rfl) (by kernel_rfl) (by kernel_rfl) (fun _ _ _ h => h) (Or.inl ⟨by rfl, ?_⟩) hHeld ?_
                rotate_left
                · (intro w' hSw; (try dsimp only at hSw); go_simp <;> with_reducible rfl)
                try simp only [Act.put, List.getElem_toArray, List.getElem_cons_succ, List.getElem_cons_zero, List.setIfInBounds_toArray, List.set_cons_zero, List.set_cons_succ]
                refine wpAnyH_done (by kernel_rfl) ?_ _
                clear hHeld
                obtain ⟨V0, hV0⟩ : ∃ V0, ((w9.setCell ⟨w8.heap.size, 0, none⟩ (.int .i64 o.kd)).setCell ⟨w8.heap.size, 1, none⟩ (.slice A8 o.zs.length c8)).setCell ⟨w8.heap.size, 2, none⟩ (.string o.s) = V0 := ⟨_, rfl⟩
                rw [hV0] at bV uV oV ⊢
                clear hV0
                go_wp2
                go_roundw
                case rel => exact ⟨k + 1, by omega, by go_num, hb.trans (bV.mono hb.size)⟩
                case measure => simp [intOf]; omega
            · skip
              try simp only [Act.put, List.getElem_toArray, List.getElem_cons_succ, List.getElem_cons_zero, List.setIfInBounds_toArray, List.set_cons_zero, List.set_cons_succ]
              go_simp
              have b10 := (((Below.refl wr.heap.size wr)).alloc ((Below.refl wr.heap.size wr)).size (.cells #[.int .i64 0, .slice none 0 0, .string ⟨#[]⟩] 38)).drew
              have u10 : Blk ((wr).alloc (.cells #[.int .i64 0, .slice none 0 0, .string ⟨#[]⟩] 38)).drew (wr).heap.size 38 (.int .i64 0) (.slice none 0 0) (.string ⟨#[]⟩) := Blk.new_ wr 38 (.int .i64 0) (.slice none 0 0) (.string ⟨#[]⟩)
              have su10 : wr.heap.size ≤ (wr).heap.size := ((Below.refl wr.heap.size wr)).size
              obtain ⟨W10, hWN⟩ : ∃ x, ((wr).alloc (.cells #[.int .i64 0, .slice none 0 0, .string ⟨#[]⟩] 38)).drew = x := ⟨_, rfl⟩
              rw [hWN] at b10 u10 ⊢
              clear hWN
              refine hK.out _ _ (HK.out _ b10) (fun hHeld => ?_)
              clear hK K
              try simp only [Act.put, List.getElem_toArray, List.getElem_cons_succ, List.getElem_cons_zero, List.setIfInBounds_toArray, List.set_cons_zero, List.set_cons_succ]
              refine wpAnyH_ready (rs := [7]) (by kernel_rfl) (by simp) (AllReadyH.cons (o := _) rfl (fun K hK => ?_) AllReadyH.nil)
              try simp only [Act.put, List.getElem_toArray, List.getElem_cons_succ, List.getElem_cons_zero, List.setIfInBounds_toArray, List.set_cons_zero, List.set_cons_succ]
              try simp only [Act.put, List.getElem_toArray, List.getElem_cons_succ, List.getElem_cons_zero, List.setIfInBounds_toArray, List.set_cons_zero, List.set_cons_succ]
              go_simp
              go_at_call 27
              refine (CID.out _ b10).mono ?_
              rintro e w8 ⟨rfl, d8⟩
              have b8 := (b10).trans (d8.mono (b10).size)
              refine hK.out _ _ (HK.out _ b8) (fun hHeld => ?_)
              clear hK K
              try simp only [Act.put, List.getElem_toArray, List.getElem_cons_succ, List.getElem_cons_zero, List.setIfInBounds_toArray, List.set_cons_zero, List.set_cons_succ]
              have u11 := u10.below d8 u10.lt
              have su11 := su10
              refine wpAnyH_ready (rs := [8]) (by kernel_rfl) (by simp) (AllReadyH.cons (o := _) rfl (fun K hK => ?_) AllReadyH.nil)
              try simp only [Act.put, List.getElem_toArray, List.getElem_cons_succ, List.getElem_cons_zero, List.setIfInBounds_toArray, List.set_cons_zero, List.set_cons_succ]
              try simp only [Act.put, List.getElem_toArray, List.getElem_cons_succ, List.getElem_cons_zero, List.setIfInBounds_toArray, List.set_cons_zero, List.set_cons_succ]
              go_simp
              go_at_call 26
              refine (CSG.out _ b8).mono ?_
              rintro e w9 ⟨A8, c8, rfl, o9, d9⟩
              have b9 := (b8).trans (d9.mono (b8).size)
              refine hK.out _ _ (HK.out _ b9) (fun hHeld => ?_)
              clear hK K
              try simp only [Act.put, List.getElem_toArray, List.getElem_cons_succ, List.getElem_cons_zero, List.setIfInBounds_toArray, List.set_cons_zero, List.set_cons_succ]
              have u12 := u11.below d9 u11.lt
              have su12 := su10
              refine wpAnyH_take (i := 9) (oi := _) (v := ?_) rfl (by kernel_rfl) (by kernel_rfl) (by kernel_rfl) (fun _ _ _ h => h) (Or.inl ⟨by rfl, ?_⟩) hHeld ?_
              rotate_left
              · (intro w' hSw; (try dsimp only at hSw); go_simp <;> with_reducible rfl)
              try simp only [Act.put, List.getElem_toArray, List.getElem_cons_succ, List.getElem_cons_zero, List.setIfInBounds_toArray, List.set_cons_zero, List.set_cons_succ]
              refine wpAnyH_take (i := 10) (oi := _) (v := ?_) rfl (by kernel_rfl) (by kernel_rfl) (by kernel_rfl) (fun _ _ _ h => h) (Or.inl ⟨by rfl, ?_⟩) hHeld ?_
              rotate_left
              · (intro w' hSw; (try dsimp only at hSw); go_simp <;> with_reducible rfl)
              try simp only [Act.put, List.getElem_toArray, List.getElem_cons_succ, List.getElem_cons_zero, List.setIfInBounds_toArray, List.set_cons_zero, List.set_cons_succ]
              refine wpAnyH_take (i := 11) (oi := _) (v := ?_) rfl (by kernel_rfl) (by kernel_rfl) (by kernel_rfl) (fun _ _ _ h => h) (Or.inl ⟨by rfl, ?_⟩) hHeld ?_
              rotate_left
              · (intro w' hSw; (try dsimp only at hSw); go_simp <;> with_reducible rfl)
              try simp only [Act.put, List.getElem_toArray, List.getElem_cons_succ, List.getElem_cons_zero, List.setIfInBounds_toArray, List.set_cons_zero, List.set_cons_succ]
              obtain ⟨z0, z1, z2, zf⟩ := id (u12).reads
              have f0 := zf 0
              have f1' := zf 1
              have f2 := zf 2
              clear zf
              refine wpAnyH_ready (rs := [13]) (by kernel_rfl) (by simp) (AllReadyH.cons (o := _) rfl (fun K hK => ?_) AllReadyH.nil)
              try simp only [Act.put, List.getElem_toArray, List.getElem_cons_succ, List.getElem_cons_zero, List.setIfInBounds_toArray, List.set_cons_zero, List.set_cons_succ]
              go_simp
              have bV := below_store u12 b9 su12 (.int .i64 o.kd) (.slice A8 o.zs.length c8) (.string o.s)
              have uV := blk_store' u12 (.int .i64 o.kd) (.slice A8 o.zs.length c8) (.string o.s)
              have oV := own_store o9 u12 (.int .i64 o.kd) (.slice A8 o.zs.length c8) (.string o.s)
              refine hK.out _ _ (HK.out _ bV) (fun hHeld => ?_)
              clear hK K
              try simp only [Act.put, List.getElem_toArray, List.getElem_cons_succ, List.getElem_cons_zero, List.setIfInBounds_toArray, List.set_cons_zero, List.set_cons_succ]
              clear z0 z1 z2 f0 f1' f2
              refine wpAnyH_take (i := 14) (oi := _) (v := ?_) rfl (by kernel_rfl) (by kernel_rfl) (by kernel_rfl) (fun _ _ _ h => h) (Or.inl ⟨by rfl, ?_⟩) hHeld ?_
              rotate_left
              · (intro w' hSw; (try dsimp only at hSw); go_simp <;> with_reducible rfl)
              try simp only [Act.put, List.getElem_toArray, List.getElem_cons_succ, List.getElem_cons_zero, List.setIfInBounds_toArray, List.set_cons_zero, List.set_cons_succ]
              refine wpAnyH_done (by kernel_rfl) ?_ _
              clear hHeld
              obtain ⟨V0, hV0⟩ : ∃ V0, ((w9.setCell ⟨wr.heap.size, 0, none⟩ (.int .i64 o.kd)).setCell ⟨wr.heap.size, 1, none⟩ (.slice A8 o.zs.length c8)).setCell ⟨wr.heap.size, 2, none⟩ (.string o.s) = V0 := ⟨_, rfl⟩
              rw [hV0] at bV uV oV ⊢
              clear hV0
              go_wp2
              go_roundw
              case rel => exact ⟨k + 1, by omega, by go_num, hb.trans (bV.mono hb.size)⟩
              case measure => simp [intOf]; omega
          · have hk' : k = q.m.length := by omega
            subst hk'
            have CAT : Hid (∀ x, Quar x x.heap.size (.agg #[.slice A5 q0.m.length c5, .slice A6 q0.rs.length c6]) q0 → Calls Try.prog 25 #[.agg #[.slice A5 q0.m.length c5, .slice A6 q0.rs.length c6], .int .i64 t] x (Shown [] x)) := fun x hx => by
              have := areaOf_any _ q0 t x hx HFT.2.2.1
              rw [HAT.out] at this
              exact this
            have e9 : (((q0.rs.length : Nat) : Int) == ((q.rs.length : Nat) : Int) - 1) = true := by rw [beq_iff_eq]; have := HLN.out; omega
            have l2 : 1 ≤ q.rs.length := by have := HLN.out; omega
            obtain ⟨y10, y11, -⟩ := id x1.reads
            obtain ⟨y20, y21, -⟩ := id x2.reads
            go_wp2_with fail
            refine (CAT.out _ q2).mono ?_
            rintro e w9 ⟨A9, c9, rfl, -, -, d⟩
            clear y10 y11 y20 y21
            replace x2 := x2.later d
            replace q2 := q2.on d (d).size
            replace x1 := x1.later d
            have zz := (d).size
            try (replace ob := objs_on ob d)
            replace q1 := q1.on d zz
            replace bw := bw.trans ((d).mono bw.size)
            clear zz
            clear d CAT
            obtain ⟨y10, y11, -⟩ := id x1.reads
            obtain ⟨y20, y21, -⟩ := id x2.reads
            go_wp2_with fail
            refine (implQuarantineValid_is true _ q0 _ q2 HFT ⟨fun _ => HQV.out, fun _ => rfl⟩).mono ?_
            rintro e w10 ⟨rfl, d⟩
            replace bw := bw.trans (d.mono bw.size)
            go_wp2
            go_ret
            exact .mk_ bw
theorem FnPromote_any (A : Option Addr) (c : Nat) (bs : List Int) (w : World) (f1 : Row w w.heap.size A (bs.map (Value.int .u8))) (f2 : bs.length ≤ c) (f3 : c ≤ maxLen) (f4 : ∀ n ∈ bs, 0 ≤ n ∧ n < 256) :
    Calls Try.prog 5 #[.slice A bs.length c] w (Ret (.bool true) w) := by
  by_cases hl : bs.length ≤ 1048576
  · exact FnPromote_yes A c bs w ⟨f1, f2, f3, f4⟩ hl
  · exact FnPromote_no A c bs w ⟨f1, f2, f3, f4⟩ hl
end Go.Proofs.Ytblknnifccmpkaa
