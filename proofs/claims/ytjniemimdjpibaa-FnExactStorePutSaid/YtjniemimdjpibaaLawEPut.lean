/-
  Walk of the exact law on StorePut.
-/
import Derived.Test.YtjniemimdjpibaaPutIA
import Derived.Test.YtjniemimdjpibaaHeldA
import Derived.Test.YtjniemimdjpibaaLawGet
import Derived.Test.YtjniemimdjpibaaPutP
namespace Go.Proofs.Ytjniemimdjpibaa
open Go.RowKit Wo Pu

theorem row_keep {w w' : World} {B n sz : Nat} {e : TypeId} {v : Value} {xs : List Value} (h : w.ownsRow B e sz v n xs) (hk : ∀ g, v.ownBlock = some g → w'.heap[g]? = w.heap[g]?) : w'.ownsRow B e sz v n xs := by
  obtain ⟨h1, h2⟩ := h
  refine ⟨h1, ?_⟩
  rcases h2 with h2 | ⟨g, cap, cur, hv, hB, hh, hr⟩
  · exact .inl h2
  · exact .inr ⟨g, cap, cur, hv, hB, (hk g (by rw [hv]; rfl)).trans hh, hr⟩
theorem OwnObsF.apart {B C D : Nat} {w w' : World} {v : Value} {os : List Ob} (h : OwnObsF w D v os) (ha : Apart B C w w') (hD : C ≤ D) : OwnObsF w' D v os := by
  obtain ⟨xs, h1, h2, h3⟩ := h
  refine ⟨xs, row_keep h1 (fun g hg => ha.2 g (Nat.le_trans hD (World.ownsRow.lt h1 g hg).1) (World.ownsRow.lt h1 g hg).2), fun j hj => ?_, h3⟩
  obtain ⟨A, c, q0, q1, q2, q3⟩ := h2 j hj
  exact ⟨A, c, q0, q1, q2, ha.own_ q3 hD⟩
theorem Apart.of_grown {B C g : Nat} {w w' : World} (h : w.grownBy w' (some g)) (hB : B ≤ g) (hC : g < C) (hz : B ≤ w.heap.size) : Apart B C w w' :=
  ⟨(Below.refl B w).grown h hz (fun k hk => by injection hk with hk; omega), fun i hi hl => h.block i hl (fun e => by injection e with e; omega)⟩
theorem OwnObsF.objs {w : World} {B n c : Nat} {A : Option Addr} {os : List Ob} (h : OwnObsF w B (.slice A n c) os) : Objs w w.heap.size A os := by
  obtain ⟨A2, c2, e, ho⟩ := h.own.form
  injection e with e1 _ _
  subst e1
  exact ho
theorem PutAll.few {os : List Ob} {o : Ob} {r : Nat} {os1 : List Ob} {b : Bool} (h : PutAll os o r os1 b) : os1.length ≤ 16 ∧ ∀ p ∈ os1, p.zs.length ≤ 8 := by
  have small : ∀ p, vOb p = true → p.zs.length ≤ 8 := fun p hp => by have := (vldB_parts hp).2.1; omega
  rcases hst : storeB os with _ | _
  · rw [(h.2 (.inl hst)).1]; exact ⟨Nat.zero_le _, fun p hp => by cases hp⟩
  · rcases hvo : vOb o with _ | _
    · rw [(h.2 (.inr hvo)).1]; exact ⟨Nat.zero_le _, fun p hp => by cases hp⟩
    · have hp := h.1 hst hvo
      have hn := (storeB_parts hst).2
      have hval : ∀ p ∈ os, p.zs.length ≤ 8 := fun p hp => by
        obtain ⟨i, hi, rfl⟩ := List.mem_iff_getElem.1 hp
        exact small _ (storeB_valid hst i hi)
      by_cases hex : ∃ h : r < os.length, iOb os[r] = iOb o
      · obtain ⟨h1, h2⟩ := hex
        rw [(hp.1 h1 h2).1]
        exact ⟨hn, hval⟩
      · by_cases h16 : 16 ≤ os.length
        · rw [(hp.2.1 hex h16).1]
          exact ⟨hn, hval⟩
        · rw [(hp.2.2 hex (by omega)).1]
          refine ⟨by simp; omega, fun p hp => ?_⟩
          rcases List.mem_append.1 hp with hp | hp
          · exact hval p (List.mem_of_mem_take hp)
          · rcases List.mem_cons.1 hp with hp | hp
            · rw [hp]; exact small _ hvo
            · exact hval p (List.mem_of_mem_drop hp)

set_option maxHeartbeats 8000000 in
theorem exactStorePut_any (A : Option Addr) (c : Nat) (os : List Ob) (kd : Int) (A' : Option Addr) (c' : Nat) (zs : List Int) (s : ByteArray) (w : World) (h : Objs w w.heap.size A os) (hf : Fit os) (hn : os.length ≤ maxLen)
    (hro : Row w w.heap.size A' (ints zs)) (hz : zs.length ≤ maxLen) (hs : s.size ≤ maxLen) :
    Calls Try.prog 4 #[.slice A os.length c, .agg #[.int .i64 kd, .slice A' zs.length c', .string s]] w (Ret (.bool true) w) := by
  have u0 := Blk.new_ w 39 (.int .i64 kd) (.slice A' zs.length c') (.string s)
  have b0 := (Below.refl w.heap.size w).alloc (Nat.le_refl _) (.cells #[.int .i64 kd, .slice A' zs.length c', .string s] 39)
  obtain ⟨r, hrr⟩ := at_ex os (iOb ⟨kd, zs, s⟩)
  have HR : Hid (At_ os (iOb ⟨kd, zs, s⟩) r) := hrr
  clear hrr
  go_enter Try.func4, Try.ntmps4
  go_wp2_with fail
  refine (szObjectS_any A c os 1048576 _ ((h.below b0 (Nat.le_refl _)).more b0.size) hf hn (by omega) (by omega)).mono ?_
  rintro e w1 ⟨q, rfl, hr, hb1⟩
  have u1 := u0.below hb1 u0.lt
  have b1 := b0.trans (hb1.mono b0.size)
  clear u0 b0 hb1
  obtain ⟨y0, y1, y2, -⟩ := id u1.reads
  rcases hr with rfl | ⟨hr0, hre⟩
  · go_wp2
    go_ret
    exact .mk_ b1
  · have hq : q ≤ 1048576 := by omega
    obtain ⟨hl, hsz⟩ := allSz_fits (os := os) (m := 1048576) (by omega)
    have hs1 : ∀ o ∈ os, o.zs.length ≤ 1048576 := fun o ho => (hsz o ho).1
    clear hre hsz
    by_cases hfit : q < zs.length + s.size
    · go_wp2_with fail
      refine (szObject_no A' zs.length c' kd s q w1 hz hs hr0 hq hfit).mono ?_
      rintro e w2 ⟨rfl, hb2⟩
      go_wp2
      go_ret
      exact .mk_ (b1.trans (hb2.mono b1.size))
    · have hzl : zs.length ≤ 1048576 := by omega
      have hfo : (⟨kd, zs, s⟩ : Ob).zs.length ≤ maxLen ∧ (⟨kd, zs, s⟩ : Ob).s.size ≤ maxLen := ⟨hz, hs⟩
      go_wp2_with fail
      refine (szObject_yes A' zs.length c' kd s q w1 hz hs hr0 hq (by omega)).mono ?_
      rintro e w2 ⟨rfl, hb2⟩
      have u2 := u1.below hb2 u1.lt
      have b2 := b1.trans (hb2.mono b1.size)
      clear u1 b1 hb2 y0 y1 y2
      have hq2 : 0 ≤ q - zs.length - s.size := by omega
      have hq3 : q - zs.length - s.size ≤ 1048576 := by omega
      generalize q - zs.length - s.size = q2 at *
      clear hfit hr0 hq
      -- the objects that come in, wherever the call stands
      have HL : Hid (∀ x, Below w.heap.size w x → Objs x x.heap.size A os) := fun x hx => (h.below hx (Nat.le_refl _)).more hx.size
      have HRO : Hid (∀ x, Below w.heap.size w x → Row x w.heap.size A' (ints zs)) := fun x hx => hro.below hx (Nat.le_refl _)
      obtain ⟨y0, y1, y2, -⟩ := id u2.reads
      have d2 : Below w2.heap.size w2 w2.drew := (Below.refl _ _).drew
      have e2 := b2.trans (d2.mono b2.size)
      go_wp2_with fail
      go_region_held3 (fun w' => w'.cell? ⟨w.heap.size, 0, none⟩ = some (.int .i64 kd) ∧ w'.cell? ⟨w.heap.size, 1, none⟩ = some (.slice A' zs.length c') ∧ w'.cell? ⟨w.heap.size, 2, none⟩ = some (.string s)) (simp [*, go_sem])
        (first
          | (go_at_call 8; (refine (specStorePut_any (some ⟨g3, 0, none⟩) os.length os (some ⟨g4, 0, none⟩) zs.length ⟨kd, zs, s⟩ r w4 h4 hf hn (Nat.le_refl _) x4.row hfo HR).mono ?_); rintro e w5 ⟨v5, os1, b, rfl, hp5, ho5, hb5⟩; obtain ⟨A5, c5, rfl, h5⟩ := ho5.form; have u5 := u4.below hb5 u4.lt; have b5 := e4.trans (hb5.mono e4.size); obtain ⟨m0, m1, m2, -⟩ := id u5.reads)
          | (go_at_call 17; (refine (toObject_any w.heap.size A' c' kd zs s w3 (HRO.out w3 e3) e3.size hzl).mono ?_); rintro e w4 ⟨g4, rfl, x4, hb4⟩; have u4 := u3.below hb4 u3.lt; have e4 := e3.trans (hb4.mono e3.size); have h4 := (f3.objs.below hb4 (Nat.le_refl _)).more hb4.size; obtain ⟨l0, l1, l2, -⟩ := id u4.reads)
          | (go_at_call 16; (refine (toObjectS_any A c os w2.drew (HL.out _ e2) hl hs1).mono ?_); rintro e w3 ⟨g3, rfl, f3, hb3⟩; have u3 := (u2.below d2 u2.lt).below hb3 u2.lt; have e3 := e2.trans (hb3.mono e2.size); obtain ⟨j0, j1, j2, -⟩ := id u3.reads))
      have HP := hid hp5
      have ltu := u5.lt
      obtain ⟨hn16, hk8⟩ := hp5.few
      have hn1 : os1.length ≤ 1048576 := by omega
      have hk1 : ∀ p ∈ os1, p.zs.length ≤ 1048576 := fun p hp => by have := hk8 p hp; omega
      have HK8 := hid hk8
      clear hk8 hp5 ho5 hb5 u2 b2 d2 e2 u3 e3 u4 e4 h4 hb3 hb4 f3 x4 y0 y1 y2 j0 j1 j2 l0 l1 l2
      -- x0
      go_wp2_with fail
      refine (toObjectS_any A c os w5 (HL.out _ b5) hl hs1).mono ?_
      rintro e w6 ⟨g6, rfl, f6, hb6⟩
      have u6 := u5.below hb6 u5.lt
      have b6 := b5.trans (hb6.mono b5.size)
      have q6 := h5.below hb6 (Nat.le_refl _)
      have l6 := f6.lists
      have z6 := hb6.size
      clear m0 m1 m2 u5 h5 hb6
      obtain ⟨m0, m1, m2, -⟩ := id u6.reads
      -- x1
      go_wp2_with fail
      refine (toObject_any w.heap.size A' c' kd zs s w6 (HRO.out w6 b6) b6.size hzl).mono ?_
      rintro e w7 ⟨g7, rfl, x7, hb7⟩
      unfold ob
      have u7 := u6.below hb7 u6.lt
      have b7 := b6.trans (hb7.mono b6.size)
      have q7 := q6.below hb7 z6
      have l7 := l6.below hb7 (Nat.le_refl _)
      have f7 := f6.below hb7
      have z7 := hb7.size
      have x7l := x7.lt
      clear m0 m1 m2 u6 b6 q6 l6 f6 hb7
      obtain ⟨p8, d8, z8⟩ := putOb_facts w7 ⟨kd, zs, s⟩ (some ⟨g7, 0, none⟩) zs.length
      have u8 := u7.below d8 u7.lt
      have b8 := b7.trans (d8.mono b7.size)
      have q8 := q7.below d8 (by omega)
      have l8 := l7.below d8 z7
      have f8 := f7.below d8
      have x8 := x7.below d8 x7l.2
      clear u7 b7 q7 l7 f7 x7 d8
      obtain ⟨W8, hW8⟩ : ∃ W8, putOb w7 ⟨kd, zs, s⟩ (some ⟨g7, 0, none⟩) zs.length = W8 := ⟨_, rfl⟩
      rw [hW8] at p8 u8 b8 q8 l8 f8 x8 z8
      unfold putOb at hW8
      obtain ⟨m0, m1, m2, -⟩ := id u8.reads
      obtain ⟨n0, n1, n2, -⟩ := id p8.reads
      have h8 := f8.objs
      have zz8 : w5.heap.size ≤ W8.heap.size := by omega
      have b8s := b8.size
      -- impl.StorePut
      go_wp2_with fail
      refine (implStorePutA_any (some ⟨g6, 0, none⟩) os.length os (some ⟨g7, 0, none⟩) zs.length ⟨kd, zs, s⟩ r W8 h8 hf hn x8.row hfo HR).mono ?_
      rintro e w9 ⟨v9, os9, b9', rfl, hp9, o9, hb9⟩
      obtain ⟨rfl, rfl⟩ := HP.out.one hp9
      obtain ⟨A9, c9, rfl, h9⟩ := o9.own.form
      have u9 := u8.below hb9 u8.lt
      have p9 := p8.below hb9 p8.lt
      have b9 := b8.trans (hb9.mono b8.size)
      have q9 := q8.below hb9 zz8
      have l9 := l8.below hb9 (by omega)
      have f9 := f8.below hb9
      have x9 := x8.below hb9 x8.lt.2
      have z9 := hb9.size
      clear m0 m1 m2 n0 n1 n2 u8 p8 b8 q8 l8 f8 x8 h8 hp9 hb9 hW8
      -- the answer is the model's
      go_wp2_with fail
      refine (eqObjectS_same A9 A5 c9 c5 os1 w9 h9 (q9.more (by omega)) hn1 hk1).mono ?_
      rintro e w10 ⟨rfl, hb⟩
      have u10 := u9.below hb u9.lt
      have p10 := p9.below hb p9.lt
      have b10 := b9.trans (hb.mono b9.size)
      have q10 := q9.below hb (by omega)
      have l10 := l9.below hb (by omega)
      have f10 := f9.below hb
      have x10 := x9.below hb x9.lt.2
      have o10 := o9.below hb
      have z10 := hb.size
      clear u9 p9 b9 q9 l9 f9 x9 o9 h9 hb
      obtain ⟨m0, m1, m2, -⟩ := id u10.reads
      obtain ⟨n0, n1, n2, -⟩ := id p10.reads
      -- x0 is as it was
      go_wp2_with fail
      refine (toObjectS_any A c os w10 (HL.out _ b10) hl hs1).mono ?_
      rintro e w11 ⟨g11, rfl, fn, hb⟩
      have u11 := u10.below hb u10.lt
      have p11 := p10.below hb p10.lt
      have b11 := b10.trans (hb.mono b10.size)
      have q11 := q10.below hb (by omega)
      have l11 := l10.below hb (by omega)
      have f11 := f10.below hb
      have x11 := x10.below hb x10.lt.2
      have o11 := o10.below hb
      have z11 := hb.size
      clear u10 p10 b10 q10 l10 f10 x10 o10 hb m0 m1 m2 n0 n1 n2
      go_wp2_with fail
      refine (eqObjectS_same (some ⟨g6, 0, none⟩) (some ⟨g11, 0, none⟩) os.length os.length os w11 f11.objs fn.objs hl hs1).mono ?_
      rintro e w12 ⟨rfl, hb⟩
      have u12 := u11.below hb u11.lt
      have p12 := p11.below hb p11.lt
      have b12 := b11.trans (hb.mono b11.size)
      have q12 := q11.below hb (by omega)
      have l12 := l11.below hb (by omega)
      have x12 := x11.below hb x11.lt.2
      have o12 := o11.below hb
      have z12 := hb.size
      clear u11 p11 b11 q11 l11 f11 x11 o11 hb fn
      obtain ⟨m0, m1, m2, -⟩ := id u12.reads
      obtain ⟨n0, n1, n2, -⟩ := id p12.reads
      have d12 : Below w12.heap.size w12 w12.drew := (Below.refl _ _).drew
      have e12 := b12.trans (d12.mono b12.size)
      -- x1 is as it was
      go_wp2_with fail
      go_region_held3 (fun w' => w'.cell? ⟨w.heap.size, 0, none⟩ = some (.int .i64 kd) ∧ w'.cell? ⟨w.heap.size, 1, none⟩ = some (.slice A' zs.length c') ∧ w'.cell? ⟨w.heap.size, 2, none⟩ = some (.string s) ∧ w'.cell? ⟨w7.heap.size, 0, none⟩ = some (.int .i64 kd) ∧ w'.cell? ⟨w7.heap.size, 1, none⟩ = some (.slice (some ⟨g7, 0, none⟩) zs.length zs.length) ∧ w'.cell? ⟨w7.heap.size, 2, none⟩ = some (.string s)) (simp [*, go_sem])
        (first
          | (go_at_call 19; (refine (eqObject_same w13.heap.size w13.heap.size (some ⟨g7, 0, none⟩) (some ⟨g13, 0, none⟩) zs.length zs.length kd zs s w13 x13.row y13.row (Nat.le_refl _) (Nat.le_refl _) hz).mono ?_); rintro e w14 ⟨rfl, hb14⟩; have u14 := u13.below hb14 u13.lt; have p14 := p13.below hb14 p13.lt; have b14 := b13.trans (hb14.mono b13.size); have q14 := q13.below hb14 (by omega); have l14 := l13.below hb14 (by omega); have x14 := x13.below hb14 x13.lt.2; have o14 := o13.below hb14; have z14 := hb14.size; obtain ⟨i0, i1, i2, -⟩ := id u14.reads; obtain ⟨j0, j1, j2, -⟩ := id p14.reads)
          | (go_at_call 17; (refine (toObject_any w.heap.size A' c' kd zs s w12.drew (HRO.out _ e12) e12.size hzl).mono ?_); rintro e w13 ⟨g13, rfl, y13, hb13⟩; have hb13' : Below w12.heap.size w12 w13 := d12.trans hb13; have u13 := u12.below hb13' u12.lt; have p13 := p12.below hb13' p12.lt; have b13 := b12.trans (hb13'.mono b12.size); have q13 := q12.below hb13' (by omega); have l13 := l12.below hb13' (by omega); have x13 := x12.below hb13' x12.lt.2; have o13 := o12.below hb13'; have z13 := hb13'.size; obtain ⟨s0, s1, s2, -⟩ := id u13.reads; obtain ⟨t0, t1, t2, -⟩ := id p13.reads))
      clear u12 p12 b12 q12 l12 x12 o12 d12 e12 u13 p13 b13 q13 l13 x13 o13 hb13 hb13' hb14 y13 m0 m1 m2 n0 n1 n2 s0 s1 s2 t0 t1 t2 i0 i1 i2 j0 j1 j2
      -- x0 and x1 are marked
      have w56 := z6
      obtain ⟨n0, n1, n2, -⟩ := id p14.reads
      go_wp2_with fail
      refine (markObjectS_any w5.heap.size w6.heap.size g6 os w14 l14 (by omega) z6 hl hs1).mono ?_
      rintro e w15 ⟨k15, rfl, ⟨hk0, hk9⟩, ha⟩
      have b15 := b14.trans (ha.1.mono (by omega))
      have u15 := u14.below ha.1 ltu
      have p15 := ha.blk p14 z7
      have q15 := q14.below ha.1 (Nat.le_refl _)
      have o15 := o14.apart ha (by omega)
      have x15 := ha.own_ (show Own w14 w6.heap.size (.slice (some ⟨g7, 0, none⟩) zs.length zs.length) zs from x14) (Nat.le_refl _)
      have z15 := ha.size_
      clear b14 u14 p14 q14 o14 x14 l14 ha n0 n1 n2
      obtain ⟨n0, n1, n2, -⟩ := id p15.reads
      go_wp2_with fail
      refine (markObject_any w6.heap.size (some ⟨g7, 0, none⟩) zs.length ⟨kd, zs, s⟩ k15 w15 x15 hzl hk0 hk9).mono ?_
      rintro e w16 ⟨rfl, -, hg⟩
      have ha : Apart w6.heap.size W8.heap.size w15 w16 := Apart.of_grown (g := g7) hg x7l.1 (by omega) (by omega)
      have b16 := b15.trans (ha.1.mono (by omega))
      have u16 := u15.below ha.1 (by omega)
      have q16 := q15.below ha.1 z6
      have o16 := o15.apart ha (Nat.le_refl _)
      have z16 := ha.size_
      clear b15 u15 p15 q15 o15 x15 ha hg n0 n1 n2
      -- the answer is as it was
      have ek : decide (k15 + (zs.length : Int) < 0) = false := decide_eq_false (by omega)
      go_wp2_with fail
      refine (eqObjectS_same A9 A5 c9 c5 os1 w16 o16.objs (q16.more (by omega)) hn1 hk1).mono ?_
      rintro e w17 ⟨rfl, hb⟩
      have b17 := b16.trans (hb.mono b16.size)
      have u17 := u16.below hb u16.lt
      have q17 := q16.below hb (by omega)
      have o17 := o16.below hb
      have z17 := hb.size
      clear b16 u16 q16 o16 hb ek
      -- the answer is marked
      obtain ⟨K, hK⟩ : ∃ K, kAt os1 os1.length = K := ⟨_, rfl⟩
      have hK1 : K ≤ 1000 := by rw [← hK]; have := kAt_le HK8.out os1.length (Nat.le_refl _); omega
      have cm := markObjectS_own W8.heap.size A9 c9 os1 w17 o17 (by omega) hn16 HK8.out
      have CH := hid (fun x hx => heldObjectS_is A9 c9 os1 x hx hn16 HK8.out)
      rw [hK] at CH
      unfold MarkedO at cm
      rw [hK] at cm
      clear hK o17
      go_wp2_with fail
      refine cm.mono ?_
      rintro e w18 ⟨rfl, h18, hb⟩
      clear cm
      have b18 := b17.trans (hb.mono b8s)
      have u18 := u17.below hb (by omega)
      have q18 := q17.below hb (by omega)
      have z18 := hb.size
      clear b17 u17 q17 hb
      go_wp2_with fail
      refine (CH.out w18 h18).mono ?_
      rintro e w19 ⟨rfl, hb⟩
      have b19 := b18.trans (hb.mono b18.size)
      have u19 := u18.below hb u18.lt
      have q19 := q18.below hb (by omega)
      have h19 := (h18.below hb (Nat.le_refl _)).more hb.size
      have z19 := hb.size
      clear b18 u18 q18 h18 hb
      obtain ⟨m0, m1, m2, -⟩ := id u19.reads
      have d19 : Below w19.heap.size w19 w19.drew := (Below.refl _ _).drew
      have e19 := b19.trans (d19.mono b19.size)
      -- another answer
      go_wp2_with fail
      go_region_held3 (fun w' => w'.cell? ⟨w.heap.size, 0, none⟩ = some (.int .i64 kd) ∧ w'.cell? ⟨w.heap.size, 1, none⟩ = some (.slice A' zs.length c') ∧ w'.cell? ⟨w.heap.size, 2, none⟩ = some (.string s)) (simp [*, go_sem])
        (first
          | (go_at_call 7; (refine (implStorePut_any (some ⟨g20, 0, none⟩) os.length os (some ⟨g21, 0, none⟩) zs.length ⟨kd, zs, s⟩ r w21 h21 hf hn x21.row hfo HR).mono ?_); rintro e w22 ⟨v22, os22, b22, rfl, hp22, ho22, hb22⟩; obtain ⟨rfl, rfl⟩ := HP.out.one hp22; obtain ⟨A22, c22, rfl, h22⟩ := ho22.form; have u22 := u21.below hb22 u21.lt; have e22 := e21.trans (hb22.mono e21.size); have q22 := q21.below hb22 (by omega); have k22 := k21.below hb22 (Nat.le_refl _); have z22 := hb22.size; obtain ⟨r0, r1, r2, -⟩ := id u22.reads)
          | (go_at_call 17; (refine (toObject_any w.heap.size A' c' kd zs s w20 (HRO.out w20 e20) e20.size hzl).mono ?_); rintro e w21 ⟨g21, rfl, x21, hb21⟩; have u21 := u20.below hb21 u20.lt; have e21 := e20.trans (hb21.mono e20.size); have h21 := (f20.objs.below hb21 (Nat.le_refl _)).more hb21.size; have q21 := q20.below hb21 (by omega); have k21 := (k20.below hb21 (Nat.le_refl _)).more hb21.size; have z21 := hb21.size; obtain ⟨l0, l1, l2, -⟩ := id u21.reads)
          | (go_at_call 16; (refine (toObjectS_any A c os w19.drew (HL.out _ e19) hl hs1).mono ?_); rintro e w20 ⟨g20, rfl, f20, hb20⟩; have hb20' : Below w19.heap.size w19 w20 := d19.trans hb20; have u20 := u19.below hb20' u19.lt; have e20 := b19.trans (hb20'.mono b19.size); have q20 := q19.below hb20' (by omega); have k20 := (h19.below hb20' (Nat.le_refl _)).more hb20'.size; have z20 := hb20'.size; obtain ⟨j0, j1, j2, -⟩ := id u20.reads))
      have k22' := k22.more z22
      clear r0 r1 r2 l0 l1 l2 j0 j1 j2 u20 u21 e20 e21 h21 q20 q21 k20 k21 hp22 ho22 hb20 hb20' hb21 hb22 f20 x21 b19 u19 q19 h19 d19 e19 m0 m1 m2 k22
      go_wp2_with fail
      refine (eqObjectS_same A22 A5 c22 c5 os1 w22 h22 (q22.more (by omega)) hn1 hk1).mono ?_
      rintro e w23 ⟨rfl, hb⟩
      have b23 := e22.trans (hb.mono e22.size)
      have h23 := (k22'.below hb (Nat.le_refl _)).more hb.size
      clear e22 u22 q22 k22' h22
      go_wp2_with fail
      refine (CH.out w23 h23).mono ?_
      rintro e w24 ⟨rfl, hb2⟩
      go_wp2
      go_ret
      exact .mk_ (b23.trans (hb2.mono b23.size))
end Go.Proofs.Ytjniemimdjpibaa
