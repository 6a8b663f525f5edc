/-
  Walk of the law on what each kind needs.
-/
import Derived.Test.YtglcnlinfojflaaLawsOb
import Derived.Deep.RegionHeld3
namespace Go.Proofs.Ytglcnlinfojflaa
open Go.RowKit Wo Pu

theorem implObjectValid_val (v : Bool) (B : Nat) (A : Option Addr) (c : Nat) (kd : Int) (zs : List Int) (s : ByteArray) (w : World) (hv : vldB kd zs s.size = v) (hr : Row w B A (ints zs)) (hB : B ≤ w.heap.size) (hm : zs.length ≤ maxLen) (hs : s.size ≤ maxLen) :
    Calls Try.prog 18 #[ob kd A zs.length c s] w (Ret (.bool v) w) := by
  subst hv
  exact implObjectValid_any B A c kd zs s w hr hB hm hs

/-- Four objects in four blocks, and the links of all of them. -/
def KSt (w0 wx : World) (A : Option Addr) (c : Nat) (kd : Int) (zs : List Int) (s : ByteArray) (g3 g6 g7 g8 : Nat) : Prop :=
  Blk wx g3 27 (.int .i64 kd) (.slice A zs.length c) (.string s) ∧ Blk wx g6 27 (.int .i64 1) (.slice A zs.length c) (.string s) ∧ Blk wx g7 27 (.int .i64 2) (.slice A zs.length c) (.string s) ∧
  Blk wx g8 27 (.int .i64 3) (.slice A zs.length c) (.string s) ∧ Row wx wx.heap.size A (ints zs) ∧ Below w0.heap.size w0 wx
theorem KSt.below {w0 wx wy : World} {A : Option Addr} {c : Nat} {kd : Int} {zs : List Int} {s : ByteArray} {g3 g6 g7 g8 : Nat} (h : KSt w0 wx A c kd zs s g3 g6 g7 g8) (hb : Below wx.heap.size wx wy) : KSt w0 wy A c kd zs s g3 g6 g7 g8 := by
  obtain ⟨h1, h2, h3, h4, h5, h6⟩ := h
  exact ⟨h1.below hb h1.lt, h2.below hb h2.lt, h3.below hb h3.lt, h4.below hb h4.lt, (h5.below hb (Nat.le_refl _)).more hb.size, h6.trans (hb.mono h6.size)⟩
theorem KSt.reads {w0 wx : World} {A : Option Addr} {c : Nat} {kd : Int} {zs : List Int} {s : ByteArray} {g3 g6 g7 g8 : Nat} (h : KSt w0 wx A c kd zs s g3 g6 g7 g8) :
    (wx.cell? ⟨g3, 1, none⟩ = some (.slice A zs.length c) ∧ wx.cell? ⟨g3, 2, none⟩ = some (.string s)) ∧ (wx.cell? ⟨g6, 0, none⟩ = some (.int .i64 1) ∧ wx.cell? ⟨g6, 1, none⟩ = some (.slice A zs.length c) ∧ wx.cell? ⟨g6, 2, none⟩ = some (.string s)) ∧
    (wx.cell? ⟨g7, 0, none⟩ = some (.int .i64 2) ∧ wx.cell? ⟨g7, 1, none⟩ = some (.slice A zs.length c) ∧ wx.cell? ⟨g7, 2, none⟩ = some (.string s)) ∧ (wx.cell? ⟨g8, 0, none⟩ = some (.int .i64 3) ∧ wx.cell? ⟨g8, 1, none⟩ = some (.slice A zs.length c) ∧ wx.cell? ⟨g8, 2, none⟩ = some (.string s)) := by
  obtain ⟨h1, h2, h3, h4, _⟩ := h
  exact ⟨⟨h1.reads.2.1, h1.reads.2.2.1⟩, ⟨h2.reads.1, h2.reads.2.1, h2.reads.2.2.1⟩, ⟨h3.reads.1, h3.reads.2.1, h3.reads.2.2.1⟩, ⟨h4.reads.1, h4.reads.2.1, h4.reads.2.2.1⟩⟩

theorem KSt.make {w0 w3 : World} {A : Option Addr} {c : Nat} {kd : Int} {zs : List Int} {s : ByteArray} {g3 : Nat} (u : Blk w3 g3 27 (.int .i64 kd) (.slice A zs.length c) (.string s)) (r : Row w3 w3.heap.size A (ints zs)) (b : Below w0.heap.size w0 w3) :
    KSt w0 (((w3.alloc (.cells #[.int .i64 1, .slice A zs.length c, .string s] 27)).alloc (.cells #[.int .i64 2, .slice A zs.length c, .string s] 27)).alloc (.cells #[.int .i64 3, .slice A zs.length c, .string s] 27)).drew A c kd zs s g3 w3.heap.size (w3.heap.size + 1) (w3.heap.size + 1 + 1) := by
  have a6 := (Below.refl w3.heap.size w3).alloc (Nat.le_refl _) (.cells #[.int .i64 1, .slice A zs.length c, .string s] 27)
  have v6 := Blk.new_ w3 27 (.int .i64 1) (.slice A zs.length c) (.string s)
  have z6 : (w3.alloc (.cells #[.int .i64 1, .slice A zs.length c, .string s] 27)).heap.size = w3.heap.size + 1 := by simp
  generalize w3.alloc (.cells #[.int .i64 1, .slice A zs.length c, .string s] 27) = x6 at *
  have a7 := (Below.refl x6.heap.size x6).alloc (Nat.le_refl _) (.cells #[.int .i64 2, .slice A zs.length c, .string s] 27)
  have v7 := Blk.new_ x6 27 (.int .i64 2) (.slice A zs.length c) (.string s)
  have z7 : (x6.alloc (.cells #[.int .i64 2, .slice A zs.length c, .string s] 27)).heap.size = w3.heap.size + 1 + 1 := by simp; omega
  generalize x6.alloc (.cells #[.int .i64 2, .slice A zs.length c, .string s] 27) = x7 at *
  have a8 := (Below.refl x7.heap.size x7).alloc (Nat.le_refl _) (.cells #[.int .i64 3, .slice A zs.length c, .string s] 27)
  have v8 := Blk.new_ x7 27 (.int .i64 3) (.slice A zs.length c) (.string s)
  generalize x7.alloc (.cells #[.int .i64 3, .slice A zs.length c, .string s] 27) = x8 at *
  rw [z6] at v7
  rw [z7] at v8
  have l := u.lt
  have a68 := (a6.trans (a7.mono (by omega))).trans (a8.mono (by omega))
  have h : KSt w0 x8 A c kd zs s g3 w3.heap.size (w3.heap.size + 1) (w3.heap.size + 1 + 1) :=
    ⟨u.below a68 l, (v6.below a7 (by omega)).below a8 (by omega), v7.below a8 (by omega), v8, (r.below a68 (Nat.le_refl _)).more a68.size, b.trans (a68.mono b.size)⟩
  exact h.below (Below.refl _ _).drew

theorem vld_kinds {kd : Int} {zs : List Int} {m : Nat} (h : vldB kd zs m = true) : vldB 1 zs m = decide (zs.length = 0) ∧ vldB 2 zs m = decide (m = 0) ∧ vldB 3 zs m = decide (0 < zs.length) := by
  obtain ⟨h1, h2, h3, _⟩ := vldB_parts h
  exact ⟨by rw [vld_d h1 h2 h3, kind_1], by rw [vld_d h1 h2 h3, kind_2], by rw [vld_d h1 h2 h3, kind_3]⟩


theorem FnObjectKinds_no (A : Option Addr) (c : Nat) (bs : List Int) (w : World) (h : Code_ w A c bs) (hl : ¬ bs.length ≤ 1048576) :
    Calls Try.prog 8 #[.slice A bs.length c] w (Ret (.bool true) w) := by
  have hc := h.2.1
  have hm := h.2.2.1
  unfold maxLen at hm
  go_enter Try.func8, Try.ntmps8
  go_wp2
  go_ret
  exact .mk_ (Below.refl _ _)
set_option maxHeartbeats 4000000 in
theorem FnObjectKinds_yes (A : Option Addr) (c : Nat) (bs : List Int) (w : World) (h : Code_ w A c bs) (hl : bs.length ≤ 1048576) :
    Calls Try.prog 8 #[.slice A bs.length c] w (Ret (.bool true) w) := by
  go_enter Try.func8, Try.ntmps8
  go_wp2_with fail
  refine (DrawObjectValid_any A c bs _ h).mono ?_
  rintro e w1 ⟨kd, A1, c1, zs, s, rfl, ho1, hz, hs, hb1⟩
  have hm : zs.length ≤ maxLen := by unfold maxLen; omega
  have hs' : s.size ≤ maxLen := by unfold maxLen; omega
  unfold ob
  have al := (Below.refl w1.heap.size w1).alloc (Nat.le_refl _) (.cells #[.int .i64 kd, .slice A1 zs.length c1, .string s] 27)
  have u1 := Blk.new_ w1 27 (.int .i64 kd) (.slice A1 zs.length c1) (.string s)
  have b1 := hb1.trans (al.mono hb1.size)
  have o1 := ho1.below al (Nat.le_refl _)
  have z1 := hb1.size
  clear hb1 al ho1
  go_wp2_with fail
  refine (implObjectValid_any _ A1 c1 kd zs s _ o1.row (Nat.le_refl _) hm hs').mono ?_
  rintro e w2 ⟨rfl, hb2⟩
  have u2 := u1.below hb2 u1.lt
  have b2 := b1.trans (hb2.mono b1.size)
  have o2 := o1.below hb2 (Nat.le_refl _)
  have z2 := hb2.size
  simp only [World.size_alloc] at z2
  clear hb2 u1 b1 o1
  obtain ⟨k0, k1, k2, kf⟩ := id u2.reads
  clear kf
  go_wp2_with fail
  refine (specValid_any _ A1 c1 kd zs s _ o2.row (Nat.le_refl _) hm hs').mono ?_
  rintro e w3 ⟨rfl, hb3⟩
  have u3 := u2.below hb3 u2.lt
  have b3 := b2.trans (hb3.mono b2.size)
  have o3 := o2.below hb3 (Nat.le_refl _)
  have z3 := hb3.size
  clear hb3 u2 b2 o2 k0 k1 k2
  obtain ⟨k0, k1, k2, kf⟩ := id u3.reads
  clear kf
  cases hv : vldB kd zs s.size
  · go_wp2
    go_ret
    exact .mk_ b3
  · obtain ⟨q1, q2, q3⟩ := vld_kinds hv
    have Q1 := hid q1
    have Q2 := hid q2
    have Q3 := hid q3
    clear q1 q2 q3
    have l3 := u3.lt
    go_wp2_with fail
    obtain ⟨W, hW⟩ : ∃ W, W = ((w3.alloc (.cells #[.int .i64 1, .slice A1 zs.length c1, .string s] 27)).alloc (.cells #[.int .i64 2, .slice A1 zs.length c1, .string s] 27)).alloc (.cells #[.int .i64 3, .slice A1 zs.length c1, .string s] 27) := ⟨_, rfl⟩
    rw [← hW]
    have st : KSt w W.drew A1 c1 kd zs s w1.heap.size w3.heap.size (w3.heap.size + 1) (w3.heap.size + 1 + 1) := by
      rw [hW]
      exact KSt.make u3 o3.row b3
    clear hW u3 o3 b3 k0 k1 k2 hv
    obtain ⟨⟨r31, r32⟩, ⟨r60, r61, r62⟩, ⟨r70, r71, r72⟩, r80, r81, r82⟩ := st.reads
    simp only [World.cell?_drew] at r31 r32 r60 r61 r62 r70 r71 r72 r80 r81 r82
    have sd := st
    clear st
    by_cases en : zs.length = 0
    · have e1 : (((zs.length : Nat) : Int) == 0) = true := by rw [en]; rfl
      have e3 : decide (0 < zs.length) = false := by rw [en]; rfl
      have v1 := Q1.out.trans (decide_eq_true en)
      have v3 := Q3.out.trans (decide_eq_false (by omega))
      have V1 := hid v1
      have V3 := hid v3
      clear v1 v3 en
      by_cases es : s.size = 0
      · have e2 : s.toList.isEmpty = true := (emp_ s).trans (decide_eq_true es)
        have v2 := Q2.out.trans (decide_eq_true es)
        have V2 := hid v2
        clear v2 es
        go_region_held3 (fun w' => (w'.cell? ⟨w1.heap.size, 1, none⟩ = some (.slice A1 zs.length c1) ∧ w'.cell? ⟨w1.heap.size, 2, none⟩ = some (.string s)) ∧ (w'.cell? ⟨w3.heap.size, 0, none⟩ = some (.int .i64 1) ∧ w'.cell? ⟨w3.heap.size, 1, none⟩ = some (.slice A1 zs.length c1) ∧ w'.cell? ⟨w3.heap.size, 2, none⟩ = some (.string s)) ∧ (w'.cell? ⟨w3.heap.size + 1, 0, none⟩ = some (.int .i64 2) ∧ w'.cell? ⟨w3.heap.size + 1, 1, none⟩ = some (.slice A1 zs.length c1) ∧ w'.cell? ⟨w3.heap.size + 1, 2, none⟩ = some (.string s)) ∧ (w'.cell? ⟨w3.heap.size + 1 + 1, 0, none⟩ = some (.int .i64 3) ∧ w'.cell? ⟨w3.heap.size + 1 + 1, 1, none⟩ = some (.slice A1 zs.length c1) ∧ w'.cell? ⟨w3.heap.size + 1 + 1, 2, none⟩ = some (.string s)))
          (go_keep)
          (first
            | (go_at_call_of 18 (Value.agg #[Value.int .i64 1, Value.slice A1 zs.length c1, Value.string s]); go_must (refine (implObjectValid_val true _ A1 c1 1 zs s _ V1.out (by exact sd.2.2.2.2.1) (Nat.le_refl _) hm hs').mono ?_); rintro e wa ⟨rfl, hba⟩; have sa := sd.below hba; obtain ⟨⟨a31, a32⟩, ⟨a60, a61, a62⟩, ⟨a70, a71, a72⟩, a80, a81, a82⟩ := sa.reads)
            | (go_at_call_of 18 (Value.agg #[Value.int .i64 2, Value.slice A1 zs.length c1, Value.string s]); go_must (refine (implObjectValid_val true _ A1 c1 2 zs s _ V2.out (by exact sa.2.2.2.2.1) (Nat.le_refl _) hm hs').mono ?_); rintro e wb ⟨rfl, hbb⟩; have sb := sa.below hbb; obtain ⟨⟨b31, b32⟩, ⟨b60, b61, b62⟩, ⟨b70, b71, b72⟩, b80, b81, b82⟩ := sb.reads)
            | (go_at_call_of 18 (Value.agg #[Value.int .i64 3, Value.slice A1 zs.length c1, Value.string s]); go_must (refine (implObjectValid_val false _ A1 c1 3 zs s _ V3.out (by exact sb.2.2.2.2.1) (Nat.le_refl _) hm hs').mono ?_); rintro e wc ⟨rfl, hbc⟩; have sc := sb.below hbc; obtain ⟨⟨c31, c32⟩, ⟨c60, c61, c62⟩, ⟨c70, c71, c72⟩, c80, c81, c82⟩ := sc.reads))
        go_wp2
        go_ret
        exact .mk_ sc.2.2.2.2.2
      · have e2 : s.toList.isEmpty = false := (emp_ s).trans (decide_eq_false es)
        have v2 := Q2.out.trans (decide_eq_false es)
        have V2 := hid v2
        clear v2 es
        go_region_held3 (fun w' => (w'.cell? ⟨w1.heap.size, 1, none⟩ = some (.slice A1 zs.length c1) ∧ w'.cell? ⟨w1.heap.size, 2, none⟩ = some (.string s)) ∧ (w'.cell? ⟨w3.heap.size, 0, none⟩ = some (.int .i64 1) ∧ w'.cell? ⟨w3.heap.size, 1, none⟩ = some (.slice A1 zs.length c1) ∧ w'.cell? ⟨w3.heap.size, 2, none⟩ = some (.string s)) ∧ (w'.cell? ⟨w3.heap.size + 1, 0, none⟩ = some (.int .i64 2) ∧ w'.cell? ⟨w3.heap.size + 1, 1, none⟩ = some (.slice A1 zs.length c1) ∧ w'.cell? ⟨w3.heap.size + 1, 2, none⟩ = some (.string s)) ∧ (w'.cell? ⟨w3.heap.size + 1 + 1, 0, none⟩ = some (.int .i64 3) ∧ w'.cell? ⟨w3.heap.size + 1 + 1, 1, none⟩ = some (.slice A1 zs.length c1) ∧ w'.cell? ⟨w3.heap.size + 1 + 1, 2, none⟩ = some (.string s)))
          (go_keep)
          (first
            | (go_at_call_of 18 (Value.agg #[Value.int .i64 1, Value.slice A1 zs.length c1, Value.string s]); go_must (refine (implObjectValid_val true _ A1 c1 1 zs s _ V1.out (by exact sd.2.2.2.2.1) (Nat.le_refl _) hm hs').mono ?_); rintro e wa ⟨rfl, hba⟩; have sa := sd.below hba; obtain ⟨⟨a31, a32⟩, ⟨a60, a61, a62⟩, ⟨a70, a71, a72⟩, a80, a81, a82⟩ := sa.reads)
            | (go_at_call_of 18 (Value.agg #[Value.int .i64 2, Value.slice A1 zs.length c1, Value.string s]); go_must (refine (implObjectValid_val false _ A1 c1 2 zs s _ V2.out (by exact sa.2.2.2.2.1) (Nat.le_refl _) hm hs').mono ?_); rintro e wb ⟨rfl, hbb⟩; have sb := sa.below hbb; obtain ⟨⟨b31, b32⟩, ⟨b60, b61, b62⟩, ⟨b70, b71, b72⟩, b80, b81, b82⟩ := sb.reads)
            | (go_at_call_of 18 (Value.agg #[Value.int .i64 3, Value.slice A1 zs.length c1, Value.string s]); go_must (refine (implObjectValid_val false _ A1 c1 3 zs s _ V3.out (by exact sb.2.2.2.2.1) (Nat.le_refl _) hm hs').mono ?_); rintro e wc ⟨rfl, hbc⟩; have sc := sb.below hbc; obtain ⟨⟨c31, c32⟩, ⟨c60, c61, c62⟩, ⟨c70, c71, c72⟩, c80, c81, c82⟩ := sc.reads))
        go_wp2
        go_ret
        exact .mk_ sc.2.2.2.2.2
    · have e1 : (((zs.length : Nat) : Int) == 0) = false := by rw [beq_eq_false_iff_ne]; omega
      have e3 : decide (0 < zs.length) = true := by rw [decide_eq_true_eq]; omega
      have v1 := Q1.out.trans (decide_eq_false en)
      have v3 := Q3.out.trans (decide_eq_true (by omega))
      have V1 := hid v1
      have V3 := hid v3
      clear v1 v3 en
      by_cases es : s.size = 0
      · have e2 : s.toList.isEmpty = true := (emp_ s).trans (decide_eq_true es)
        have v2 := Q2.out.trans (decide_eq_true es)
        have V2 := hid v2
        clear v2 es
        go_region_held3 (fun w' => (w'.cell? ⟨w1.heap.size, 1, none⟩ = some (.slice A1 zs.length c1) ∧ w'.cell? ⟨w1.heap.size, 2, none⟩ = some (.string s)) ∧ (w'.cell? ⟨w3.heap.size, 0, none⟩ = some (.int .i64 1) ∧ w'.cell? ⟨w3.heap.size, 1, none⟩ = some (.slice A1 zs.length c1) ∧ w'.cell? ⟨w3.heap.size, 2, none⟩ = some (.string s)) ∧ (w'.cell? ⟨w3.heap.size + 1, 0, none⟩ = some (.int .i64 2) ∧ w'.cell? ⟨w3.heap.size + 1, 1, none⟩ = some (.slice A1 zs.length c1) ∧ w'.cell? ⟨w3.heap.size + 1, 2, none⟩ = some (.string s)) ∧ (w'.cell? ⟨w3.heap.size + 1 + 1, 0, none⟩ = some (.int .i64 3) ∧ w'.cell? ⟨w3.heap.size + 1 + 1, 1, none⟩ = some (.slice A1 zs.length c1) ∧ w'.cell? ⟨w3.heap.size + 1 + 1, 2, none⟩ = some (.string s)))
          (go_keep)
          (first
            | (go_at_call_of 18 (Value.agg #[Value.int .i64 1, Value.slice A1 zs.length c1, Value.string s]); go_must (refine (implObjectValid_val false _ A1 c1 1 zs s _ V1.out (by exact sd.2.2.2.2.1) (Nat.le_refl _) hm hs').mono ?_); rintro e wa ⟨rfl, hba⟩; have sa := sd.below hba; obtain ⟨⟨a31, a32⟩, ⟨a60, a61, a62⟩, ⟨a70, a71, a72⟩, a80, a81, a82⟩ := sa.reads)
            | (go_at_call_of 18 (Value.agg #[Value.int .i64 2, Value.slice A1 zs.length c1, Value.string s]); go_must (refine (implObjectValid_val true _ A1 c1 2 zs s _ V2.out (by exact sa.2.2.2.2.1) (Nat.le_refl _) hm hs').mono ?_); rintro e wb ⟨rfl, hbb⟩; have sb := sa.below hbb; obtain ⟨⟨b31, b32⟩, ⟨b60, b61, b62⟩, ⟨b70, b71, b72⟩, b80, b81, b82⟩ := sb.reads)
            | (go_at_call_of 18 (Value.agg #[Value.int .i64 3, Value.slice A1 zs.length c1, Value.string s]); go_must (refine (implObjectValid_val true _ A1 c1 3 zs s _ V3.out (by exact sb.2.2.2.2.1) (Nat.le_refl _) hm hs').mono ?_); rintro e wc ⟨rfl, hbc⟩; have sc := sb.below hbc; obtain ⟨⟨c31, c32⟩, ⟨c60, c61, c62⟩, ⟨c70, c71, c72⟩, c80, c81, c82⟩ := sc.reads))
        go_wp2
        go_ret
        exact .mk_ sc.2.2.2.2.2
      · have e2 : s.toList.isEmpty = false := (emp_ s).trans (decide_eq_false es)
        have v2 := Q2.out.trans (decide_eq_false es)
        have V2 := hid v2
        clear v2 es
        go_region_held3 (fun w' => (w'.cell? ⟨w1.heap.size, 1, none⟩ = some (.slice A1 zs.length c1) ∧ w'.cell? ⟨w1.heap.size, 2, none⟩ = some (.string s)) ∧ (w'.cell? ⟨w3.heap.size, 0, none⟩ = some (.int .i64 1) ∧ w'.cell? ⟨w3.heap.size, 1, none⟩ = some (.slice A1 zs.length c1) ∧ w'.cell? ⟨w3.heap.size, 2, none⟩ = some (.string s)) ∧ (w'.cell? ⟨w3.heap.size + 1, 0, none⟩ = some (.int .i64 2) ∧ w'.cell? ⟨w3.heap.size + 1, 1, none⟩ = some (.slice A1 zs.length c1) ∧ w'.cell? ⟨w3.heap.size + 1, 2, none⟩ = some (.string s)) ∧ (w'.cell? ⟨w3.heap.size + 1 + 1, 0, none⟩ = some (.int .i64 3) ∧ w'.cell? ⟨w3.heap.size + 1 + 1, 1, none⟩ = some (.slice A1 zs.length c1) ∧ w'.cell? ⟨w3.heap.size + 1 + 1, 2, none⟩ = some (.string s)))
          (go_keep)
          (first
            | (go_at_call_of 18 (Value.agg #[Value.int .i64 1, Value.slice A1 zs.length c1, Value.string s]); go_must (refine (implObjectValid_val false _ A1 c1 1 zs s _ V1.out (by exact sd.2.2.2.2.1) (Nat.le_refl _) hm hs').mono ?_); rintro e wa ⟨rfl, hba⟩; have sa := sd.below hba; obtain ⟨⟨a31, a32⟩, ⟨a60, a61, a62⟩, ⟨a70, a71, a72⟩, a80, a81, a82⟩ := sa.reads)
            | (go_at_call_of 18 (Value.agg #[Value.int .i64 2, Value.slice A1 zs.length c1, Value.string s]); go_must (refine (implObjectValid_val false _ A1 c1 2 zs s _ V2.out (by exact sa.2.2.2.2.1) (Nat.le_refl _) hm hs').mono ?_); rintro e wb ⟨rfl, hbb⟩; have sb := sa.below hbb; obtain ⟨⟨b31, b32⟩, ⟨b60, b61, b62⟩, ⟨b70, b71, b72⟩, b80, b81, b82⟩ := sb.reads)
            | (go_at_call_of 18 (Value.agg #[Value.int .i64 3, Value.slice A1 zs.length c1, Value.string s]); go_must (refine (implObjectValid_val true _ A1 c1 3 zs s _ V3.out (by exact sb.2.2.2.2.1) (Nat.le_refl _) hm hs').mono ?_); rintro e wc ⟨rfl, hbc⟩; have sc := sb.below hbc; obtain ⟨⟨c31, c32⟩, ⟨c60, c61, c62⟩, ⟨c70, c71, c72⟩, c80, c81, c82⟩ := sc.reads))
        go_wp2
        go_ret
        exact .mk_ sc.2.2.2.2.2
theorem FnObjectKinds_any (A : Option Addr) (c : Nat) (bs : List Int) (w : World) (f1 : Row w w.heap.size A (bs.map (Value.int .u8))) (f2 : bs.length ≤ c) (f3 : c ≤ maxLen) (f4 : ∀ n ∈ bs, 0 ≤ n ∧ n < 256) :
    Calls Try.prog 8 #[.slice A bs.length c] w (Ret (.bool true) w) := by
  by_cases hl : bs.length ≤ 1048576
  · exact FnObjectKinds_yes A c bs w ⟨f1, f2, f3, f4⟩ hl
  · exact FnObjectKinds_no A c bs w ⟨f1, f2, f3, f4⟩ hl
end Go.Proofs.Ytglcnlinfojflaa
