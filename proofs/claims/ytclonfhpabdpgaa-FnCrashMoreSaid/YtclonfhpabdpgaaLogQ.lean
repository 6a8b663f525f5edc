/-
  Walk: a drawn disk.
-/
import Derived.Test.YtclonfhpabdpgaaLogE
import Derived.Test.YtclonfhpabdpgaaLogR
import Derived.Deep.RegionLaw
namespace Go.Proofs.Ytclonfhpabdpgaa
open Go.RowKit Wo Pu Lg

/-- A disk is being drawn: the result's block, the disk's block. -/
def Dst (R : Nat) (q : Int) (w : World) (s : ByteArray) (y : Int) (wx : World) : Prop :=
  Blk2 wx w.heap.size 32 (.string ⟨#[]⟩) (.int .i64 0) ∧ Blk2 wx (w.heap.size + 1) 32 (.string s) (.int .i64 y) ∧ Rd wx R q ∧ But R w wx
section
variable {R : Nat} {q q' : Int} {w wx w' : World} {s : ByteArray} {y : Int}
theorem Dst.but (h : Dst R q w s y wx) (hR : R < w.heap.size) (hb : But R wx w') (hr : Rd w' R q') : Dst R q' w s y w' := by
  obtain ⟨h1, h2, h3, h4⟩ := h
  exact ⟨h1.but hb (by omega), h2.but hb (by omega), hr, h4.trans hb⟩
theorem Dst.later (h : Dst R q w s y wx) (hR : R < w.heap.size) (hb : Below wx.heap.size wx w') : Dst R q w s y w' := by
  obtain ⟨h1, h2, h3, h4⟩ := h
  exact ⟨h1.later hb, h2.later hb, h3.below hb (Nat.lt_of_lt_of_le hR h4.size), h4.trans (.of_below hb)⟩
theorem Dst.alloc (h : Dst R q w s y wx) (hR : R < w.heap.size) (o : Obj) : Dst R q w s y (wx.alloc o) := h.later hR ((Below.refl _ _).alloc (Nat.le_refl _) o)
theorem Dst.put (h : Dst R q w s y wx) (hR : R < w.heap.size) (t : ByteArray) (z : Int) : Dst R q w t z ((wx.setCell ⟨w.heap.size + 1, 0, none⟩ (.string t)).setCell ⟨w.heap.size + 1, 1, none⟩ (.int .i64 z)) := by
  obtain ⟨h1, h2, h3, h4⟩ := h
  exact ⟨(h1.far (by simp) _).far (by simp) _, (h2.set0 _).set1 _, (h3.far (by omega) _ _).far (by omega) _ _, (h4.set_new (Nat.le_succ _) _ _).set_new (Nat.le_succ _) _ _⟩
theorem Dst.put0 (h : Dst R q w s y wx) (hR : R < w.heap.size) (t : ByteArray) : Dst R q w t y (wx.setCell ⟨w.heap.size + 1, 0, none⟩ (.string t)) := by
  obtain ⟨h1, h2, h3, h4⟩ := h
  exact ⟨h1.far (by simp) _, h2.set0 _, h3.far (by omega) _ _, h4.set_new (Nat.le_succ _) _ _⟩
theorem Dst.put1 (h : Dst R q w s y wx) (hR : R < w.heap.size) (z : Int) : Dst R q w s z (wx.setCell ⟨w.heap.size + 1, 1, none⟩ (.int .i64 z)) := by
  obtain ⟨h1, h2, h3, h4⟩ := h
  exact ⟨h1.far (by simp) _, h2.set1 _, h3.far (by omega) _ _, h4.set_new (Nat.le_succ _) _ _⟩
theorem Dst.reads (h : Dst R q w s y wx) : wx.cell? ⟨w.heap.size + 1, 0, none⟩ = some (.string s) ∧ wx.cell? ⟨w.heap.size + 1, 1, none⟩ = some (.int .i64 y) ∧
    wx.frozen? ⟨w.heap.size + 1, 0, none⟩ = false ∧ wx.frozen? ⟨w.heap.size + 1, 1, none⟩ = false := by
  obtain ⟨b0, b1, bf⟩ := h.2.1.reads
  exact ⟨b0, b1, bf 0, bf 1⟩
theorem Dst.rd_drew (h : Dst R q w s y wx) : Rd wx.drew R q := h.2.2.1
theorem Dst.new_ (hr : Rd w R q) (hR : R < w.heap.size) : Dst R q w ⟨#[]⟩ 0 ((w.alloc (.cells #[.string ⟨#[]⟩, .int .i64 0] 32)).alloc (.cells #[.string ⟨#[]⟩, .int .i64 0] 32)) := by
  have b1 := (Below.refl w.heap.size w).alloc (Nat.le_refl _) (.cells #[.string ⟨#[]⟩, .int .i64 0] 32)
  have b2 := b1.alloc (by simp) (.cells #[.string ⟨#[]⟩, .int .i64 0] 32)
  refine ⟨(Blk2.new_ w _ _ _).alloc _, ?_, hr.below b2 hR, .of_below b2⟩
  have := Blk2.new_ (w.alloc (.cells #[.string ⟨#[]⟩, .int .i64 0] 32)) 32 (.string ⟨#[]⟩) (.int .i64 0)
  rwa [World.size_alloc] at this
end
theorem apO_form (s : ByteArray) (y : Int) (r : ByteArray) : ∃ t z b, apO s y r = .tuple #[.agg #[.string t, .int .i64 z], .bool b] ∧ (Vd s y → b = true → Vd t z) := by
  unfold apO
  split
  · rename_i h
    obtain ⟨h1, h2⟩ := h
    split
    · rename_i h9
      refine ⟨_, _, _, rfl, fun hv _ => ?_⟩
      unfold Vd at *
      have e : (s ++ mk (fr (bl r))).size = s.size + (r.size + 2) := by rw [ByteArray.size_append, mk_size, fr_length, bl_size]
      rw [e]
      omega
    · exact ⟨_, _, _, rfl, fun _ h => by cases h⟩
  · exact ⟨_, _, _, rfl, fun _ h => by cases h⟩

/-- A disk has been drawn. -/
def DiskDrawn (R : Nat) (q : Int) (w : World) (e : Ending) (w' : World) : Prop := ∃ s y, e = .returned (.agg #[.string s, .int .i64 y]) ∧ s.size ≤ 120 ∧ -1 ≤ y ∧ y ≤ 128 ∧ Rd w' R (q + 2000) ∧ But R w w'

/-- Behind a drawn record: the disk that is being drawn, and the disk that LogAppend answers, in block g. -/
def Fin (R : Nat) (q : Int) (w : World) (s : ByteArray) (y : Int) (g : Nat) (t : ByteArray) (z : Int) (W : World) : Prop := Dst R q w s y W ∧ Blk2 W g 32 (.string t) (.int .i64 z)
theorem fin_last {R : Nat} {q : Int} {w wx : World} {s : ByteArray} {y : Int} (h : Dst R q w s y wx) (hR : R < w.heap.size) (t : ByteArray) (z : Int) : Fin R q w s y wx.heap.size t z (wx.alloc (.cells #[.string t, .int .i64 z] 32)) :=
  ⟨h.alloc hR _, Blk2.new_ _ _ _ _⟩
theorem fin_set {R : Nat} {q : Int} {w wx : World} {s : ByteArray} {y : Int} {g : Nat} {v0 v1 : Value} (h : Dst R q w s y wx) (hR : R < w.heap.size) (hg : Blk2 wx g 32 v0 v1) (hn : g ≠ w.heap.size + 1) (hl : w.heap.size ≤ g) (hl2 : g ≠ w.heap.size) (t : ByteArray) (z : Int) :
    Fin R q w s y g t z ((wx.setCell ⟨g, 0, none⟩ (.string t)).setCell ⟨g, 1, none⟩ (.int .i64 z)) := by
  obtain ⟨h1, h2, h3, h4⟩ := h
  exact ⟨⟨(h1.far (by simpa using fun e => hl2 e.symm) _).far (by simpa using fun e => hl2 e.symm) _, (h2.far (by simpa using fun e => hn e.symm) _).far (by simpa using fun e => hn e.symm) _, (h3.far (by omega) _ _).far (by omega) _ _, (h4.set_new hl _ _).set_new hl _ _⟩, (hg.set0 _).set1 _⟩
theorem but_drew {R : Nat} {a b : World} (h : But R a.drew b) : But R a b := ⟨h.os, h.tape, h.output, h.size, h.block⟩
theorem below_drew {C : Nat} {a b : World} (h : Below C a.drew b) : Below C a b := ⟨h.os, h.tape, h.output, h.size, h.block⟩
theorem Dst.more {R : Nat} {q q' : Int} {w wx : World} {s : ByteArray} {y : Int} (h : Dst R q w s y wx) (hq : q ≤ q') : Dst R q' w s y wx := ⟨h.1, h.2.1, h.2.2.1.more hq, h.2.2.2⟩
theorem vd_sync {s : ByteArray} {y : Int} (h : Vd s y) : Vd s (s.size : Nat) := by unfold Vd at *; omega
theorem specLogSync_agg (s : ByteArray) (y : Int) (w : World) (h : Vd s y) : Calls Try.prog 29 #[.agg #[.string s, .int .i64 y]] w (Ret (.agg #[.string s, .int .i64 (s.size : Nat)]) w) := specLogSync_yes s y w h
theorem Dst.res {R : Nat} {q : Int} {w wx : World} {s : ByteArray} {y : Int} (h : Dst R q w s y wx) (hR : R < w.heap.size) (t : ByteArray) (z : Int) :
    Blk2 ((wx.setCell ⟨w.heap.size, 0, none⟩ (.string t)).setCell ⟨w.heap.size, 1, none⟩ (.int .i64 z)) w.heap.size 32 (.string t) (.int .i64 z) ∧
      Rd ((wx.setCell ⟨w.heap.size, 0, none⟩ (.string t)).setCell ⟨w.heap.size, 1, none⟩ (.int .i64 z)) R q ∧ But R w ((wx.setCell ⟨w.heap.size, 0, none⟩ (.string t)).setCell ⟨w.heap.size, 1, none⟩ (.int .i64 z)) := by
  obtain ⟨h1, h2, h3, h4⟩ := h
  exact ⟨(h1.set0 _).set1 _, (h3.far hR _ _).far hR _ _, (h4.set_new (Nat.le_refl _) _ _).set_new (Nat.le_refl _) _ _⟩
set_option maxRecDepth 100000 in
set_option maxHeartbeats 8000000 in
theorem l91Disk_any (R : Nat) (q : Int) (w : World) (hR : Rd w R q) (hq : q ≤ 800000000) :
    Calls Try.prog 42 #[.pointer (some ⟨R, 0, none⟩)] w (DiskDrawn R q w) := by
  have hRl := hR.lt
  have D0 := Dst.new_ hR hRl
  go_enter Try.func42, Try.ntmps42
  go_wp2_with fail
  refine (pick_any R q 8 _ D0.2.2.1 (by omega) (by omega) (by omega)).mono ?_
  rintro e w1 ⟨n1, rfl, a0, a1, hR1, hT1⟩
  have D1 := D0.but hRl hT1 hR1
  clear D0 hR1 hT1
  go_wp2_with fail
  refine (pick_any R (q + 1) 8 w1 D1.2.2.1 (by omega) (by omega) (by omega)).mono ?_
  rintro e w2 ⟨n2, rfl, b0, b1, hR2, hT2⟩
  have D2 := D1.but hRl hT2 hR2
  clear D1 hR2 hT2
  by_cases h0 : n2 = 0
  · have e0 : (n2 == 0) = true := by rw [h0]; rfl
    clear h0
    go_wp2_with fail
    go_loopw [5] (fun i wr => ∃ (k : Nat) (s : ByteArray) (y : Int), (k : Int) ≤ (30 : Int) ∧ i = .int .i64 k ∧ Hid (Vd s y) ∧ Dst R (q + 1 + 1 + 31 * k) w s y wr) (fun i _ => ((30 : Int)).toNat - (intOf i).toNat)
    case atStart => exact ⟨0, ⟨#[]⟩, 0, by omega, rfl, (by decide : Vd ⟨#[]⟩ 0), by simpa using D2⟩
    case round =>
      clear D2
      obtain ⟨k, s, y, hk, rfl, HV, D⟩ := hrel
      by_cases hlt : (k : Int) < (30 : Int)
      · have hsm : s.size ≤ maxLen := by have := HV.out.1; unfold maxLen; omega
        obtain ⟨d0, d1, d2, d3⟩ := D.reads
        go_wp2_with fail
        have hz0 := D.2.2.2.size
        have m0 : wr.heap.size ≠ w.heap.size := fun e => by have := D.1.lt; omega
        have n0 : wr.heap.size ≠ w.heap.size + 1 := fun e => by have := D.2.1.lt; omega
        obtain ⟨h0, h1, -, -⟩ := (D.alloc hRl (.cells #[.string ⟨#[]⟩, .int .i64 0] 32)).reads
        go_region_held3 (fun w' => w'.cell? ⟨w.heap.size + 1, 0, none⟩ = some (.string s) ∧ w'.cell? ⟨w.heap.size + 1, 1, none⟩ = some (.int .i64 y)) (simp [*, go_sem])
          (first
            | (go_at_call 34; (with_reducible refine (l91Record_any R _ wr.drew D.rd_drew (by omega)).mono ?_); rintro e w5 ⟨r, rfl, hr, hR5, hT5⟩; have D5 := D.but hRl (but_drew hT5) hR5; have X5 := True.intro; obtain ⟨f0, f1, f2, f3⟩ := D5.reads; have hz5 := D5.2.2.2.size; have m5 : w5.heap.size ≠ w.heap.size := (fun e => by have := D5.1.lt; omega); have n5 : w5.heap.size ≠ w.heap.size + 1 := (fun e => by have := D5.2.1.lt; omega); obtain ⟨j0, j1, -, -⟩ := (D5.alloc hRl (.cells #[.string ⟨#[]⟩, .int .i64 0] 32)).reads; have hrm : r.size ≤ maxLen := (by unfold maxLen; omega); obtain ⟨t, z, b, hA, hV⟩ := apO_form s y r; have c1 : ∀ W, Calls Try.prog 24 #[.agg #[.string s, .int .i64 y], .string r] W (Ret (apO s y r) W) := fun W => specLogAppend_any s y r W hsm hrm; rw [hA] at c1; have C1 := hid c1; have HV2 := hid (hV HV.out); clear c1 hA hV)
            | (go_at_call 34; (with_reducible refine (l91Record_any R _ (wr.alloc (.cells #[.string ⟨#[]⟩, .int .i64 0] 32)).drew (D.alloc hRl _).rd_drew (by omega)).mono ?_); rintro e w5 ⟨r, rfl, hr, hR5, hT5⟩; have D5 := (D.alloc hRl _).but hRl (but_drew hT5) hR5; have X5 := (Blk2.new_ wr 32 (.string ⟨#[]⟩) (.int .i64 0)).but (but_drew hT5) (by omega); obtain ⟨f0, f1, f2, f3⟩ := D5.reads; have hz5 := D5.2.2.2.size; have m5 : w5.heap.size ≠ w.heap.size := (fun e => by have := D5.1.lt; omega); have n5 : w5.heap.size ≠ w.heap.size + 1 := (fun e => by have := D5.2.1.lt; omega); obtain ⟨j0, j1, -, -⟩ := (D5.alloc hRl (.cells #[.string ⟨#[]⟩, .int .i64 0] 32)).reads; have hrm : r.size ≤ maxLen := (by unfold maxLen; omega); obtain ⟨t, z, b, hA, hV⟩ := apO_form s y r; have c1 : ∀ W, Calls Try.prog 24 #[.agg #[.string s, .int .i64 y], .string r] W (Ret (apO s y r) W) := fun W => specLogAppend_any s y r W hsm hrm; rw [hA] at c1; have C1 := hid c1; have HV2 := hid (hV HV.out); clear c1 hA hV)
            | (go_at_call 24; (with_reducible refine (C1.out w5).mono ?_); rintro e w6 ⟨rfl, hb6⟩; have D6 := D5.later hRl hb6; obtain ⟨g0, g1, g2, g3⟩ := D6.reads; obtain ⟨h0, h1, -, -⟩ := (D6.alloc hRl (.cells #[.string ⟨#[]⟩, .int .i64 0] 32)).reads; obtain ⟨i0, i1, -, -⟩ := (D6.alloc hRl (.cells #[.string t, .int .i64 z] 32)).reads; (first | (have X6 := Blk2.later X5 hb6; obtain ⟨l0, l1, lf⟩ := id X6.reads; have lf0 := lf 0; have lf1 := lf 1; clear lf; have F9 := fin_set D6 hRl X6 n0 hz0 m0 t z) | (have F9 := fin_last D6 hRl t z)))
            | (go_at_call 24; (with_reducible refine (C1.out (w5.alloc (.cells #[.string ⟨#[]⟩, .int .i64 0] 32))).mono ?_); rintro e w6 ⟨rfl, hb6⟩; have D6 := (D5.alloc hRl _).later hRl hb6; obtain ⟨g0, g1, g2, g3⟩ := D6.reads; have X6 := (Blk2.new_ w5 32 (.string ⟨#[]⟩) (.int .i64 0)).later hb6; obtain ⟨l0, l1, lf⟩ := id X6.reads; have lf0 := lf 0; have lf1 := lf 1; clear lf; have F9 := fin_set D6 hRl X6 n5 hz5 m5 t z))
        all_goals
          obtain ⟨W9, hW9, D9, X9⟩ : ∃ W9, _ = W9 ∧ Fin R _ w s y _ t z W9 := ⟨_, rfl, F9⟩
          simp only [hW9]
          clear hW9 F9 D D5 C1 h0 h1 d0 d1 d2 d3
          obtain ⟨y0, y1, y2, y3⟩ := D9.reads
          obtain ⟨x0, x1, -⟩ := X9.reads
          cases b
          · clear HV2
            go_wp2_with fail
            refine (pick_any R _ 3 _ D9.2.2.1 (by omega) (by omega) (by omega)).mono ?_
            rintro e w11 ⟨x, rfl, p0, p1, R11, T11⟩
            have D11 := D9.but hRl T11 R11
            clear R11 T11
            by_cases hx : x = 0
            · have e9 : (x == 0) = true := by rw [hx]; rfl
              clear hx
              obtain ⟨m0, m1, m2, m3⟩ := D11.reads
              go_wp2_with fail
              refine (specLogSync_agg s y _ HV.out).mono ?_
              rintro e w12 ⟨rfl, hb12⟩
              have D12 := D11.later hRl hb12
              obtain ⟨m0, m1, m2, m3⟩ := D12.reads
              have D13 := (D12.put hRl s (s.size : Nat)).more (q' := q + 1 + 1 + 31 * ((k + 1 : Nat) : Int)) (by omega)
              have HW := hid (vd_sync HV.out)
              go_wp2_with fail
              go_roundw
              case rel => exact ⟨k + 1, s, (s.size : Nat), by omega, by go_num, HW, D13⟩
              case measure => simp [intOf]; omega
            · have e9 : (x == 0) = false := by rw [beq_eq_false_iff_ne]; exact hx
              clear hx
              have D13 := D11.more (q' := q + 1 + 1 + 31 * ((k + 1 : Nat) : Int)) (by omega)
              go_wp2_with fail
              go_roundw
              case rel => exact ⟨k + 1, s, y, by omega, by go_num, HV, D13⟩
              case measure => simp [intOf]; omega
          · have HT : Hid (Vd t z) := HV2.out rfl
            have D10 := D9.put hRl t z
            go_wp2_with fail
            refine (pick_any R _ 3 _ D10.2.2.1 (by omega) (by omega) (by omega)).mono ?_
            rintro e w11 ⟨x, rfl, p0, p1, R11, T11⟩
            have D11 := D10.but hRl T11 R11
            clear R11 T11
            by_cases hx : x = 0
            · have e9 : (x == 0) = true := by rw [hx]; rfl
              clear hx
              obtain ⟨m0, m1, m2, m3⟩ := D11.reads
              go_wp2_with fail
              refine (specLogSync_agg t z _ HT.out).mono ?_
              rintro e w12 ⟨rfl, hb12⟩
              have D12 := D11.later hRl hb12
              obtain ⟨m0, m1, m2, m3⟩ := D12.reads
              have D13 := (D12.put hRl t (t.size : Nat)).more (q' := q + 1 + 1 + 31 * ((k + 1 : Nat) : Int)) (by omega)
              have HW := hid (vd_sync HT.out)
              go_wp2_with fail
              go_roundw
              case rel => exact ⟨k + 1, t, (t.size : Nat), by omega, by go_num, HW, D13⟩
              case measure => simp [intOf]; omega
            · have e9 : (x == 0) = false := by rw [beq_eq_false_iff_ne]; exact hx
              clear hx
              have D13 := D11.more (q' := q + 1 + 1 + 31 * ((k + 1 : Nat) : Int)) (by omega)
              go_wp2_with fail
              go_roundw
              case rel => exact ⟨k + 1, t, z, by omega, by go_num, HT, D13⟩
              case measure => simp [intOf]; omega
      ·
        have D1 := D.more (q' := q + 1000) (by omega)
        obtain ⟨v1, v2, v3⟩ := HV.out
        clear D HV
        go_wp2_with fail
        refine (pick_any R (q + 1000) 16 wr D1.2.2.1 (by omega) (by omega) (by omega)).mono ?_
        rintro e w3 ⟨p, rfl, p0, p1, R3, T3⟩
        have D3 := D1.but hRl T3 R3
        clear D1 R3 T3
        by_cases hp : p = 0
        · have e9 : (p == 0) = true := by rw [hp]; rfl
          clear hp
          obtain ⟨y0, y1, y2, y3⟩ := D3.reads
          by_cases h120 : s.size < 120
          · have ez : decide ((s.size : Int) < 120) = true := by simp; omega
            have ez' : decide (s.size < 120) = true := by simp; omega
            go_wp2_with fail
            go_region_law
              (first
                | (go_simp; go_at_call 43; (with_reducible refine (pick_any R _ 16 w3.drew D3.rd_drew (by omega) (by omega) (by omega)).mono ?_); rintro e w5 ⟨x, rfl, x0, x1, hR5, hT5⟩; have D5 := D3.but hRl (but_drew hT5) hR5; obtain ⟨f0, f1, f2, f3⟩ := D5.reads; have hxb : x = ((UInt8.ofNat x.toNat).toNat : Int) := byte_nat x0 (by omega); have cv := conv_at x (UInt8.ofNat x.toNat) hxb; have hw := (by rw [IntKind.wrap_u8]; omega : IntKind.u8.wrap x = x); obtain ⟨j0, j1, j2, j3⟩ := (D5.alloc hRl (.cells #[.int .u8 x] 5)).reads; have hz9 := app_sz s (UInt8.ofNat x.toNat); obtain ⟨T, hTT⟩ : ∃ T, mk [UInt8.ofNat x.toNat] = T := ⟨_, rfl⟩; have z1 : T.size = 1 := (by rw [← hTT]; rfl); rw [hTT] at cv hz9; have HZ := (by omega : (s ++ T).size ≤ 120); have hsz := (by omega : ¬ 9223372036854775807 < s.size + 1); clear hxb hTT hz9))
            all_goals
              have D7 := (D5.alloc hRl (.cells #[.int .u8 x] 5)).put0 hRl (s ++ T)
              clear cv hw j0 j1 j2 j3 z1 hsz y0 y1 y2 y3 f0 f1 f2 f3
              obtain ⟨m0, m1, m2, m3⟩ := D7.reads
              obtain ⟨b0', b1', bf⟩ := D7.1.reads
              have bf0 := bf 0
              have bf1 := bf 1
              clear bf
              obtain ⟨tp, tr, tb⟩ := D7.res hRl (s ++ T) y
              obtain ⟨c0, c1, -⟩ := tp.reads
              go_wp2_with fail
              exact bodyPost_ret (v := .agg #[.string (s ++ T), .int .i64 y]) (by simp [results, Try.results42, go_sem, c0, c1]) rfl ⟨(s ++ T), y, rfl, by omega, by omega, by omega, tr.more (by omega), tb⟩
          · have ez : decide ((s.size : Int) < 120) = false := by simp; omega
            have ez' : decide (s.size < 120) = false := by simp; omega
            obtain ⟨m0, m1, m2, m3⟩ := D3.reads
            obtain ⟨b0', b1', bf⟩ := D3.1.reads
            have bf0 := bf 0
            have bf1 := bf 1
            clear bf
            obtain ⟨tp, tr, tb⟩ := D3.res hRl s y
            obtain ⟨c0, c1, -⟩ := tp.reads
            go_wp2_with fail
            exact bodyPost_ret (v := .agg #[.string s, .int .i64 y]) (by simp [results, Try.results42, go_sem, c0, c1]) rfl ⟨s, y, rfl, by omega, by omega, by omega, tr.more (by omega), tb⟩
        · have e9 : (p == 0) = false := by rw [beq_eq_false_iff_ne]; exact hp
          by_cases hp1 : p = 1
          · have e8 : (p == 1) = true := by rw [hp1]; rfl
            clear hp hp1
            obtain ⟨y0, y1, y2, y3⟩ := D3.reads
            go_wp2_with fail
            refine (pick_any R _ 130 w3 D3.2.2.1 (by omega) (by omega) (by omega)).mono ?_
            rintro e w4 ⟨x, rfl, x0, x1, R4, T4⟩
            have D4 := D3.but hRl T4 R4
            clear y0 y1 y2 y3 R4 T4
            obtain ⟨y0, y1, y2, y3⟩ := D4.reads
            have D5 := D4.put1 hRl (x - 1)
            obtain ⟨m0, m1, m2, m3⟩ := D5.reads
            obtain ⟨b0', b1', bf⟩ := D5.1.reads
            have bf0 := bf 0
            have bf1 := bf 1
            clear bf
            obtain ⟨tp, tr, tb⟩ := D5.res hRl s (x - 1)
            obtain ⟨c0, c1, -⟩ := tp.reads
            go_wp2_with fail
            exact bodyPost_ret (v := .agg #[.string s, .int .i64 (x - 1)]) (by simp [results, Try.results42, go_sem, c0, c1]) rfl ⟨s, (x - 1), rfl, by omega, by omega, by omega, tr.more (by omega), tb⟩
          · have e8 : (p == 1) = false := by rw [beq_eq_false_iff_ne]; exact hp1
            clear hp hp1
            obtain ⟨m0, m1, m2, m3⟩ := D3.reads
            obtain ⟨b0', b1', bf⟩ := D3.1.reads
            have bf0 := bf 0
            have bf1 := bf 1
            clear bf
            obtain ⟨tp, tr, tb⟩ := D3.res hRl s y
            obtain ⟨c0, c1, -⟩ := tp.reads
            go_wp2_with fail
            exact bodyPost_ret (v := .agg #[.string s, .int .i64 y]) (by simp [results, Try.results42, go_sem, c0, c1]) rfl ⟨s, y, rfl, by omega, by omega, by omega, tr.more (by omega), tb⟩
  · have e0 : (n2 == 0) = false := by rw [beq_eq_false_iff_ne]; exact h0
    clear h0
    go_wp2_with fail
    go_loopw [5] (fun i wr => ∃ (k : Nat) (s : ByteArray) (y : Int), (k : Int) ≤ n1 ∧ i = .int .i64 k ∧ Hid (Vd s y) ∧ Dst R (q + 1 + 1 + 31 * k) w s y wr) (fun i _ => (n1).toNat - (intOf i).toNat)
    case atStart => exact ⟨0, ⟨#[]⟩, 0, by omega, rfl, (by decide : Vd ⟨#[]⟩ 0), by simpa using D2⟩
    case round =>
      clear D2
      obtain ⟨k, s, y, hk, rfl, HV, D⟩ := hrel
      by_cases hlt : (k : Int) < n1
      · have hsm : s.size ≤ maxLen := by have := HV.out.1; unfold maxLen; omega
        obtain ⟨d0, d1, d2, d3⟩ := D.reads
        go_wp2_with fail
        have hz0 := D.2.2.2.size
        have m0 : wr.heap.size ≠ w.heap.size := fun e => by have := D.1.lt; omega
        have n0 : wr.heap.size ≠ w.heap.size + 1 := fun e => by have := D.2.1.lt; omega
        obtain ⟨h0, h1, -, -⟩ := (D.alloc hRl (.cells #[.string ⟨#[]⟩, .int .i64 0] 32)).reads
        go_region_held3 (fun w' => w'.cell? ⟨w.heap.size + 1, 0, none⟩ = some (.string s) ∧ w'.cell? ⟨w.heap.size + 1, 1, none⟩ = some (.int .i64 y)) (simp [*, go_sem])
          (first
            | (go_at_call 34; (with_reducible refine (l91Record_any R _ wr.drew D.rd_drew (by omega)).mono ?_); rintro e w5 ⟨r, rfl, hr, hR5, hT5⟩; have D5 := D.but hRl (but_drew hT5) hR5; have X5 := True.intro; obtain ⟨f0, f1, f2, f3⟩ := D5.reads; have hz5 := D5.2.2.2.size; have m5 : w5.heap.size ≠ w.heap.size := (fun e => by have := D5.1.lt; omega); have n5 : w5.heap.size ≠ w.heap.size + 1 := (fun e => by have := D5.2.1.lt; omega); obtain ⟨j0, j1, -, -⟩ := (D5.alloc hRl (.cells #[.string ⟨#[]⟩, .int .i64 0] 32)).reads; have hrm : r.size ≤ maxLen := (by unfold maxLen; omega); obtain ⟨t, z, b, hA, hV⟩ := apO_form s y r; have c1 : ∀ W, Calls Try.prog 24 #[.agg #[.string s, .int .i64 y], .string r] W (Ret (apO s y r) W) := fun W => specLogAppend_any s y r W hsm hrm; rw [hA] at c1; have C1 := hid c1; have HV2 := hid (hV HV.out); clear c1 hA hV)
            | (go_at_call 34; (with_reducible refine (l91Record_any R _ (wr.alloc (.cells #[.string ⟨#[]⟩, .int .i64 0] 32)).drew (D.alloc hRl _).rd_drew (by omega)).mono ?_); rintro e w5 ⟨r, rfl, hr, hR5, hT5⟩; have D5 := (D.alloc hRl _).but hRl (but_drew hT5) hR5; have X5 := (Blk2.new_ wr 32 (.string ⟨#[]⟩) (.int .i64 0)).but (but_drew hT5) (by omega); obtain ⟨f0, f1, f2, f3⟩ := D5.reads; have hz5 := D5.2.2.2.size; have m5 : w5.heap.size ≠ w.heap.size := (fun e => by have := D5.1.lt; omega); have n5 : w5.heap.size ≠ w.heap.size + 1 := (fun e => by have := D5.2.1.lt; omega); obtain ⟨j0, j1, -, -⟩ := (D5.alloc hRl (.cells #[.string ⟨#[]⟩, .int .i64 0] 32)).reads; have hrm : r.size ≤ maxLen := (by unfold maxLen; omega); obtain ⟨t, z, b, hA, hV⟩ := apO_form s y r; have c1 : ∀ W, Calls Try.prog 24 #[.agg #[.string s, .int .i64 y], .string r] W (Ret (apO s y r) W) := fun W => specLogAppend_any s y r W hsm hrm; rw [hA] at c1; have C1 := hid c1; have HV2 := hid (hV HV.out); clear c1 hA hV)
            | (go_at_call 24; (with_reducible refine (C1.out w5).mono ?_); rintro e w6 ⟨rfl, hb6⟩; have D6 := D5.later hRl hb6; obtain ⟨g0, g1, g2, g3⟩ := D6.reads; obtain ⟨h0, h1, -, -⟩ := (D6.alloc hRl (.cells #[.string ⟨#[]⟩, .int .i64 0] 32)).reads; obtain ⟨i0, i1, -, -⟩ := (D6.alloc hRl (.cells #[.string t, .int .i64 z] 32)).reads; (first | (have X6 := Blk2.later X5 hb6; obtain ⟨l0, l1, lf⟩ := id X6.reads; have lf0 := lf 0; have lf1 := lf 1; clear lf; have F9 := fin_set D6 hRl X6 n0 hz0 m0 t z) | (have F9 := fin_last D6 hRl t z)))
            | (go_at_call 24; (with_reducible refine (C1.out (w5.alloc (.cells #[.string ⟨#[]⟩, .int .i64 0] 32))).mono ?_); rintro e w6 ⟨rfl, hb6⟩; have D6 := (D5.alloc hRl _).later hRl hb6; obtain ⟨g0, g1, g2, g3⟩ := D6.reads; have X6 := (Blk2.new_ w5 32 (.string ⟨#[]⟩) (.int .i64 0)).later hb6; obtain ⟨l0, l1, lf⟩ := id X6.reads; have lf0 := lf 0; have lf1 := lf 1; clear lf; have F9 := fin_set D6 hRl X6 n5 hz5 m5 t z))
        all_goals
          obtain ⟨W9, hW9, D9, X9⟩ : ∃ W9, _ = W9 ∧ Fin R _ w s y _ t z W9 := ⟨_, rfl, F9⟩
          simp only [hW9]
          clear hW9 F9 D D5 C1 h0 h1 d0 d1 d2 d3
          obtain ⟨y0, y1, y2, y3⟩ := D9.reads
          obtain ⟨x0, x1, -⟩ := X9.reads
          cases b
          · clear HV2
            go_wp2_with fail
            refine (pick_any R _ 3 _ D9.2.2.1 (by omega) (by omega) (by omega)).mono ?_
            rintro e w11 ⟨x, rfl, p0, p1, R11, T11⟩
            have D11 := D9.but hRl T11 R11
            clear R11 T11
            by_cases hx : x = 0
            · have e9 : (x == 0) = true := by rw [hx]; rfl
              clear hx
              obtain ⟨m0, m1, m2, m3⟩ := D11.reads
              go_wp2_with fail
              refine (specLogSync_agg s y _ HV.out).mono ?_
              rintro e w12 ⟨rfl, hb12⟩
              have D12 := D11.later hRl hb12
              obtain ⟨m0, m1, m2, m3⟩ := D12.reads
              have D13 := (D12.put hRl s (s.size : Nat)).more (q' := q + 1 + 1 + 31 * ((k + 1 : Nat) : Int)) (by omega)
              have HW := hid (vd_sync HV.out)
              go_wp2_with fail
              go_roundw
              case rel => exact ⟨k + 1, s, (s.size : Nat), by omega, by go_num, HW, D13⟩
              case measure => simp [intOf]; omega
            · have e9 : (x == 0) = false := by rw [beq_eq_false_iff_ne]; exact hx
              clear hx
              have D13 := D11.more (q' := q + 1 + 1 + 31 * ((k + 1 : Nat) : Int)) (by omega)
              go_wp2_with fail
              go_roundw
              case rel => exact ⟨k + 1, s, y, by omega, by go_num, HV, D13⟩
              case measure => simp [intOf]; omega
          · have HT : Hid (Vd t z) := HV2.out rfl
            have D10 := D9.put hRl t z
            go_wp2_with fail
            refine (pick_any R _ 3 _ D10.2.2.1 (by omega) (by omega) (by omega)).mono ?_
            rintro e w11 ⟨x, rfl, p0, p1, R11, T11⟩
            have D11 := D10.but hRl T11 R11
            clear R11 T11
            by_cases hx : x = 0
            · have e9 : (x == 0) = true := by rw [hx]; rfl
              clear hx
              obtain ⟨m0, m1, m2, m3⟩ := D11.reads
              go_wp2_with fail
              refine (specLogSync_agg t z _ HT.out).mono ?_
              rintro e w12 ⟨rfl, hb12⟩
              have D12 := D11.later hRl hb12
              obtain ⟨m0, m1, m2, m3⟩ := D12.reads
              have D13 := (D12.put hRl t (t.size : Nat)).more (q' := q + 1 + 1 + 31 * ((k + 1 : Nat) : Int)) (by omega)
              have HW := hid (vd_sync HT.out)
              go_wp2_with fail
              go_roundw
              case rel => exact ⟨k + 1, t, (t.size : Nat), by omega, by go_num, HW, D13⟩
              case measure => simp [intOf]; omega
            · have e9 : (x == 0) = false := by rw [beq_eq_false_iff_ne]; exact hx
              clear hx
              have D13 := D11.more (q' := q + 1 + 1 + 31 * ((k + 1 : Nat) : Int)) (by omega)
              go_wp2_with fail
              go_roundw
              case rel => exact ⟨k + 1, t, z, by omega, by go_num, HT, D13⟩
              case measure => simp [intOf]; omega
      ·
        have D1 := D.more (q' := q + 1000) (by omega)
        obtain ⟨v1, v2, v3⟩ := HV.out
        clear D HV
        go_wp2_with fail
        refine (pick_any R (q + 1000) 16 wr D1.2.2.1 (by omega) (by omega) (by omega)).mono ?_
        rintro e w3 ⟨p, rfl, p0, p1, R3, T3⟩
        have D3 := D1.but hRl T3 R3
        clear D1 R3 T3
        by_cases hp : p = 0
        · have e9 : (p == 0) = true := by rw [hp]; rfl
          clear hp
          obtain ⟨y0, y1, y2, y3⟩ := D3.reads
          by_cases h120 : s.size < 120
          · have ez : decide ((s.size : Int) < 120) = true := by simp; omega
            have ez' : decide (s.size < 120) = true := by simp; omega
            go_wp2_with fail
            go_region_law
              (first
                | (go_simp; go_at_call 43; (with_reducible refine (pick_any R _ 16 w3.drew D3.rd_drew (by omega) (by omega) (by omega)).mono ?_); rintro e w5 ⟨x, rfl, x0, x1, hR5, hT5⟩; have D5 := D3.but hRl (but_drew hT5) hR5; obtain ⟨f0, f1, f2, f3⟩ := D5.reads; have hxb : x = ((UInt8.ofNat x.toNat).toNat : Int) := byte_nat x0 (by omega); have cv := conv_at x (UInt8.ofNat x.toNat) hxb; have hw := (by rw [IntKind.wrap_u8]; omega : IntKind.u8.wrap x = x); obtain ⟨j0, j1, j2, j3⟩ := (D5.alloc hRl (.cells #[.int .u8 x] 5)).reads; have hz9 := app_sz s (UInt8.ofNat x.toNat); obtain ⟨T, hTT⟩ : ∃ T, mk [UInt8.ofNat x.toNat] = T := ⟨_, rfl⟩; have z1 : T.size = 1 := (by rw [← hTT]; rfl); rw [hTT] at cv hz9; have HZ := (by omega : (s ++ T).size ≤ 120); have hsz := (by omega : ¬ 9223372036854775807 < s.size + 1); clear hxb hTT hz9))
            all_goals
              have D7 := (D5.alloc hRl (.cells #[.int .u8 x] 5)).put0 hRl (s ++ T)
              clear cv hw j0 j1 j2 j3 z1 hsz y0 y1 y2 y3 f0 f1 f2 f3
              obtain ⟨m0, m1, m2, m3⟩ := D7.reads
              obtain ⟨b0', b1', bf⟩ := D7.1.reads
              have bf0 := bf 0
              have bf1 := bf 1
              clear bf
              obtain ⟨tp, tr, tb⟩ := D7.res hRl (s ++ T) y
              obtain ⟨c0, c1, -⟩ := tp.reads
              go_wp2_with fail
              exact bodyPost_ret (v := .agg #[.string (s ++ T), .int .i64 y]) (by simp [results, Try.results42, go_sem, c0, c1]) rfl ⟨(s ++ T), y, rfl, by omega, by omega, by omega, tr.more (by omega), tb⟩
          · have ez : decide ((s.size : Int) < 120) = false := by simp; omega
            have ez' : decide (s.size < 120) = false := by simp; omega
            obtain ⟨m0, m1, m2, m3⟩ := D3.reads
            obtain ⟨b0', b1', bf⟩ := D3.1.reads
            have bf0 := bf 0
            have bf1 := bf 1
            clear bf
            obtain ⟨tp, tr, tb⟩ := D3.res hRl s y
            obtain ⟨c0, c1, -⟩ := tp.reads
            go_wp2_with fail
            exact bodyPost_ret (v := .agg #[.string s, .int .i64 y]) (by simp [results, Try.results42, go_sem, c0, c1]) rfl ⟨s, y, rfl, by omega, by omega, by omega, tr.more (by omega), tb⟩
        · have e9 : (p == 0) = false := by rw [beq_eq_false_iff_ne]; exact hp
          by_cases hp1 : p = 1
          · have e8 : (p == 1) = true := by rw [hp1]; rfl
            clear hp hp1
            obtain ⟨y0, y1, y2, y3⟩ := D3.reads
            go_wp2_with fail
            refine (pick_any R _ 130 w3 D3.2.2.1 (by omega) (by omega) (by omega)).mono ?_
            rintro e w4 ⟨x, rfl, x0, x1, R4, T4⟩
            have D4 := D3.but hRl T4 R4
            clear y0 y1 y2 y3 R4 T4
            obtain ⟨y0, y1, y2, y3⟩ := D4.reads
            have D5 := D4.put1 hRl (x - 1)
            obtain ⟨m0, m1, m2, m3⟩ := D5.reads
            obtain ⟨b0', b1', bf⟩ := D5.1.reads
            have bf0 := bf 0
            have bf1 := bf 1
            clear bf
            obtain ⟨tp, tr, tb⟩ := D5.res hRl s (x - 1)
            obtain ⟨c0, c1, -⟩ := tp.reads
            go_wp2_with fail
            exact bodyPost_ret (v := .agg #[.string s, .int .i64 (x - 1)]) (by simp [results, Try.results42, go_sem, c0, c1]) rfl ⟨s, (x - 1), rfl, by omega, by omega, by omega, tr.more (by omega), tb⟩
          · have e8 : (p == 1) = false := by rw [beq_eq_false_iff_ne]; exact hp1
            clear hp hp1
            obtain ⟨m0, m1, m2, m3⟩ := D3.reads
            obtain ⟨b0', b1', bf⟩ := D3.1.reads
            have bf0 := bf 0
            have bf1 := bf 1
            clear bf
            obtain ⟨tp, tr, tb⟩ := D3.res hRl s y
            obtain ⟨c0, c1, -⟩ := tp.reads
            go_wp2_with fail
            exact bodyPost_ret (v := .agg #[.string s, .int .i64 y]) (by simp [results, Try.results42, go_sem, c0, c1]) rfl ⟨s, y, rfl, by omega, by omega, by omega, tr.more (by omega), tb⟩
end Go.Proofs.Ytclonfhpabdpgaa
