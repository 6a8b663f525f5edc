/- The coordinator with the slices $SA and $SB is stored as the answer, with the word $BB. -/
/- Laws on coordinators: a coordinator is boxed. -/
/- On to the world behind D. -/
/- An exact law begins: the argument's box, its size, a copy for the model. -/
/- The program's own copy of the argument is boxed. -/
/- The program's copy is as the argument; the region draws. -/
/- Laws on functions that answer numbers. -/
/- What the boxes hold is read again. -/
/- The coordinator with the slices P4 and P5 is boxed as P6, in block P7, behind it the world P3; ahead of region P1. -/
/-
  Walks: comparisons of parts, transactions and coordinators by the laws' own helpers.
-/
import Derived.Test.YtelmeknpmlbplaaSizC
import Derived.Deep.Cut
namespace Go.Proofs.Ytelmeknpmlbplaa
open Go.RowKit Wo Pu Rf Co
set_option linter.unusedVariables false
set_option linter.unusedSimpArgs false

set_option maxHeartbeats 4000000 in
theorem eqPart_is (A A' : Option Addr) (c c' : Nat) (p : Part) (w : World) (B : Nat) (hr : Row w B A (upsV p.us)) (hr' : Row w B A' (upsV p.us)) (hB : B ≤ w.heap.size) (hm : p.us.length ≤ 1048576) :
    Calls Try.prog 84 #[.agg #[.int .i64 p.s, .slice A p.us.length c], .agg #[.int .i64 p.s, .slice A' p.us.length c']] w (Ret (.bool true) w) := by
  go_enter Try.func84, Try.ntmps84
  have al := ((Below.refl w.heap.size w).alloc (Nat.le_refl _) (.cells #[.int .i64 p.s, .slice A p.us.length c] 36)).alloc (by simp) (.cells #[.int .i64 p.s, .slice A' p.us.length c'] 36)
  have CU := hid (fun x (hx : Below w.heap.size w x) => eqUpdateS_same A A' c c' p.us x ((hr.below hx hB).more (Nat.le_trans hB hx.size)) ((hr'.below hx hB).more (Nat.le_trans hB hx.size)) hm)
  obtain ⟨w1, hw1⟩ : ∃ w1, (w.alloc (.cells #[.int .i64 p.s, .slice A p.us.length c] 36)).alloc (.cells #[.int .i64 p.s, .slice A' p.us.length c'] 36) = w1 := ⟨_, rfl⟩
  have x0 := (Blk2s.new_ w 36 (.int .i64 p.s) (.slice A p.us.length c)).alloc (.cells #[.int .i64 p.s, .slice A' p.us.length c'] 36)
  have x1 := Blk2s.new_ (w.alloc (.cells #[.int .i64 p.s, .slice A p.us.length c] 36)) 36 (.int .i64 p.s) (.slice A' p.us.length c')
  rw [World.size_alloc] at x1
  rw [hw1] at al x0 x1
  obtain ⟨y0, y1, -⟩ := id x0.reads
  obtain ⟨z0, z1, -⟩ := id x1.reads
  go_wp2_with fail
  refine (CU.out w1 al).mono ?_
  rintro e w2 ⟨rfl, d2⟩
  clear y0 y1 z0 z1 hw1
  go_wp2
  go_ret
  exact ⟨rfl, al.trans (d2.mono al.size)⟩
set_option maxRecDepth 100000 in
set_option maxHeartbeats 4000000 in
theorem eqPartS_is (A A' : Option Addr) (c c' : Nat) (ps : List Part) (w : World) (h : Parts w w.heap.size A ps) (h' : Parts w w.heap.size A' ps) (hm : ps.length ≤ 1048600) (hu : ∀ p ∈ ps, p.us.length ≤ 1048576) :
    Calls Try.prog 37 #[.slice A ps.length c, .slice A' ps.length c'] w (Ret (.bool true) w) := by
  have HU := hid hu
  clear hu
  go_enter Try.func37, Try.ntmps37
  go_wp2_with fail
  go_loopw [5] (fun i wr => ∃ k : Nat, k ≤ ps.length ∧ i = .int .i64 k ∧ Below w.heap.size w wr) (fun i _ => ps.length - (intOf i).toNat)
  case atStart => exact ⟨0, Nat.zero_le _, rfl, Below.refl _ _⟩
  case round =>
    obtain ⟨k, hk, rfl, hb⟩ := hrel
    have hz := hb.size
    by_cases hlt : k < ps.length
    · obtain ⟨p, ad, A1, c1, ho, rfl, ha, g0, g1, -, g3⟩ := (h.on hb).part hlt
      obtain ⟨p', ad', A2, c2, ho', rfl, ha', g0', g1', -, g3'⟩ := (h'.on hb).part hlt
      obtain rfl : p' = p := ho'.symm.trans ho
      have hul := HU.out p' (by rw [← ho]; exact List.getElem_mem hlt)
      have k0 : (0 : Int) ≤ (k : Int) := by omega
      have k1 : (k : Int) < (ps.length : Int) := by omega
      have L0 := Later.cell g0 ha
      have L1 := Later.cell (p := ⟨(ad.add (k * 2)).block, (ad.add (k * 2)).off + 1, none⟩) g1 ha
      have L2 := Later.cell g0' ha'
      have L3 := Later.cell (p := ⟨(ad'.add (k * 2)).block, (ad'.add (k * 2)).off + 1, none⟩) g1' ha'
      have CU : Hid (∀ x, wr.heap.size ≤ x.heap.size → Row x wr.heap.size A1 (upsV p'.us) → Row x wr.heap.size A2 (upsV p'.us) → Calls Try.prog 84 #[.agg #[.int .i64 p'.s, .slice A1 p'.us.length c1], .agg #[.int .i64 p'.s, .slice A2 p'.us.length c2]] x (Ret (.bool true) x)) := fun x hx r1 r2 => eqPart_is A1 A2 c1 c2 p' x wr.heap.size r1 r2 hx hul
      clear g0 g1 g0' g1' ho ho'
      go_wp2_with fail
      refine wp_region_later wr.heap.size (by kernel_rfl) (by kernel_rfl) ?_
      repeat (go_big_quiet_step ((go_at_call 84; exact Later.call (Nat.le_refl _) _ (CU.out _ (Later.size (Nat.le_refl _) _) (RowC.later g3 _) (RowC.later g3' _)))))
      refine wpQuiet_nil ?_
      intro _ hw'
      obtain ⟨xx, hxx⟩ := hw'
      have hbx := xx.b
      subst hxx
      go_wp2
      go_roundw
      case rel => exact ⟨k + 1, by omega, by go_num, hb.trans (hbx.mono hz)⟩
      case measure => simp [intOf]; omega
    · have hk' : k = ps.length := by omega
      subst hk'
      go_wp2
      go_ret
      exact .mk_ hb
set_option maxRecDepth 100000 in
set_option maxHeartbeats 4000000 in
theorem eqTxn_is (A A' B B' : Option Addr) (c c' e e' : Nat) (t : Tx) (w : World) (h : Parts w w.heap.size A t.ps) (h' : Parts w w.heap.size A' t.ps) (r : Row w w.heap.size B (ints t.vs)) (r' : Row w w.heap.size B' (ints t.vs)) (hm : t.ps.length ≤ 1048576) (hu : ∀ p ∈ t.ps, p.us.length ≤ 1048576) (hv : t.vs.length ≤ 1048576) :
    Calls Try.prog 104 #[.agg #[.slice A t.ps.length c, .slice B t.vs.length e, .int .i64 t.d], .agg #[.slice A' t.ps.length c', .slice B' t.vs.length e', .int .i64 t.d]] w (Ret (.bool true) w) := by
  have al := ((Below.refl w.heap.size w).alloc (Nat.le_refl _) (.cells #[.slice A t.ps.length c, .slice B t.vs.length e, .int .i64 t.d] 33)).alloc (by simp) (.cells #[.slice A' t.ps.length c', .slice B' t.vs.length e', .int .i64 t.d] 33)
  have x0 := (Blk3s.new_ w 33 (.slice A t.ps.length c) (.slice B t.vs.length e) (.int .i64 t.d)).alloc (.cells #[.slice A' t.ps.length c', .slice B' t.vs.length e', .int .i64 t.d] 33)
  have x1 := Blk3s.new_ (w.alloc (.cells #[.slice A t.ps.length c, .slice B t.vs.length e, .int .i64 t.d] 33)) 33 (.slice A' t.ps.length c') (.slice B' t.vs.length e') (.int .i64 t.d)
  rw [World.size_alloc] at x1
  go_enter Try.func104, Try.ntmps104
  go_upto_region 1 with fail
  obtain ⟨w1, hw1⟩ : ∃ w1, (w.alloc (.cells #[.slice A t.ps.length c, .slice B t.vs.length e, .int .i64 t.d] 33)).alloc (.cells #[.slice A' t.ps.length c', .slice B' t.vs.length e', .int .i64 t.d] 33) = w1 := ⟨_, rfl⟩
  rw [hw1] at al x0 x1 ⊢
  clear hw1
  have CP := hid (eqPartS_is A A' c c' t.ps w1 (h.on al) (h'.on al) (by omega) hu)
  obtain ⟨y0, y1, y2, -⟩ := id x0.reads
  obtain ⟨z0, z1, z2, -⟩ := id x1.reads
  go_wp2_with fail
  refine CP.out.mono ?_
  rintro e2 w2 ⟨rfl, d⟩
  replace al := al.trans (d.mono al.size)
  replace x0 := x0.later d
  replace x1 := x1.later d
  clear CP y0 y1 y2 z0 z1 z2 d
  have CI := hid (eqIntS_ret B B' e e' t.vs w2 _ _ (r.below al (Nat.le_refl _)) (r'.below al (Nat.le_refl _)) (by unfold maxLen; omega))
  obtain ⟨y0, y1, y2, -⟩ := id x0.reads
  obtain ⟨z0, z1, z2, -⟩ := id x1.reads
  go_wp2_with fail
  refine CI.out.mono ?_
  rintro e2 w3 ⟨rfl, d⟩
  replace al := al.trans (d.mono al.size)
  replace x0 := x0.later d
  replace x1 := x1.later d
  clear CI y0 y1 y2 z0 z1 z2 d
  obtain ⟨y0, y1, y2, -⟩ := id x0.reads
  obtain ⟨z0, z1, z2, -⟩ := id x1.reads
  go_wp2
  go_ret
  exact .mk_ al
set_option maxRecDepth 100000 in
set_option maxHeartbeats 8000000 in
theorem eqTxnS_is (A A' : Option Addr) (c c' : Nat) (ts : List Tx) (w : World) (h : Txs w w.heap.size A ts) (h' : Txs w w.heap.size A' ts) (hm : ts.length ≤ 1048576) (hps : ∀ t ∈ ts, t.ps.length ≤ 1048576 ∧ t.vs.length ≤ 1048576) (hus : ∀ t ∈ ts, ∀ p ∈ t.ps, p.us.length ≤ 1048576) :
    Calls Try.prog 81 #[.slice A ts.length c, .slice A' ts.length c'] w (Ret (.bool true) w) := by
  have HP := hid hps
  have HU := hid hus
  clear hps hus
  go_enter Try.func81, Try.ntmps81
  go_wp2_with fail
  go_loopw [5] (fun i wr => ∃ k : Nat, k ≤ ts.length ∧ i = .int .i64 k ∧ Below w.heap.size w wr) (fun i _ => ts.length - (intOf i).toNat)
  case atStart => exact ⟨0, Nat.zero_le _, rfl, Below.refl _ _⟩
  case round =>
    obtain ⟨k, hk, rfl, hb⟩ := hrel
    have hz := hb.size
    by_cases hlt : k < ts.length
    · obtain ⟨t, ad, A1, c1, B1, e1, ho, rfl, ha, g0, g1, g2, -, -, g5, g6⟩ := (h.on hb).tx hlt
      obtain ⟨t', ad', A1', c1', B1', e1', ho', rfl, ha', g0', g1', g2', -, -, g5', g6'⟩ := (h'.on hb).tx hlt
      obtain rfl : t' = t := ho'.symm.trans ho
      have hps := HP.out t' (by rw [← ho]; exact List.getElem_mem hlt)
      have hus := HU.out t' (by rw [← ho]; exact List.getElem_mem hlt)
      have k0 : (0 : Int) ≤ (k : Int) := by omega
      have k1 : (k : Int) < (ts.length : Int) := by omega
      have L0 := Later.cell g0 ha
      have L1 := Later.cell (p := ⟨(ad.add (k * 3)).block, (ad.add (k * 3)).off + 1, none⟩) g1 ha
      have L2 := Later.cell (p := ⟨(ad.add (k * 3)).block, (ad.add (k * 3)).off + 2, none⟩) g2 ha
      have L3 := Later.cell g0' ha'
      have L4 := Later.cell (p := ⟨(ad'.add (k * 3)).block, (ad'.add (k * 3)).off + 1, none⟩) g1' ha'
      have L5 := Later.cell (p := ⟨(ad'.add (k * 3)).block, (ad'.add (k * 3)).off + 2, none⟩) g2' ha'
      have CE : Hid (∀ x, wr.heap.size ≤ x.heap.size → Parts x wr.heap.size A1 t'.ps → Parts x wr.heap.size A1' t'.ps → Row x wr.heap.size B1 (ints t'.vs) → Row x wr.heap.size B1' (ints t'.vs) → Calls Try.prog 104 #[.agg #[.slice A1 t'.ps.length c1, .slice B1 t'.vs.length e1, .int .i64 t'.d], .agg #[.slice A1' t'.ps.length c1', .slice B1' t'.vs.length e1', .int .i64 t'.d]] x (Ret (.bool true) x)) := fun x hx p1 p2 r1 r2 => eqTxn_is A1 A1' B1 B1' c1 c1' e1 e1' t' x (p1.more hx) (p2.more hx) (r1.more hx) (r2.more hx) hps.1 hus hps.2
      clear g0 g1 g2 g0' g1' g2' ho ho' hus hps
      go_wp2_with fail
      refine wp_region_later wr.heap.size (by kernel_rfl) (by kernel_rfl) ?_
      repeat (go_big_quiet_step ((go_at_call 104; exact Later.call (Nat.le_refl _) _ (CE.out _ (Later.size (Nat.le_refl _) _) (Parts.later_ g5 _) (Parts.later_ g5' _) (RowC.later g6 _) (RowC.later g6' _)))))
      refine wpQuiet_nil ?_
      intro _ hw'
      obtain ⟨xx, hxx⟩ := hw'
      have hbx := xx.b
      subst hxx
      go_wp2
      go_roundw
      case rel => exact ⟨k + 1, by omega, by go_num, hb.trans (hbx.mono hz)⟩
      case measure => simp [intOf]; omega
    · have hk' : k = ts.length := by omega
      subst hk'
      go_wp2
      go_ret
      exact .mk_ hb
set_option maxRecDepth 100000 in
set_option maxHeartbeats 8000000 in
theorem eqCoordinator_is (v v' : Value) (q : Crd) (w : World) (h : Crdd w w.heap.size v q) (h' : Crdd w w.heap.size v' q) (hf : FitC q) :
    Calls Try.prog 34 #[v, v'] w (Ret (.bool true) w) := by
  have f1 := hf.ts
  have f2 := hf.os
  obtain ⟨A, c, A2, c2, rfl, hT, hc, hO, hc2⟩ := h
  obtain ⟨A', c', A2', c2', rfl, hT', hc', hO', hc2'⟩ := h'
  unfold crV
  have al := ((Below.refl w.heap.size w).alloc (Nat.le_refl _) (.cells #[.slice A q.ts.length c, .slice A2 q.os.length c2] 26)).alloc (by simp) (.cells #[.slice A' q.ts.length c', .slice A2' q.os.length c2'] 26)
  have x0 := (Blk2s.new_ w 26 (.slice A q.ts.length c) (.slice A2 q.os.length c2)).alloc (.cells #[.slice A' q.ts.length c', .slice A2' q.os.length c2'] 26)
  have x1 := Blk2s.new_ (w.alloc (.cells #[.slice A q.ts.length c, .slice A2 q.os.length c2] 26)) 26 (.slice A' q.ts.length c') (.slice A2' q.os.length c2')
  rw [World.size_alloc] at x1
  go_enter Try.func34, Try.ntmps34
  go_upto_region 1 with fail
  obtain ⟨w1, hw1⟩ : ∃ w1, (w.alloc (.cells #[.slice A q.ts.length c, .slice A2 q.os.length c2] 26)).alloc (.cells #[.slice A' q.ts.length c', .slice A2' q.os.length c2'] 26) = w1 := ⟨_, rfl⟩
  rw [hw1] at al x0 x1 ⊢
  clear hw1
  have CT := hid (eqTxnS_is A A' c c' q.ts w1 (hT.on al) (hT'.on al) f1 hf.ps hf.us)
  obtain ⟨y0, y1, -⟩ := id x0.reads
  obtain ⟨z0, z1, -⟩ := id x1.reads
  go_wp2_with fail
  refine CT.out.mono ?_
  rintro e w2 ⟨rfl, d⟩
  replace al := al.trans (d.mono al.size)
  replace x0 := x0.later d
  replace x1 := x1.later d
  clear CT y0 y1 z0 z1 d
  have CO := hid (eqIntS_ret A2 A2' c2 c2' q.os w2 _ _ (hO.below al (Nat.le_refl _)) (hO'.below al (Nat.le_refl _)) (by unfold maxLen; omega))
  obtain ⟨y0, y1, -⟩ := id x0.reads
  obtain ⟨z0, z1, -⟩ := id x1.reads
  go_wp2_with fail
  refine CO.out.mono ?_
  rintro e w3 ⟨rfl, d⟩
  replace al := al.trans (d.mono al.size)
  go_wp2
  go_ret
  exact .mk_ al
end Go.Proofs.Ytelmeknpmlbplaa
