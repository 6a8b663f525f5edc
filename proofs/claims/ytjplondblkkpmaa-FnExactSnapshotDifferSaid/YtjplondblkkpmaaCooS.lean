/- The coordinator with the slices $SA and $SB is stored as the answer, with the word $BB. -/
/- Laws on coordinators: a coordinator is boxed. -/
/- On to the world behind D. -/
/- An exact law begins: the argument's box, its size, a copy for the model. -/
/- The program's own copy of the argument is boxed. -/
/- The program's copy is as the argument; the region draws. -/
/- Laws on functions that answer numbers. -/
/- What the boxes hold is read again. -/
/- The coordinator with the slices P4 and P5 is boxed as P6, in block P7, behind it the world P3; ahead of region P1. -/
/- The draw, the program's answer, the model's, and that they are the same: behind it w5, all facts on it by way of dx. -/
/-
  Walks: which parts and transactions are valid, by the model.
-/
import Derived.Test.YtjplondblkkpmaaG0C
import Derived.Test.YtjplondblkkpmaaRefU
namespace Go.Proofs.Ytjplondblkkpmaa
open Go.RowKit Wo Pu Rf Lk Co

theorem pv_no {ps : List Part} {b : Bool} {k : Nat} (hb : b = true ↔ PartsV ps) (hk : k < ps.length) (h : ¬ ((0 ≤ ps[k].s ∧ ps[k].s ≤ 2) ∧ UV ps[k].us ∧ ∀ j (hj : j < ps.length), j + 1 = k → ps[j].s < ps[k].s)) : b = false := by
  rw [← Bool.not_eq_true]
  exact fun e => h ((partsV_iff.1 (hb.1 e)).2 k hk hk)
set_option maxRecDepth 100000 in
set_option maxHeartbeats 4000000 in
theorem l22Parts_is (b : Bool) (A : Option Addr) (c : Nat) (ps : List Part) (w : World) (h : Parts w w.heap.size A ps) (hm : ps.length ≤ 1048600) (hu : ∀ p ∈ ps, p.us.length ≤ 1048600) (hb : b = true ↔ PartsV ps) :
    Calls Try.prog 70 #[.slice A ps.length c] w (Ret (.bool b) w) := by
  have HB := hid hb
  have HU := hid hu
  clear hb hu
  go_enter Try.func70, Try.ntmps70
  go_wp2_with fail
  go_loopw [3] (fun i wr => ∃ k : Nat, k ≤ ps.length ∧ i = .int .i64 k ∧ Hid (PGood ps k) ∧ Below w.heap.size w wr) (fun i _ => ps.length - (intOf i).toNat)
  case atStart => exact ⟨0, Nat.zero_le _, rfl, .zero ps, Below.refl _ _⟩
  case round =>
    obtain ⟨k, hk, rfl, H, hbr⟩ := hrel
    have hz := hbr.size
    by_cases hlt : k < ps.length
    · have hp := h.on hbr
      obtain ⟨p, ad, A', c', ho, rfl, had, g0, g1, -, g3⟩ := hp.part hlt
      have hul := HU.out p (by rw [← ho]; exact List.getElem_mem hlt)
      have k0 : (0 : Int) ≤ (k : Int) := by omega
      have k1 : (k : Int) < (ps.length : Int) := by omega
      have L0 := Later.cell g0 had
      have L1 := Later.cell (p := ⟨(ad.add (k * 2)).block, (ad.add (k * 2)).off + 1, none⟩) g1 had
      obtain ⟨br, hr3⟩ := bool_of (0 ≤ p.s ∧ p.s ≤ 2)
      obtain ⟨bu, hu3⟩ := bool_of (UV p.us)
      have CR : Hid (∀ x, Calls Try.prog 40 #[.int .i64 p.s, .int .i64 0, .int .i64 2] x (Ret (.bool br) x)) := fun x => (l6In_is br _ _ _ x hr3).mono fun _ _ h => h.ret
      have CU : Hid (∀ x, Row x x.heap.size A' (upsV p.us) → Calls Try.prog 85 #[.slice A' p.us.length c'] x (Ret (.bool bu) x)) := fun x hx => specUpdatesValid_is bu A' c' p.us x hx hul hu3
      clear g0 g1
      cases br with
      | false =>
        have F := hid (pv_no HB.out hlt (fun h => by have := hr3.2 (ho ▸ h.1); cases this))
        clear H hr3 hu3 ho
        go_wp2_with fail
        refine wp_region_later wr.heap.size (by kernel_rfl) (by kernel_rfl) ?_
        repeat (go_big_quiet_step ((first | (go_at_call 40; exact Later.call (Nat.le_refl _) _ (CR.out _)) | (go_at_call 85; exact Later.call (Nat.le_refl _) _ (CU.out _ ((Wo.Row.later g3 _).more (Later.size (Nat.le_refl _) _)))))))
        refine wpQuiet_nil ?_
        intro _ hw'
        obtain ⟨xx, hxx⟩ := hw'
        have hbx := xx.b
        subst hxx
        go_wp2
        go_ret
        rw [F.out]
        exact .mk_ (hbr.trans (hbx.mono hz))
      | true =>
        cases bu with
        | false =>
          have F := hid (pv_no HB.out hlt (fun h => by have := hu3.2 (ho ▸ h.2.1); cases this))
          clear H hr3 hu3 ho
          go_wp2_with fail
          refine wp_region_later wr.heap.size (by kernel_rfl) (by kernel_rfl) ?_
          repeat (go_big_quiet_step ((first | (go_at_call 40; exact Later.call (Nat.le_refl _) _ (CR.out _)) | (go_at_call 85; exact Later.call (Nat.le_refl _) _ (CU.out _ ((Wo.Row.later g3 _).more (Later.size (Nat.le_refl _) _)))))))
          refine wpQuiet_nil ?_
          intro _ hw'
          obtain ⟨xx, hxx⟩ := hw'
          have hbx := xx.b
          subst hxx
          go_wp2
          go_ret
          rw [F.out]
          exact .mk_ (hbr.trans (hbx.mono hz))
        | true =>
          have g1 : 0 ≤ ps[k].s ∧ ps[k].s ≤ 2 := by rw [ho]; exact hr3.1 rfl
          have g2 : UV ps[k].us := by rw [ho]; exact hu3.1 rfl
          by_cases hk0 : k = 0
          · have e5 : decide ((0 : Int) < (k : Int)) = false := decide_eq_false (by omega)
            have e6 : decide (0 < k) = false := decide_eq_false (by omega)
            have HN := hid (H.out.succ hlt g1 g2 (fun j _ e => by omega))
            clear H hr3 hu3 ho g1 g2 hk0
            go_wp2_with fail
            refine wp_region_later wr.heap.size (by kernel_rfl) (by kernel_rfl) ?_
            repeat (go_big_quiet_step ((first | (go_at_call 40; exact Later.call (Nat.le_refl _) _ (CR.out _)) | (go_at_call 85; exact Later.call (Nat.le_refl _) _ (CU.out _ ((Wo.Row.later g3 _).more (Later.size (Nat.le_refl _) _)))))))
            refine wpQuiet_nil ?_
            intro _ hw'
            obtain ⟨xx, hxx⟩ := hw'
            have hbx := xx.b
            subst hxx
            go_wp2
            go_roundw
            case rel => exact ⟨k + 1, by omega, by go_num, HN, hbr.trans (hbx.mono hz)⟩
            case measure => simp [intOf]; omega
          · obtain ⟨m, rfl⟩ : ∃ m, k = m + 1 := ⟨k - 1, by omega⟩
            obtain ⟨p', ad', _, _, ho', e', ha', p0, -, -, -⟩ := hp.part (k := m) (by omega)
            injection e' with e'
            subst e'
            have LP := Later.cell p0 ha'
            have e5 : decide ((0 : Int) < ((m + 1 : Nat) : Int)) = true := decide_eq_true (by omega)
            have q1 : IntKind.i64.wrap (((m + 1 : Nat) : Int) - 1) = (m : Int) := by rw [IntWalk.i64_in _ (by omega)]; omega
            have q2 : ((m + 1 : Nat) : Int) - 1 = (m : Int) := by omega
            have q3 : (m : Int) < (ps.length : Int) := by omega
            have q4 : (0 : Int) ≤ (m : Int) := by omega
            by_cases hord : p'.s < p.s
            · have e6 : decide (p.s ≤ p'.s) = false := decide_eq_false (by omega)
              have HN := hid (H.out.succ hlt g1 g2 (fun j hj e => by
                have : j = m := by omega
                subst this
                rw [ho', ho]
                exact hord))
              clear H hr3 hu3 ho ho' g1 g2 hk0 p0
              go_wp2_with fail
              refine wp_region_later wr.heap.size (by kernel_rfl) (by kernel_rfl) ?_
              repeat (go_big_quiet_step ((first | (go_at_call 40; exact Later.call (Nat.le_refl _) _ (CR.out _)) | (go_at_call 85; exact Later.call (Nat.le_refl _) _ (CU.out _ ((Wo.Row.later g3 _).more (Later.size (Nat.le_refl _) _)))))))
              refine wpQuiet_nil ?_
              intro _ hw'
              obtain ⟨xx, hxx⟩ := hw'
              have hbx := xx.b
              subst hxx
              go_wp2
              go_roundw
              case rel => exact ⟨m + 1 + 1, by omega, by go_num, HN, hbr.trans (hbx.mono hz)⟩
              case measure => simp [intOf]; omega
            · have e6 : decide (p.s ≤ p'.s) = true := decide_eq_true (by omega)
              have F := hid (pv_no HB.out hlt (fun h => by
                have := h.2.2 m (by omega) rfl
                rw [ho', ho] at this
                exact hord this))
              clear H hr3 hu3 ho ho' g1 g2 hk0 p0
              go_wp2_with fail
              refine wp_region_later wr.heap.size (by kernel_rfl) (by kernel_rfl) ?_
              repeat (go_big_quiet_step ((first | (go_at_call 40; exact Later.call (Nat.le_refl _) _ (CR.out _)) | (go_at_call 85; exact Later.call (Nat.le_refl _) _ (CU.out _ ((Wo.Row.later g3 _).more (Later.size (Nat.le_refl _) _)))))))
              refine wpQuiet_nil ?_
              intro _ hw'
              obtain ⟨xx, hxx⟩ := hw'
              have hbx := xx.b
              subst hxx
              go_wp2
              go_ret
              rw [F.out]
              exact .mk_ (hbr.trans (hbx.mono hz))
    · have hk' : k = ps.length := by omega
      subst hk'
      by_cases h0 : ps.length = 0
      · have F : Hid (b = false) := by
          show b = false
          rw [← Bool.not_eq_true]
          exact fun e => (HB.out.1 e).1 (List.eq_nil_of_length_eq_zero h0)
        have e0 : decide (0 < (ps.length : Int)) = false := decide_eq_false (by omega)
        have e1 : decide (0 < ps.length) = false := decide_eq_false (by omega)
        clear h0 H
        go_wp2
        go_ret
        rw [F.out]
        exact .mk_ hbr
      · have F : Hid (b = true) := HB.out.2 (partsV_iff.2 ⟨fun e => h0 (by rw [e]; rfl), H.out⟩)
        have e0 : decide (0 < (ps.length : Int)) = true := decide_eq_true (by omega)
        have e1 : decide (0 < ps.length) = true := decide_eq_true (by omega)
        clear h0 H
        go_wp2
        go_ret
        rw [F.out]
        exact .mk_ hbr
theorem bool_ofP' (p : Prop) : ∃ b : Bool, b = true ↔ p := by
  by_cases h : p
  · exact ⟨true, fun _ => h, fun _ => rfl⟩
  · exact ⟨false, fun e => (by cases e), fun e => absurd e h⟩
theorem cnt_succ {vs : List Int} {k : Nat} (a : Int) (hk : k < vs.length) : (vs.take (k + 1)).count a = (vs.take k).count a + if vs[k] = a then 1 else 0 := by
  rw [List.take_succ_eq_append_getElem hk, List.count_append, List.count_singleton]
  congr 1
  by_cases e : vs[k] = a
  · rw [if_pos (by simpa using e), if_pos e]
  · rw [if_neg (by simpa using e), if_neg e]
/-- The first k votes are votes. -/
def VGood (vs : List Int) (k : Nat) : Prop := ∀ v ∈ vs.take k, -1 ≤ v ∧ v ≤ 1
theorem VGood.zero (vs : List Int) : VGood vs 0 := fun _ h => by simp at h
theorem VGood.succ {vs : List Int} {k : Nat} (h : VGood vs k) (hk : k < vs.length) (h1 : -1 ≤ vs[k] ∧ vs[k] ≤ 1) : VGood vs (k + 1) := fun v hv => by
  rw [List.take_succ_eq_append_getElem hk] at hv
  rcases List.mem_append.1 hv with h2 | h2
  · exact h v h2
  · rw [List.mem_singleton.1 h2]; exact h1
set_option linter.unusedSimpArgs false in
set_option maxRecDepth 100000 in
set_option maxHeartbeats 4000000 in
theorem l22Txn_is (b : Bool) (A : Option Addr) (c : Nat) (A2 : Option Addr) (c2 : Nat) (t : Tx) (w : World) (h1 : Parts w w.heap.size A t.ps) (h2 : Row w w.heap.size A2 (ints t.vs)) (hm : t.ps.length ≤ 1048600) (hv : t.vs.length ≤ 1048600) (hu : ∀ p ∈ t.ps, p.us.length ≤ 1048600) (hb : b = true ↔ TxV t) :
    Calls Try.prog 45 #[.agg #[.slice A t.ps.length c, .slice A2 t.vs.length c2, .int .i64 t.d]] w (Ret (.bool b) w) := by
  have HB : Hid (b = true ↔ _) := hb.trans txV_iff
  have HU := hid hu
  have al := (Below.refl w.heap.size w).alloc (Nat.le_refl _) (.cells #[.slice A t.ps.length c, .slice A2 t.vs.length c2, .int .i64 t.d] 33)
  have x0 := Blk3s.new_ w 33 (.slice A t.ps.length c) (.slice A2 t.vs.length c2) (.int .i64 t.d)
  obtain ⟨w1, hw1⟩ : ∃ x, w.alloc (.cells #[.slice A t.ps.length c, .slice A2 t.vs.length c2, .int .i64 t.d] 33) = x := ⟨_, rfl⟩
  rw [hw1] at al x0
  have r1 := h1.on al
  have r2 := (h2.below al (Nat.le_refl _)).more al.size
  obtain ⟨y0, y1, y2, -⟩ := id x0.reads
  clear h1 h2 hb hu
  go_enter Try.func45, Try.ntmps45
  go_wp2_with fail
  go_loopw [3, 4, 5] (fun y n i wr => ∃ k : Nat, k ≤ t.vs.length ∧ i = .int .i64 k ∧ y = .int .i64 ((t.vs.take k).count 1 : Nat) ∧ n = .int .i64 ((t.vs.take k).count (-1) : Nat) ∧ Hid (VGood t.vs k) ∧ w1 = wr) (fun _ _ i _ => t.vs.length - (intOf i).toNat)
  case atStart => exact ⟨0, Nat.zero_le _, rfl, rfl, rfl, .zero _, rfl⟩
  case round =>
    obtain ⟨k, hk, rfl, rfl, rfl, H, rfl⟩ := hrel
    have hY : (t.vs.take k).count 1 ≤ k := Nat.le_trans List.count_le_length (by rw [List.length_take]; omega)
    have hN : (t.vs.take k).count (-1) ≤ k := Nat.le_trans List.count_le_length (by rw [List.length_take]; omega)
    by_cases hlt : k < t.vs.length
    · obtain ⟨ad, e2, hbl, hc⟩ := r2.int_ hlt
      have HS1 := hid (cnt_succ 1 hlt)
      have HS2 := hid (cnt_succ (-1) hlt)
      obtain ⟨Y, hYY⟩ : ∃ Y, (t.vs.take k).count 1 = Y := ⟨_, rfl⟩
      obtain ⟨N, hNN⟩ : ∃ N, (t.vs.take k).count (-1) = N := ⟨_, rfl⟩
      obtain ⟨v, hvv⟩ : ∃ v, t.vs[k] = v := ⟨_, rfl⟩
      have HV := hid hvv
      rw [hYY, hvv] at HS1
      rw [hNN, hvv] at HS2
      rw [hYY] at hY ⊢
      rw [hNN] at hN ⊢
      rw [hvv] at hc
      subst e2
      have k0 : (0 : Int) ≤ (k : Int) := by omega
      have k1 : (k : Int) < (t.vs.length : Int) := by omega
      obtain ⟨br, hr3⟩ := bool_of (-1 ≤ v ∧ v ≤ 1)
      have CR := hid (l6In_is br v (-1) 1 w1 hr3)
      clear hYY hNN
      go_wp2_with fail
      refine CR.out.mono ?_
      rintro e w2 ⟨rfl, rfl⟩
      clear CR
      cases br with
      | false =>
        have F : Hid (b = false) := by
          show b = false
          rw [← Bool.not_eq_true]
          exact fun e => by have := hr3.2 (by rw [← hvv]; exact (HB.out.1 e).1 _ (List.getElem_mem hlt)); cases this
        clear hr3 hvv
        go_wp2
        go_ret
        rw [F.out]
        exact .mk_ al
      | true =>
        have HN := hid (H.out.succ hlt (by rw [hvv]; exact hr3.1 rfl))
        clear hr3 hvv H
        by_cases v1 : v = 1
        · subst v1
          have HS1' : Hid ((t.vs.take (k + 1)).count 1 = Y + 1) := by show _ = _; rw [HS1.out, if_pos rfl]
          have HS2' : Hid ((t.vs.take (k + 1)).count (-1) = N) := by show _ = _; rw [HS2.out, if_neg (by decide)]; rfl
          clear HS1 HS2
          go_wp2
          go_roundw
          case rel => exact ⟨k + 1, by omega, by go_num, by rw [HS1'.out]; go_num, by rw [HS2'.out], HN, by first | rfl | trivial⟩
          case measure => simp [intOf]; omega
        · by_cases v2 : v = -1
          · subst v2
            have HS1' : Hid ((t.vs.take (k + 1)).count 1 = Y) := by show _ = _; rw [HS1.out, if_neg (by decide)]; rfl
            have HS2' : Hid ((t.vs.take (k + 1)).count (-1) = N + 1) := by show _ = _; rw [HS2.out, if_pos rfl]
            clear HS1 HS2 v1
            go_wp2
            go_roundw
            case rel => exact ⟨k + 1, by omega, by go_num, by rw [HS1'.out], by rw [HS2'.out]; go_num, HN, by first | rfl | trivial⟩
            case measure => simp [intOf]; omega
          · have e5 : (v == 1) = false := by rw [beq_eq_false_iff_ne]; exact v1
            have e6 : (v == -1) = false := by rw [beq_eq_false_iff_ne]; exact v2
            have HS1' : Hid ((t.vs.take (k + 1)).count 1 = Y) := by show _ = _; rw [HS1.out, if_neg v1]; rfl
            have HS2' : Hid ((t.vs.take (k + 1)).count (-1) = N) := by show _ = _; rw [HS2.out, if_neg v2]; rfl
            clear v1 v2 HS1 HS2
            go_wp2
            go_roundw
            case rel => exact ⟨k + 1, by omega, by go_num, by rw [HS1'.out], by rw [HS2'.out], HN, by first | rfl | trivial⟩
            case measure => simp [intOf]; omega
    · have hk' : k = t.vs.length := by omega
      subst hk'
      have HG : Hid (∀ v ∈ t.vs, -1 ≤ v ∧ v ≤ 1) := by
        have := H.out
        unfold VGood at this
        rwa [List.take_length] at this
      rw [List.take_length] at hY hN ⊢
      obtain ⟨dd, hdd⟩ : ∃ dd, t.d = dd := ⟨_, rfl⟩
      obtain ⟨Y, hYY⟩ : ∃ Y, t.vs.count 1 = Y := ⟨_, rfl⟩
      obtain ⟨N, hNN⟩ : ∃ N, t.vs.count (-1) = N := ⟨_, rfl⟩
      rw [hYY, hNN, hdd] at HB
      rw [hYY] at hY ⊢
      rw [hNN] at hN ⊢
      rw [hdd] at x0
      obtain ⟨bp, hbp⟩ := bool_ofP' (PartsV t.ps)
      have CP := hid (l22Parts_is bp A c t.ps w1 r1 hm HU.out hbp)
      have HBP := hid hbp
      clear hbp hYY hNN hdd H y2 r1 r2 hw1
      go_wp2_with fail
      refine CP.out.mono ?_
      rintro e w2 ⟨rfl, d2⟩
      have al2 := al.trans (d2.mono al.size)
      clear y0 y1 CP
      obtain ⟨y0, y1, y2, -⟩ := id (x0.later d2).reads
      have no : b ≠ true → b = false := fun h => by cases b; rfl; exact absurd rfl h
      cases bp with
      | false =>
        have F : Hid (b = false) := no fun e => by have := HBP.out.2 (HB.out.1 e).2.1; cases this
        clear no
        go_wp2
        go_ret
        rw [F.out]
        exact .mk_ al2
      | true =>
        by_cases hl : t.vs.length = t.ps.length
        · have e1 : ((t.vs.length : Int) != (t.ps.length : Int)) = false := by rw [bne_eq_false_iff_eq]; omega
          have HQ : Hid (b = true ↔ ((dd = 0 ∧ N = 0 ∧ Y < t.vs.length) ∨ (dd = 2 ∧ Y = t.vs.length) ∨ (dd = 3 ∧ Y < t.vs.length))) :=
            ⟨fun e => (HB.out.1 e).2.2.2, fun e => HB.out.2 ⟨HG.out, HBP.out.1 rfl, hl, e⟩⟩
          have e2 : (t.vs.length != t.ps.length) = false := by rw [bne_eq_false_iff_eq]; exact hl
          clear hl HB
          by_cases h0 : dd = 0
          · subst h0
            by_cases hn : N = 0
            · subst hn
              by_cases hy : Y < t.vs.length
              · skip
                have e3 : decide ((Y : Int) < (t.vs.length : Int)) = true := decide_eq_true (by omega)
                have e4 : decide (Y < t.vs.length) = true := decide_eq_true hy
                have F : Hid (b = true) := HQ.out.2 (.inl ⟨rfl, rfl, hy⟩)
                clear no hy
                go_wp2
                go_ret
                rw [F.out]
                exact .mk_ al2
              · skip
                have e3 : decide ((Y : Int) < (t.vs.length : Int)) = false := decide_eq_false (by omega)
                have e4 : decide (Y < t.vs.length) = false := decide_eq_false hy
                have F : Hid (b = false) := no fun e => by have := HQ.out.1 e; omega
                clear no hy
                go_wp2
                go_ret
                rw [F.out]
                exact .mk_ al2
            · have e5 : ((N : Int) == 0) = false := by rw [beq_eq_false_iff_ne]; omega
              have e6 : (N == 0) = false := by rw [beq_eq_false_iff_ne]; exact hn
              have F : Hid (b = false) := no fun e => by have := HQ.out.1 e; omega
              clear no hn
              go_wp2
              go_ret
              rw [F.out]
              exact .mk_ al2
          · have d0 : (dd == 0) = false := by rw [beq_eq_false_iff_ne]; exact h0
            by_cases h2 : dd = 2
            · subst h2
              by_cases hy : Y = t.vs.length
              · have e3 : ((Y : Int) == (t.vs.length : Int)) = true := by rw [beq_iff_eq]; omega
                have e4 : (Y == t.vs.length) = true := by rw [beq_iff_eq]; exact hy
                have F : Hid (b = true) := HQ.out.2 (.inr (.inl ⟨rfl, hy⟩))
                clear no hy h0
                go_wp2
                go_ret
                rw [F.out]
                exact .mk_ al2
              · have e3 : ((Y : Int) == (t.vs.length : Int)) = false := by rw [beq_eq_false_iff_ne]; omega
                have e4 : (Y == t.vs.length) = false := by rw [beq_eq_false_iff_ne]; exact hy
                have F : Hid (b = false) := no fun e => by have := HQ.out.1 e; omega
                clear no hy h0
                go_wp2
                go_ret
                rw [F.out]
                exact .mk_ al2
            · have d2' : (dd == 2) = false := by rw [beq_eq_false_iff_ne]; exact h2
              by_cases h3 : dd = 3
              · subst h3
                by_cases hy : Y < t.vs.length
                · skip
                  have e3 : decide ((Y : Int) < (t.vs.length : Int)) = true := decide_eq_true (by omega)
                  have e4 : decide (Y < t.vs.length) = true := decide_eq_true hy
                  have F : Hid (b = true) := HQ.out.2 (.inr (.inr ⟨rfl, hy⟩))
                  clear no hy
                  go_wp2
                  go_ret
                  rw [F.out]
                  exact .mk_ al2
                · skip
                  have e3 : decide ((Y : Int) < (t.vs.length : Int)) = false := decide_eq_false (by omega)
                  have e4 : decide (Y < t.vs.length) = false := decide_eq_false hy
                  have F : Hid (b = false) := no fun e => by have := HQ.out.1 e; omega
                  clear no hy
                  go_wp2
                  go_ret
                  rw [F.out]
                  exact .mk_ al2
              · have d3 : (dd == 3) = false := by rw [beq_eq_false_iff_ne]; exact h3
                have F : Hid (b = false) := no fun e => by have := HQ.out.1 e; omega
                clear no h0 h2 h3
                go_wp2
                go_ret
                rw [F.out]
                exact .mk_ al2
        · have e1 : ((t.vs.length : Int) != (t.ps.length : Int)) = true := by rw [bne_iff_ne]; omega
          have e2 : (t.vs.length != t.ps.length) = true := by rw [bne_iff_ne]; exact hl
          have F : Hid (b = false) := no fun e => hl (HB.out.1 e).2.2.1
          clear no hl
          go_wp2
          go_ret
          rw [F.out]
          exact .mk_ al2
end Go.Proofs.Ytjplondblkkpmaa
