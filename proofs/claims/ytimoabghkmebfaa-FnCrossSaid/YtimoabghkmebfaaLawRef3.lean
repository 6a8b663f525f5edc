/-
  Walks of the laws on differing refs and on crossing updates.
-/
import Derived.Test.YtimoabghkmebfaaRefM
import Derived.Test.YtimoabghkmebfaaRefX
namespace Go.Proofs.Ytimoabghkmebfaa
open Go.RowKit Wo Pu Rf

theorem FnDiffer_no (A : Option Addr) (c : Nat) (bs : List Int) (w : World) (h : Code_ w A c bs) (hl : ¬ bs.length ≤ 1048576) :
    Calls Try.prog 7 #[.slice A bs.length c] w (Ret (.bool true) w) := by
  have hc := h.2.1
  have hm := h.2.2.1
  unfold maxLen at hm
  go_enter Try.func7, Try.ntmps7
  go_wp2
  go_ret
  exact .mk_ (Below.refl _ _)
set_option maxRecDepth 100000 in
set_option maxHeartbeats 4000000 in
theorem FnDiffer_yes (A : Option Addr) (c : Nat) (bs : List Int) (w : World) (h : Code_ w A c bs) (hl : bs.length ≤ 1048576) :
    Calls Try.prog 7 #[.slice A bs.length c] w (Ret (.bool true) w) := by
  go_enter Try.func7, Try.ntmps7
  go_wp2_with fail
  refine (DrawRefsDiffer_any A c bs _ h).mono ?_
  rintro e w1 ⟨A1, c1, xs, A2, c2, ys, rfl, rx1, hx4, ry1, hy4, b1⟩
  obtain ⟨v, hv⟩ := bool_of (RV xs ∧ RV ys)
  obtain ⟨ds, hds⟩ : ∃ ds, difs v xs ys = ds := ⟨_, rfl⟩
  have hdl : ds.length ≤ 4 := by rw [← hds]; exact difs_le hx4
  have HV := hid hv
  have HD := hid hds
  clear hv hds
  go_wp2_with fail
  refine (implDiffer_to ds v A1 A2 c1 c2 xs ys w1 rx1 ry1 (by omega) (by omega) HV.out HD.out).mono ?_
  rintro e w2 ⟨A3, c3, rfl, o3, d2⟩
  have rx2 := rx1.on d2
  have ry2 := ry1.on d2
  have rd2 := o3.row
  have b2 := b1.trans (d2.mono b1.size)
  clear rx1 ry1 b1 d2 o3
  go_wp2_with fail
  refine (specDiffer_to ds v A1 A2 c1 c2 xs ys w2 rx2 ry2 (by omega) (by omega) HV.out HD.out).mono ?_
  rintro e w3 ⟨A4, c4, rfl, o4, d3⟩
  have rx3 := rx2.on d3
  have ry3 := ry2.on d3
  have rd3 := rd2.on d3
  have re3 := o4.row
  have b3 := b2.trans (d3.mono b2.size)
  clear rx2 ry2 rd2 b2 d3 o4
  go_wp2_with fail
  refine (sameUpdates_ret A3 A4 c3 c4 ds _ _ _ rd3 re3 (by omega)).mono ?_
  rintro e w4 ⟨rfl, d4⟩
  have rx4 := rx3.on d4
  have ry4 := ry3.on d4
  have rd4 := rd3.on d4
  have re4 := re3.on d4
  have b4 := b3.trans (d4.mono b3.size)
  clear rx3 ry3 rd3 re3 b3 d4
  obtain ⟨vx, hvx⟩ := bool_of (RV xs)
  obtain ⟨vy, hvy⟩ := bool_of (RV ys)
  have HVX := hid hvx
  have HVY := hid hvy
  clear hvx hvy
  go_wp2_with fail
  refine (specRefsValid_is vx A1 c1 xs _ _ rx4 (by omega) HVX.out).mono ?_
  rintro e w5 ⟨rfl, rfl⟩
  cases vx with
  | false =>
    clear HV HD HVX HVY
    go_wp2_with fail
    go_wp2_with fail
    refine (sameUpdates_ret A3 A4 c3 c4 ds _ _ _ rd4 re4 (by omega)).mono ?_
    rintro e w9 ⟨rfl, d9⟩
    go_wp2_with fail
    go_ret
    exact .mk_ (b4.trans (d9.mono b4.size))
  | true =>
    have PX := hid (HVX.out.1 rfl)
    clear HVX
    go_wp2_with fail
    refine (specRefsValid_is vy A2 c2 ys _ _ ry4 (by omega) HVY.out).mono ?_
    rintro e w6 ⟨rfl, rfl⟩
    cases vy with
    | false =>
      clear HV HD HVY PX
      go_wp2_with fail
      go_wp2_with fail
      refine (sameUpdates_ret A3 A4 c3 c4 ds _ _ _ rd4 re4 (by omega)).mono ?_
      rintro e w9 ⟨rfl, d9⟩
      go_wp2_with fail
      go_ret
      exact .mk_ (b4.trans (d9.mono b4.size))
    | true =>
      have PY := hid (HVY.out.1 rfl)
      have HE : Hid (dif xs ys = ds) := by
        have hv := HV.out.2 ⟨PX.out, PY.out⟩
        have := HD.out
        rw [hv] at this
        exact this
      clear HVY HV HD re4
      by_cases h0 : ds.length = 0
      · have e0 : ((ds.length : Int) == 0) = true := by rw [beq_iff_eq]; omega
        obtain rfl : xs = ys := difL_none xs ys 0 (by rw [PX.out.1, PY.out.1]) (by
          have := HE.out
          have h1 := List.eq_nil_of_length_eq_zero h0
          rw [h1] at this
          exact this)
        clear HE PX PY h0 rd4
        go_wp2_with fail
        refine (sameInts_ret A1 A2 c1 c2 xs _ _ _ rx4 ry4 (by unfold maxLen; omega)).mono ?_
        rintro e w9 ⟨rfl, d9⟩
        go_wp2_with fail
        go_ret
        exact .mk_ (b4.trans (d9.mono b4.size))
      · have e0 : ((ds.length : Int) == 0) = false := by rw [beq_eq_false_iff_ne]; omega
        have uv : UV ds := by
          rw [← HE.out]
          exact dif_UV PX.out PY.out (by rw [HE.out]; exact fun e => h0 (by rw [e]; rfl))
        have W2 : Hid (IsRWay xs ds .yes) := ⟨PX.out, uv, by rw [← HE.out]; exact dif_fits⟩
        have E2 : Hid (applied xs ds .yes = ys) := by
          show setR xs ds = ys
          rw [← HE.out]
          exact dif_set PX.out PY.out
        have CU : Hid (∀ x, Row x x.heap.size A3 (upsV ds) → Calls Try.prog 22 #[.slice A3 ds.length c3] x (Ret (.bool true) x)) := fun x hx => implUpdatesValid_is true A3 c3 ds x hx (by omega) ⟨fun _ => uv, fun _ => rfl⟩
        clear HE PX PY h0 uv
        go_wp2_with fail
        refine (implApply_to ys true .yes A1 A3 c1 c3 xs ds w4 rx4 rd4 (by omega) (by omega) W2.out E2.out rfl).mono ?_
        rintro e w5 ⟨A5, c5, rfl, o5, d5⟩
        have ry5 := ry4.on d5
        have rd5 := rd4.on d5
        have r5 := o5.row
        have b5 := b4.trans (d5.mono b4.size)
        clear rx4 ry4 rd4 b4 d5 o5
        go_wp2_with fail
        refine (sameInts_ret A5 A2 c5 c2 ys _ _ _ r5 ry5 (by unfold maxLen; omega)).mono ?_
        rintro e w6 ⟨rfl, d6⟩
        have rd6 := rd5.on d6
        have b6 := b5.trans (d6.mono b5.size)
        clear ry5 rd5 r5 b5 d6
        go_wp2_with fail
        refine (CU.out _ rd6).mono ?_
        rintro e w7 ⟨rfl, d7⟩
        go_wp2_with fail
        go_ret
        exact .mk_ (b6.trans (d7.mono b6.size))
theorem FnDiffer_any (A : Option Addr) (c : Nat) (bs : List Int) (w : World) (f1 : Row w w.heap.size A (bs.map (Value.int .u8))) (f2 : bs.length ≤ c) (f3 : c ≤ maxLen) (f4 : ∀ n ∈ bs, 0 ≤ n ∧ n < 256) :
    Calls Try.prog 7 #[.slice A bs.length c] w (Ret (.bool true) w) := by
  by_cases hl : bs.length ≤ 1048576
  · exact FnDiffer_yes A c bs w ⟨f1, f2, f3, f4⟩ hl
  · exact FnDiffer_no A c bs w ⟨f1, f2, f3, f4⟩ hl
theorem FnDifferBack_no (A : Option Addr) (c : Nat) (bs : List Int) (w : World) (h : Code_ w A c bs) (hl : ¬ bs.length ≤ 1048576) :
    Calls Try.prog 8 #[.slice A bs.length c] w (Ret (.bool true) w) := by
  have hc := h.2.1
  have hm := h.2.2.1
  unfold maxLen at hm
  go_enter Try.func8, Try.ntmps8
  go_wp2
  go_ret
  exact .mk_ (Below.refl _ _)
set_option maxRecDepth 100000 in
set_option maxHeartbeats 4000000 in
theorem FnDifferBack_yes (A : Option Addr) (c : Nat) (bs : List Int) (w : World) (h : Code_ w A c bs) (hl : bs.length ≤ 1048576) :
    Calls Try.prog 8 #[.slice A bs.length c] w (Ret (.bool true) w) := by
  go_enter Try.func8, Try.ntmps8
  go_wp2_with fail
  refine (DrawRefsDiffer_any A c bs _ h).mono ?_
  rintro e w1 ⟨A1, c1, xs, A2, c2, ys, rfl, rx1, hx4, ry1, hy4, b1⟩
  obtain ⟨v, hv⟩ := bool_of (RV xs ∧ RV ys)
  obtain ⟨ds, hds⟩ : ∃ ds, difs v xs ys = ds := ⟨_, rfl⟩
  have hdl : ds.length ≤ 4 := by rw [← hds]; exact difs_le hx4
  have HV := hid hv
  have HD := hid hds
  clear hv hds
  go_wp2_with fail
  refine (implDiffer_to ds v A1 A2 c1 c2 xs ys w1 rx1 ry1 (by omega) (by omega) HV.out HD.out).mono ?_
  rintro e w2 ⟨A3, c3, rfl, o3, d2⟩
  have rx2 := rx1.on d2
  have ry2 := ry1.on d2
  have rd2 := o3.row
  have b2 := b1.trans (d2.mono b1.size)
  clear rx1 ry1 b1 d2 o3
  go_wp2_with fail
  refine (specDiffer_to ds v A1 A2 c1 c2 xs ys w2 rx2 ry2 (by omega) (by omega) HV.out HD.out).mono ?_
  rintro e w3 ⟨A4, c4, rfl, o4, d3⟩
  have rx3 := rx2.on d3
  have ry3 := ry2.on d3
  have rd3 := rd2.on d3
  have re3 := o4.row
  have b3 := b2.trans (d3.mono b2.size)
  clear rx2 ry2 rd2 b2 d3 o4
  go_wp2_with fail
  refine (sameUpdates_ret A3 A4 c3 c4 ds _ _ _ rd3 re3 (by omega)).mono ?_
  rintro e w4 ⟨rfl, d4⟩
  have rx4 := rx3.on d4
  have ry4 := ry3.on d4
  have rd4 := rd3.on d4
  have re4 := re3.on d4
  have b4 := b3.trans (d4.mono b3.size)
  clear rx3 ry3 rd3 re3 b3 d4
  obtain ⟨vs, hvs⟩ : ∃ vs, inv ds = vs := ⟨_, rfl⟩
  have hvl : vs.length ≤ 4 := by rw [← hvs]; unfold inv; rw [List.length_map]; exact hdl
  have CI : Hid (∀ x, Row x x.heap.size A3 (upsV ds) → Calls Try.prog 16 #[.slice A3 ds.length c3] x (UpsOf vs x)) := fun x hx => by rw [← hvs]; exact inverse_any A3 c3 ds x hx (by omega)
  have CD : Hid (∀ x, Row x x.heap.size A2 (ints ys) → Row x x.heap.size A1 (ints xs) → Calls Try.prog 18 #[.slice A2 ys.length c2, .slice A1 xs.length c1] x (UpsOf vs x)) := fun x h1 h2 =>
    implDiffer_to vs v A2 A1 c2 c1 ys xs x h1 h2 (by omega) (by omega) (HV.out.trans And.comm) (by rw [difs_inv, HD.out, hvs])
  clear HV HD hvs re4
  go_wp2_with fail
  refine (CD.out _ ry4 rx4).mono ?_
  rintro e w5 ⟨A5, c5, rfl, o5, d5⟩
  have rd5 := rd4.on d5
  have r5 := o5.row
  have b5 := b4.trans (d5.mono b4.size)
  clear rx4 ry4 rd4 b4 d5 o5
  go_wp2_with fail
  refine (CI.out _ rd5).mono ?_
  rintro e w6 ⟨A6, c6, rfl, o6, d6⟩
  have r5' := r5.on d6
  have r6 := o6.row
  have b6 := b5.trans (d6.mono b5.size)
  clear rd5 r5 b5 d6 o6 CI CD
  go_wp2_with fail
  refine (sameUpdates_ret A5 A6 c5 c6 vs _ _ _ r5' r6 (by omega)).mono ?_
  rintro e w7 ⟨rfl, d7⟩
  go_wp2_with fail
  go_ret
  exact .mk_ (b6.trans (d7.mono b6.size))
theorem FnDifferBack_any (A : Option Addr) (c : Nat) (bs : List Int) (w : World) (f1 : Row w w.heap.size A (bs.map (Value.int .u8))) (f2 : bs.length ≤ c) (f3 : c ≤ maxLen) (f4 : ∀ n ∈ bs, 0 ≤ n ∧ n < 256) :
    Calls Try.prog 8 #[.slice A bs.length c] w (Ret (.bool true) w) := by
  by_cases hl : bs.length ≤ 1048576
  · exact FnDifferBack_yes A c bs w ⟨f1, f2, f3, f4⟩ hl
  · exact FnDifferBack_no A c bs w ⟨f1, f2, f3, f4⟩ hl
/-- What the loop has found so far. -/
def Found (a b : List Up) (f : Bool) (k : Nat) : Prop := if f then ∃ u ∈ a, ∃ v ∈ b, u.r = v.r else NoTo a b k
def FoundIn (a b : List Up) (f : Bool) (k : Nat) (x : Int) (j : Nat) : Prop := if f then ∃ u ∈ a, ∃ v ∈ b, u.r = v.r else NoTo a b k ∧ NoIn x b j
theorem Found.in_ {a b : List Up} {f : Bool} {k : Nat} (h : Found a b f k) (x : Int) : FoundIn a b f k x 0 := by
  cases f with
  | true => exact h
  | false => exact ⟨h, NoIn.zero x b⟩
theorem FoundIn.out_ {a b : List Up} {f : Bool} {k : Nat} {x : Int} (h : FoundIn a b f k x b.length) (hk : k < a.length) (hx : a[k].r = x) : Found a b f (k + 1) := by
  cases f with
  | true => exact h
  | false => exact NoTo.next h.1 hk (by rw [hx]; exact h.2)
theorem Found.all {a b : List Up} {f : Bool} (h : Found a b f a.length) (ha : UV a) (hb : UV b) : f = true ↔ Cross a b := by
  cases f with
  | true => exact ⟨fun _ => ⟨ha, hb, h⟩, fun _ => rfl⟩
  | false => exact ⟨(fun e => by cases e), fun e => absurd e (NoTo.none h)⟩
theorem FnCross_no (A : Option Addr) (c : Nat) (bs : List Int) (w : World) (h : Code_ w A c bs) (hl : ¬ bs.length ≤ 1048576) :
    Calls Try.prog 9 #[.slice A bs.length c] w (Ret (.bool true) w) := by
  have hc := h.2.1
  have hm := h.2.2.1
  unfold maxLen at hm
  go_enter Try.func9, Try.ntmps9
  go_wp2
  go_ret
  exact .mk_ (Below.refl _ _)
set_option maxRecDepth 100000 in
set_option maxHeartbeats 8000000 in
theorem FnCross_yes (A : Option Addr) (c : Nat) (bs : List Int) (w : World) (h : Code_ w A c bs) (hl : bs.length ≤ 1048576) :
    Calls Try.prog 9 #[.slice A bs.length c] w (Ret (.bool true) w) := by
  go_enter Try.func9, Try.ntmps9
  go_wp2_with fail
  refine (DrawUpdatesCross_any A c bs _ h).mono ?_
  rintro e w1 ⟨A1, c1, us, A2, c2, vs, rfl, ru1, hu4, rv1, hv4, b1⟩
  obtain ⟨x, hx⟩ := bool_of (Cross us vs)
  obtain ⟨vu, hvu⟩ := bool_of (UV us)
  obtain ⟨vv, hvv⟩ := bool_of (UV vs)
  have HX := hid hx
  have HVU := hid hvu
  have HVV := hid hvv
  clear hx hvu hvv
  go_wp2_with fail
  refine (implUpdatesCross_is x A1 A2 c1 c2 us vs _ ru1 rv1 (by omega) (by omega) HX.out).mono ?_
  rintro e w2 ⟨rfl, d2⟩
  have ru2 := ru1.on d2
  have rv2 := rv1.on d2
  have b2 := b1.trans (d2.mono b1.size)
  clear ru1 rv1 b1 d2
  go_wp2_with fail
  refine (specUpdatesCross_is x A1 A2 c1 c2 us vs _ ru2 rv2 (by omega) (by omega) HX.out).mono ?_
  rintro e w3 ⟨rfl, d3⟩
  have ru3 := ru2.on d3
  have rv3 := rv2.on d3
  have b3 := b2.trans (d3.mono b2.size)
  clear ru2 rv2 b2 d3
  go_wp2_with fail
  refine (specUpdatesValid_is vu A1 c1 us _ ru3 (by omega) HVU.out).mono ?_
  rintro e w4 ⟨rfl, d4⟩
  have ru4 := ru3.on d4
  have rv4 := rv3.on d4
  have b4 := b3.trans (d4.mono b3.size)
  clear ru3 rv3 b3 d4
  cases vu with
  | false =>
    clear HX HVU HVV
    go_wp2_with fail
    go_ret
    exact .mk_ b4
  | true =>
    have PU := hid (HVU.out.1 rfl)
    clear HVU
    go_wp2_with fail
    refine (specUpdatesValid_is vv A2 c2 vs _ rv4 (by omega) HVV.out).mono ?_
    rintro e w5 ⟨rfl, d5⟩
    have ru5 := ru4.on d5
    have rv5 := rv4.on d5
    have b5 := b4.trans (d5.mono b4.size)
    clear ru4 rv4 b4 d5
    cases vv with
    | false =>
      clear HX HVV PU
      go_wp2_with fail
      go_ret
      exact .mk_ b5
    | true =>
      have PV := hid (HVV.out.1 rfl)
      clear HVV
      go_wp2_with fail
      go_loopw [7, 8] (fun f i wr => ∃ (k : Nat) (b : Bool), k ≤ us.length ∧ i = .int .i64 k ∧ f = .bool b ∧ Hid (Found us vs b k) ∧ Dr w5 wr) (fun _ i _ => us.length - (intOf i).toNat)
      case atStart => exact ⟨0, false, Nat.zero_le _, rfl, rfl, .zero us vs, .refl _⟩
      case round =>
        obtain ⟨k, b, hk, rfl, rfl, HB, HW⟩ := hrel
        by_cases hlt : k < us.length
        · obtain ⟨o, ad, ho, e1, ha1, g0, -, -⟩ := (HW.row ru5).up_ hlt
          obtain ⟨y, hy⟩ : ∃ y, o.r = y := ⟨_, rfl⟩
          have HOY : Hid (∀ (h : k < us.length), us[k].r = y) := fun h => by rw [ho, hy]
          have HI := hid (HB.out.in_ y)
          clear HB ho g0 e1 hy
          go_wp2_with fail
          go_loopw [7, 9] (fun f i wr2 => ∃ (j : Nat) (b : Bool), j ≤ vs.length ∧ i = .int .i64 j ∧ f = .bool b ∧ Hid (FoundIn us vs b k y j) ∧ Dr w5 wr2) (fun _ i _ => vs.length - (intOf i).toNat)
          case atStart => exact ⟨0, b, Nat.zero_le _, rfl, rfl, HI, HW⟩
          case round =>
            clear HI
            obtain ⟨j, b2, hj, rfl, rfl, HB, HV⟩ := hrel
            by_cases hlj : j < vs.length
            · cases b2 with
              | true =>
                have HN : Hid (FoundIn us vs true k y (j + 1)) := HB.out
                clear HB
                go_wp2_with fail
                go_quiet (fail)
                go_wp2
                go_roundw
                case rel => exact ⟨j + 1, true, by omega, by go_num, rfl, HN, HV.drewN _⟩
                case measure => simp [intOf]; omega
              | false =>
                obtain ⟨o1, ad1, ho1, e1, ha1, g1, -, -⟩ := (HV.row ru5).up_ hlt
                obtain ⟨o2, ad2, ho2, e2, ha2, g2, -, -⟩ := (HV.row rv5).up_ hlj
                have hy1 := HOY.out hlt
                rw [ho1] at hy1
                rw [hy1] at g1
                have k0 : (0 : Int) ≤ (k : Int) := by omega
                have k1 : (k : Int) < (us.length : Int) := by omega
                have k2 : (0 : Int) ≤ (j : Int) := by omega
                have k3 : (j : Int) < (vs.length : Int) := by omega
                subst e1
                subst e2
                by_cases heq : y = o2.r
                · have e1 : (y == o2.r) = true := by rw [beq_iff_eq]; exact heq
                  have HN : Hid (FoundIn us vs true k y (j + 1)) := ⟨us[k], List.getElem_mem hlt, vs[j], List.getElem_mem hlj, by rw [ho1, ho2, hy1, heq]⟩
                  clear HB heq ho1 ho2 hy1
                  go_wp2_with fail
                  go_quiet (fail)
                  go_wp2
                  go_roundw
                  case rel => exact ⟨j + 1, true, by omega, by go_num, rfl, HN, HV.drewN _⟩
                  case measure => simp [intOf]; omega
                · have e1 : (y == o2.r) = false := by rw [beq_eq_false_iff_ne]; exact heq
                  have HN : Hid (FoundIn us vs false k y (j + 1)) := ⟨HB.out.1, HB.out.2.next hlj (by rw [ho2]; exact heq)⟩
                  clear HB heq ho1 ho2 hy1
                  go_wp2_with fail
                  go_quiet (fail)
                  go_wp2
                  go_roundw
                  case rel => exact ⟨j + 1, false, by omega, by go_num, rfl, HN, HV.drewN _⟩
                  case measure => simp [intOf]; omega
            · have hj' : j = vs.length := by omega
              subst hj'
              have HN : Hid (Found us vs b2 (k + 1)) := HB.out.out_ hlt (HOY.out hlt)
              clear HB HOY
              go_wp2
              go_roundw
              case rel => exact ⟨k + 1, b2, by omega, by go_num, rfl, HN, HV⟩
              case measure => simp [intOf]; omega
        · have hk' : k = us.length := by omega
          subst hk'
          obtain rfl : b = x := by
            rw [Bool.eq_iff_iff]
            exact (HB.out.all PU.out PV.out).trans HX.out.symm
          have HX2 : Hid (b = true ↔ Cross vs us) := HX.out.trans (cross_comm us vs)
          have CS : Hid (∀ y, Row y y.heap.size A1 (upsV us) → Calls Try.prog 24 #[.slice A1 us.length c1, .slice A1 us.length c1] y (Ret (.bool true) y)) := fun y hy => implUpdatesCross_is true A1 A1 c1 c1 us us y hy hy (by omega) (by omega) ⟨fun _ => cross_self PU.out, fun _ => rfl⟩
          have d6 := HW.below w5.heap.size
          have ru6 := ru5.on d6
          have rv6 := rv5.on d6
          have b6 := b5.trans (d6.mono b5.size)
          clear HB PU PV HX ru5 rv5 d6
          go_wp2_with fail
          refine (implUpdatesCross_is b A2 A1 c2 c1 vs us _ rv6 ru6 (by omega) (by omega) HX2.out).mono ?_
          rintro e w7 ⟨rfl, d7⟩
          have ru7 := ru6.on d7
          have b7 := b6.trans (d7.mono b6.size)
          clear HX2 ru6 rv6 b6 d7
          go_wp2_with fail
          refine (CS.out _ ru7).mono ?_
          rintro e w8 ⟨rfl, d8⟩
          go_wp2_with fail
          go_ret
          exact .mk_ (b7.trans (d8.mono b7.size))
theorem FnCross_any (A : Option Addr) (c : Nat) (bs : List Int) (w : World) (f1 : Row w w.heap.size A (bs.map (Value.int .u8))) (f2 : bs.length ≤ c) (f3 : c ≤ maxLen) (f4 : ∀ n ∈ bs, 0 ≤ n ∧ n < 256) :
    Calls Try.prog 9 #[.slice A bs.length c] w (Ret (.bool true) w) := by
  by_cases hl : bs.length ≤ 1048576
  · exact FnCross_yes A c bs w ⟨f1, f2, f3, f4⟩ hl
  · exact FnCross_no A c bs w ⟨f1, f2, f3, f4⟩ hl
end Go.Proofs.Ytimoabghkmebfaa
