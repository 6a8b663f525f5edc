/-
  Walks: is it a store?
-/
import Derived.Test.YtblknnifccmpkaaG3C
namespace Go.Proofs.Ytblknnifccmpkaa
open Go.RowKit Wo Pu

set_option maxHeartbeats 2000000 in
theorem implStoreValid_any (A : Option Addr) (c : Nat) (os : List Ob) (w : World) (h : Objs w w.heap.size A os) (hf : Fit os) (hn : os.length ≤ maxLen) :
    Calls Try.prog 72 #[.slice A os.length c] w (Ret (.bool (storeB os)) w) := by
  unfold maxLen at hn
  by_cases h16 : os.length ≤ 16
  · go_enter Try.func72, Try.ntmps72
    go_wp2_with fail
    go_loopw [3, 12] (fun l i wr => ∃ k : Nat, k ≤ os.length ∧ i = .int .i64 k ∧ l = .int .i64 (prevO os k) ∧ Hid (stB (-1) os = stB (prevO os k) (os.drop k)) ∧ Below w.heap.size w wr) (fun _ i _ => os.length - (intOf i).toNat)
    case atStart => exact ⟨0, Nat.zero_le _, rfl, by rw [prevO_zero], by rw [prevO_zero]; rfl, Below.refl _ _⟩
    case round =>
      obtain ⟨k, hk, rfl, rfl, H, hb⟩ := hrel
      by_cases hlt : k < os.length
      · obtain ⟨ad, A', c', rfl, ha, g0, g1, g2, g3⟩ := (h.below hb (Nat.le_refl _)).at_ hlt
        have hfk := hf os[k] (List.getElem_mem hlt)
        have hz := hb.size
        go_wp2_with fail
        refine (implId_any w.heap.size A' c' os[k].kd os[k].zs os[k].s _ (g3.alloc hz _) (by simp; omega) hfk.1 hfk.2).mono ?_
        rintro e w2 ⟨rfl, hb2⟩
        have hb3 := (hb.alloc hz (.cells #[.int .i64 os[k].kd, .slice A' os[k].zs.length c', .string os[k].s] 38)).trans (hb2.mono (by simp; omega))
        have hi : oid os[k].kd os[k].zs os[k].s.data.toList = iOb os[k] := rfl
        rw [hi]
        clear hi
        by_cases hle : iOb os[k] ≤ prevO os k
        · have F := hid (storeB_a ((H.out).trans (stB_no hlt hle)))
          clear H
          go_wp2
          go_ret
          rw [F.out]
          exact .mk_ hb3
        · have H2 := hid ((H.out).trans (stB_yes hlt (by omega)))
          have HP := hid (prevO_succ hlt)
          clear H
          go_wp2
          go_roundw
          case rel => exact ⟨k + 1, by omega, by go_num, by rw [HP.out], H2, hb3⟩
          case measure => simp [intOf]; omega
      · have hk' : k = os.length := by omega
        have F : Hid (storeB os = true) := by
          show storeB os = true
          rw [storeB_c, decide_eq_true h16]
          rw [H.out, hk', List.drop_length]; rfl
        clear H
        subst hk'
        go_wp2
        go_ret
        rw [F.out]
        exact .mk_ hb
  · have F := hid (storeB_b h16)
    go_enter Try.func72, Try.ntmps72
    go_wp2
    go_ret
    rw [F.out]
    exact .mk_ (Below.refl _ _)

theorem specValid_val (v : Bool) (B : Nat) (A : Option Addr) (c : Nat) (kd : Int) (zs : List Int) (s : ByteArray) (w : World) (hv : vldB kd zs s.size = v) (hr : Row w B A (ints zs)) (hB : B ≤ w.heap.size) (hm : zs.length ≤ maxLen) (hs : s.size ≤ maxLen) :
    Calls Try.prog 70 #[ob kd A zs.length c s] w (Ret (.bool v) w) := by
  subst hv
  exact specValid_any B A c kd zs s w hr hB hm hs
theorem l1Of_val (v : Int) (B : Nat) (A : Option Addr) (c : Nat) (o : Ob) (w : World) (hr : Row w B A (ints o.zs)) (hB : B ≤ w.heap.size) (hv : vOb o = true) (e : iOb o = v) :
    Calls Try.prog 71 #[ob o.kd A o.zs.length c o.s] w (Ret (.int .i64 v) w) := by
  subst e
  rw [iOb_of hv]
  exact l1Of_any B A c o.kd o.zs o.s w hr hB hv

set_option maxHeartbeats 1000000 in
theorem specStoreValid_any (A : Option Addr) (c : Nat) (os : List Ob) (w : World) (h : Objs w w.heap.size A os) (hf : Fit os) (hn : os.length ≤ maxLen) :
    Calls Try.prog 23 #[.slice A os.length c] w (Ret (.bool (storeB os)) w) := by
  unfold maxLen at hn
  go_enter Try.func23, Try.ntmps23
  go_wp2_with fail
  go_loopw [3] (fun i wr => ∃ k : Nat, k ≤ os.length ∧ i = .int .i64 k ∧ Hid (stB (-1) os = stB (prevO os k) (os.drop k)) ∧ Hid (∀ (h : 0 < k ∧ k ≤ os.length), vOb (os[k - 1]'(by omega)) = true) ∧ Below w.heap.size w wr) (fun i _ => os.length - (intOf i).toNat)
  case atStart => exact ⟨0, Nat.zero_le _, rfl, by rw [prevO_zero]; rfl, fun e => absurd e.1 (by omega), Below.refl _ _⟩
  case round =>
    obtain ⟨k, hk, rfl, H, HV, hb⟩ := hrel
    by_cases hlt : k < os.length
    · have hz := hb.size
      obtain ⟨o, ad, A', c', ho, rfl, ha, g0, g1, g2, g3⟩ := (h.below hb (Nat.le_refl _)).obj hlt
      have hfk := hf os[k] (List.getElem_mem hlt)
      have hno := stB_no hlt
      have hyes := stB_yes hlt
      have hlow : -1 ≤ prevO os k := by unfold prevO; split; exact (iOb_range _).1; omega
      rw [ho] at hfk hno hyes
      have k0 : 0 ≤ (k : Int) := by omega
      have k1 : (k : Int) < (os.length : Int) := by omega
      have G0 := Later.cell g0 ha
      have G1 := Later.cell g1 ha
      have G2 := Later.cell g2 ha
      clear g0 g1 g2
      cases hv : vOb o
      · have hi := iOb_no hv
        have F := hid (storeB_a ((H.out).trans (hno (by rw [hi]; exact hlow))))
        have VH : Hid (vldB o.kd o.zs o.s.size = false) := hv
        clear H HV hi hv hno hyes hlow ho
        go_wp2_with fail
        refine wp_region_later w.heap.size (by kernel_rfl) (by kernel_rfl) ?_
        repeat (go_big_quiet_step ((go_at_call 70; exact Later.call hz _ (specValid_val false w.heap.size A' c' o.kd o.zs o.s _ VH.out (g3.later _) (Later.size hz _) hfk.1 hfk.2))))
        refine wpQuiet_nil ?_
        intro _ hw'
        obtain ⟨xx, hxx⟩ := hw'
        have hbx := xx.b
        subst hxx
        go_wp2
        go_ret
        rw [F.out]
        exact .mk_ (hb.trans hbx)
      · have VH : Hid (vldB o.kd o.zs o.s.size = true) := hv
        have VO := hid hv
        have HV2 : Hid (∀ (h : 0 < k + 1 ∧ k + 1 ≤ os.length), vOb (os[k + 1 - 1]'(by omega)) = true) := fun _ => by
          show vOb os[k] = true
          rw [ho]; exact hv
        clear hv
        rcases Nat.eq_zero_or_pos k with h0 | h0
        · subst h0
          have H2 := hid ((H.out).trans (hyes (by rw [prevO_zero]; have := iOb_valid.2 VO.out; omega)))
          clear H HV hno hyes hlow ho
          rw [show 0 * 3 = 0 from rfl, add_zero] at G0 G1 G2
          go_wp2_with fail
          refine wp_region_later w.heap.size (by kernel_rfl) (by kernel_rfl) ?_
          repeat (go_big_quiet_step ((go_at_call 70; exact Later.call hz _ (specValid_val true w.heap.size A' c' o.kd o.zs o.s _ VH.out (g3.later _) (Later.size hz _) hfk.1 hfk.2))))
          refine wpQuiet_nil ?_
          intro _ hw'
          obtain ⟨xx, hxx⟩ := hw'
          have hbx := xx.b
          subst hxx
          go_wp2
          go_roundw
          case rel => exact ⟨0 + 1, by omega, by go_num, H2, HV2, hb.trans hbx⟩
          case measure => simp [intOf]; omega
        · have hlt1 : k - 1 < os.length := by omega
          have hpk := prevO_pos hlt h0
          have VP : Hid (vOb os[k - 1] = true) := HV.out ⟨h0, by omega⟩
          obtain ⟨o1, ad1, A1, c1, ho1, ea, ha1, p0, p1, p2, p3⟩ := (h.below hb (Nat.le_refl _)).obj hlt1
          obtain rfl : ad = ad1 := by injection ea
          clear ea
          rw [ho1] at hpk VP
          have G3 := Later.cell p0 ha1
          have G4 := Later.cell p1 ha1
          have G5 := Later.cell p2 ha1
          clear p0 p1 p2 HV ho ho1 hlow
          by_cases hle : iOb o ≤ iOb o1
          · have F := hid (storeB_a ((H.out).trans (hno (by rw [hpk]; exact hle))))
            clear H hpk hno hyes
            go_wp2_with fail
            refine wp_region_later w.heap.size (by kernel_rfl) (by kernel_rfl) ?_
            repeat (go_big_quiet_step (first | (go_at_call 70; exact Later.call hz _ (specValid_val true w.heap.size A' c' o.kd o.zs o.s _ VH.out (g3.later _) (Later.size hz _) hfk.1 hfk.2)) | (go_at_call_of 71 (Value.agg #[Value.int .i64 o.kd, Value.slice A' o.zs.length c', Value.string o.s]); exact Later.call hz _ (l1Of_val _ w.heap.size A' c' o _ (g3.later _) (Later.size hz _) VO.out rfl)) | (go_at_call_of 71 (Value.agg #[Value.int .i64 o1.kd, Value.slice A1 o1.zs.length c1, Value.string o1.s]); exact Later.call hz _ (l1Of_val _ w.heap.size A1 c1 o1 _ (p3.later _) (Later.size hz _) VP.out rfl))))
            refine wpQuiet_nil ?_
            intro _ hw'
            obtain ⟨xx, hxx⟩ := hw'
            have hbx := xx.b
            subst hxx
            go_wp2
            go_ret
            rw [F.out]
            exact .mk_ (hb.trans hbx)
          · have H2 := hid ((H.out).trans (hyes (by rw [hpk]; omega)))
            clear H hpk hno hyes
            go_wp2_with fail
            refine wp_region_later w.heap.size (by kernel_rfl) (by kernel_rfl) ?_
            repeat (go_big_quiet_step (first | (go_at_call 70; exact Later.call hz _ (specValid_val true w.heap.size A' c' o.kd o.zs o.s _ VH.out (g3.later _) (Later.size hz _) hfk.1 hfk.2)) | (go_at_call_of 71 (Value.agg #[Value.int .i64 o.kd, Value.slice A' o.zs.length c', Value.string o.s]); exact Later.call hz _ (l1Of_val _ w.heap.size A' c' o _ (g3.later _) (Later.size hz _) VO.out rfl)) | (go_at_call_of 71 (Value.agg #[Value.int .i64 o1.kd, Value.slice A1 o1.zs.length c1, Value.string o1.s]); exact Later.call hz _ (l1Of_val _ w.heap.size A1 c1 o1 _ (p3.later _) (Later.size hz _) VP.out rfl))))
            refine wpQuiet_nil ?_
            intro _ hw'
            obtain ⟨xx, hxx⟩ := hw'
            have hbx := xx.b
            subst hxx
            go_wp2
            go_roundw
            case rel => exact ⟨k + 1, by omega, by go_num, H2, HV2, hb.trans hbx⟩
            case measure => simp [intOf]; omega
    · have hk' : k = os.length := by omega
      have hst : stB (-1) os = true := by rw [H.out, hk', List.drop_length]; rfl
      have F := hid (storeB_c hst)
      clear H HV hst
      subst hk'
      go_wp2
      go_ret
      rw [F.out]
      exact .bool_ (by rw [Bool.eq_iff_iff]; simp; omega) hb
end Go.Proofs.Ytblknnifccmpkaa
