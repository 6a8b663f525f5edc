/-
  Walks: the program's LocksTake, with its two refusals as error values.
  What the row's listed error values give the walks.
  What the program's ledger holds: a list of 29 cells.
  Walks: the program's ledger that nothing has been told; a transaction's last state.
  The coordinator with the slices $SA and $SB is stored as the answer, with the word $BB.
-/
import Derived.Test.YteeffchnbkkpfaaDoorLockI
import Derived.Test.YteeffchnbkkpfaaDoorG1C
import Derived.Test.YteeffchnbkkpfaaDoorRows
import Derived.MakeChecks
import Derived.LaidLaws
import Derived.Stop.LaidTwo
import Derived.Test.YteeffchnbkkpfaaDoorG4C
import Derived.Deep.MidRow
import Derived.Test.YteeffchnbkkpfaaDoorG3C
import Derived.Deep.Cut
namespace Go.Proofs.YteeffchnbkkpfaaDoor
open Go.RowKit Wo Pu Rf Lk

/-- The two error values lie as they were laid: a0 that of a locked ref, a1 that of invalid arguments. -/
structure Errs (a0 a1 : Addr) (w : World) : Prop where
  locked : w.cell? ⟨0, 0, none⟩ = some (.iface 132 (.pointer (some a0)))
  invalid : w.cell? ⟨1, 0, none⟩ = some (.iface 132 (.pointer (some a1)))
  ne : a0 ≠ a1
  row0 : ∃ c t, w.heap[a0.block]? = some (.cells c t (0, 0))
  row1 : ∃ c t, w.heap[a1.block]? = some (.cells c t (0, 0))
theorem lt_of_heap {w : World} {k : Nat} {o : Obj} (h : w.heap[k]? = some o) : k < w.heap.size := by
  rcases Nat.lt_or_ge k w.heap.size with h1 | h1
  · exact h1
  · rw [Array.getElem?_eq_none h1] at h; cases h
theorem Errs.below {a0 a1 : Addr} {w w' : World} (h : Errs a0 a1 w) (hb : Below w.heap.size w w') : Errs a0 a1 w' := by
  obtain ⟨h1, h2, h3, ⟨c0, t0, h4⟩, ⟨c1, t1, h5⟩⟩ := h
  refine ⟨?_, ?_, h3, ⟨c0, t0, (hb.block _ (lt_of_heap h4)).trans h4⟩, ⟨c1, t1, (hb.block _ (lt_of_heap h5)).trans h5⟩⟩
  · exact (hb.cell (block_lt_of_cell h1)).trans h1
  · exact (hb.cell (block_lt_of_cell h2)).trans h2

/-- What takeLocks answers. -/
def TakeAns (a0 a1 : Addr) (zs : List Int) (t : Int) (us : List Up) (y : RWay) (w : World) (e : Ending) (w' : World) : Prop :=
  Below w.heap.size w w' ∧ match y with
  | .bad => e = .returned (.tuple #[.slice none 0 0, .iface 132 (.pointer (some a1))])
  | .no => e = .returned (.tuple #[.slice none 0 0, .iface 132 (.pointer (some a0))])
  | .yes => ∃ A c, e = .returned (.tuple #[.slice A zs.length c, .nilIface]) ∧ OwnI w' w.heap.size (.slice A zs.length c) (setR zs (lk t us))
set_option maxRecDepth 100000 in
set_option maxHeartbeats 8000000 in
theorem takeLocks_is (y : RWay) (a0 a1 : Addr) (A A2 : Option Addr) (c c2 : Nat) (zs : List Int) (t : Int) (us : List Up) (w : World) (hE : Errs a0 a1 w) (hz : Row w w.heap.size A (ints zs)) (hu : Row w w.heap.size A2 (upsV us)) (hmz : zs.length ≤ 1048600) (hm : us.length ≤ 1048600) (hy : IsLWay zs t us y) :
    Calls Tryd.prog 81 #[.slice A zs.length c, .int .i64 t, .slice A2 us.length c2] w (TakeAns a0 a1 zs t us y w) := by
  obtain ⟨vz, hvz⟩ := bool_of (LV zs)
  obtain ⟨vt, hvt⟩ := bool_of (TV t)
  obtain ⟨vu, hvu⟩ := bool_of (UV us)
  have CZ : Hid (∀ x, Row x x.heap.size A (ints zs) → Calls Tryd.prog 57 #[.slice A zs.length c] x (Same (.bool vz) x)) := fun x h => implLocksValid_same vz A c zs x _ h hmz hvz
  have CT : Hid (∀ x, Calls Tryd.prog 45 #[.int .i64 t] x (Same (.bool vt) x)) := fun x => txnValid_is vt t x hvt
  have CU : Hid (∀ x, Row x x.heap.size A2 (upsV us) → Calls Tryd.prog 46 #[.slice A2 us.length c2] x (Ret (.bool vu) x)) := fun x h => implUpdatesValid_is vu A2 c2 us x h hm hvu
  have bad : (vz && vt && vu) = false → y = .bad := fun e => by
    have nn : ¬ (LV zs ∧ TV t ∧ UV us) := by
      rintro ⟨g1, g2, g3⟩
      rw [hvz.2 g1, hvt.2 g2, hvu.2 g3] at e
      cases e
    cases y with
    | bad => rfl
    | no => exact absurd ⟨hy.1, hy.2.1, hy.2.2.1⟩ nn
    | yes => exact absurd ⟨hy.1, hy.2.1, hy.2.2.1⟩ nn
  have ye := hE.invalid
  cases vz with
  | false =>
    obtain rfl := bad rfl
    clear hvz hvt hvu hy bad hE
    go_enter Tryd.func81, Tryd.ntmps81
    go_wp2_with fail
    refine (CZ.out _ hz).mono ?_
    rintro e w1 ⟨rfl, rfl⟩
    go_wp2_with fail
    go_quiet (fail)
    go_wp2
    go_ret2
    exact ⟨Wo.Below.drewN (Below.refl _ _) _, rfl⟩
  | true =>
    cases vt with
    | false =>
      obtain rfl := bad rfl
      clear hvz hvt hvu hy bad hE
      go_enter Tryd.func81, Tryd.ntmps81
      go_wp2_with fail
      refine (CZ.out _ hz).mono ?_
      rintro e w1 ⟨rfl, rfl⟩
      go_wp2_with fail
      refine (CT.out _).mono ?_
      rintro e w1 ⟨rfl, rfl⟩
      go_wp2_with fail
      go_quiet (fail)
      go_wp2
      go_ret2
      exact ⟨Wo.Below.drewN (Below.refl _ _) _, rfl⟩
    | true =>
      cases vu with
      | false =>
        obtain rfl := bad rfl
        clear hvz hvt hvu hy bad ye
        go_enter Tryd.func81, Tryd.ntmps81
        go_wp2_with fail
        refine (CZ.out _ hz).mono ?_
        rintro e w1 ⟨rfl, rfl⟩
        go_wp2_with fail
        refine (CT.out _).mono ?_
        rintro e w1 ⟨rfl, rfl⟩
        go_wp2_with fail
        refine (CU.out _ hu).mono ?_
        rintro e w2 ⟨rfl, b2⟩
        have ye := (hE.below b2).invalid
        clear hE
        go_wp2_with fail
        go_quiet (fail)
        go_wp2
        go_ret2
        exact ⟨Wo.Below.drewN b2 _, rfl⟩
      | true =>
        have lv := hvz.1 rfl
        have tv := hvt.1 rfl
        have uv := hvu.1 rfl
        have hr := refs4_of uv
        have H4 := hid lv.1
        have HF : Hid (Fits zs (lk t us) ↔ y = .yes) := by
          show _ ↔ _
          cases y with
          | bad => exact absurd ⟨lv, tv, uv⟩ hy
          | no => exact ⟨fun e => absurd e hy.2.2.2, fun e => by cases e⟩
          | yes => exact ⟨fun _ => rfl, fun _ => hy.2.2.2⟩
        have HNB : Hid (y ≠ .bad) := by
          show _ ≠ _
          rintro rfl
          exact hy ⟨lv, tv, uv⟩
        have CN : Hid (∀ x, Row x x.heap.size A (ints zs) → Calls Tryd.prog 54 #[.slice A zs.length c] x (IntsOf zs x)) := fun x h => copyNumbers_of A c zs.length zs x h rfl (by have := H4.out; omega)
        clear hvz hvt hvu hy bad lv tv uv ye
        go_enter Tryd.func81, Tryd.ntmps81
        go_wp2_with fail
        refine (CZ.out _ hz).mono ?_
        rintro e w1 ⟨rfl, rfl⟩
        go_wp2_with fail
        refine (CT.out _).mono ?_
        rintro e w1 ⟨rfl, rfl⟩
        go_wp2_with fail
        refine (CU.out _ hu).mono ?_
        rintro e w2 ⟨rfl, b2⟩
        have HE0 := hid hE
        have r2 := (hz.below b2 (Nat.le_refl _)).more b2.size
        clear hE
        go_wp2_with fail
        refine (CN.out _ r2).mono ?_
        rintro e w4 ⟨A4, c4, rfl, o4, b4'⟩
        have b4 := b2.trans (b4'.mono b2.size)
        have o4' := o4.base (B' := w.heap.size) b2.size
        obtain ⟨g, c5, hgc, hg1, hg2⟩ := o4'.at (by rw [H4.out]; omega)
        injection hgc with e1 e2 e3
        subst e1
        subst e3
        clear e2 b2 r2 b4' o4 CZ CT CU CN
        go_wp2_with fail
        go_loopw [29] (fun i wr => ∃ k : Nat, k ≤ us.length ∧ i = .int .i64 k ∧ OwnI wr w.heap.size (.slice (some ⟨g, 0, none⟩) zs.length c4) (setR zs (lk t (us.take k))) ∧ Hid (FitTo zs (lk t us) k) ∧ Below w.heap.size w wr) (fun i _ => us.length - (intOf i).toNat)
        case atStart => exact ⟨0, Nat.zero_le _, rfl, (by rw [List.take_zero]; exact o4'), FitTo.zero zs _, b4⟩
        case round =>
          obtain ⟨k, hk, rfl, ho, HFT, hb⟩ := hrel
          clear o4' b4
          by_cases hlt : k < us.length
          · obtain ⟨o, ad, ho1, rfl, ha1, g0, g1, g2⟩ := (hu.below hb (Nat.le_refl _)).up_ hlt
            obtain ⟨q0, q1⟩ := hr _ (List.getElem_mem hlt)
            rw [ho1] at q0 q1
            obtain ⟨m, hm0⟩ := Int.eq_ofNat_of_zero_le q0
            rw [hm0] at g0
            have hmz0 : m < zs.length := by rw [H4.out]; omega
            obtain ⟨adz, ez, hbz, cz⟩ := (hz.below hb (Nat.le_refl _)).int_ hmz0
            have hkl : k < (lk t us).length := by rw [lk_length]; exact hlt
            have hge : (lk t us)[k] = lk1 t o := by rw [← ho1]; exact lk_get hlt hkl
            have hfit : fit1 zs (lk t us)[k] ↔ zs[m] = -1 := by
              rw [hge]
              unfold fit1
              rw [show (lk1 t o).r = o.r from rfl, hm0, Int.toNat_natCast, List.getElem?_eq_getElem hmz0]
              exact ⟨fun h => by injection h, fun h => by rw [h]; rfl⟩
            have k0 : (0 : Int) ≤ (k : Int) := by omega
            have k1 : (k : Int) < (us.length : Int) := by omega
            have k2 : (0 : Int) ≤ (m : Int) := by omega
            have k3 : (m : Int) < (zs.length : Int) := by omega
            subst ez
            have hzw := hb.size
            have u1 := Blk.new_ wr 39 (.int .i64 (m : Int)) (.int .i64 o.o) (.int .i64 o.n)
            have bb := (Below.refl wr.heap.size wr).alloc (Nat.le_refl _) (.cells #[.int .i64 (m : Int), .int .i64 o.o, .int .i64 o.n] 39)
            obtain ⟨W1, hW1⟩ : ∃ W1, wr.alloc (.cells #[.int .i64 (m : Int), .int .i64 o.o, .int .i64 o.n] 39) = W1 := ⟨_, rfl⟩
            rw [hW1] at u1 bb
            have hb1 := hb.trans (bb.mono hzw)
            have ho1' := ho.below bb (Nat.le_refl _)
            have cz1 : W1.cell? (adz.add m) = some (.int .i64 zs[m]) := (bb.cell (by rw [add_block]; exact Nat.lt_of_lt_of_le hbz hzw)).trans cz
            obtain ⟨z0, -, -, -⟩ := id u1.reads
            clear cz ho hb bb
            by_cases heq : zs[m] = -1
            · have e0 : (zs[m] != -1) = false := by rw [bne_eq_false_iff_eq]; exact heq
              have HN := hid (HFT.out.next hkl (hfit.2 heq))
              have hsl := setR_length (lk t (us.take k)) zs
              have ho' : OwnI W1 w.heap.size (.slice (some ⟨g, 0, none⟩) (setR zs (lk t (us.take k))).length c4) (setR zs (lk t (us.take k))) := by rw [hsl]; exact ho1'
              have hmz : m < (setR zs (lk t (us.take k))).length := by rw [hsl]; exact hmz0
              have y0 := ho'.cell hmz
              have f0 := World.ownsRow.frozenAt ho' m
              have ho2 := ho'.set m t
              have hb2 := hb1.setCell (p := ⟨g, m, none⟩) hg1 (.int .i64 t)
              have hst : setR zs (lk t (us.take (k + 1))) = (setR zs (lk t (us.take k))).set m t := by
                rw [List.take_succ_eq_append_getElem hlt, ho1]
                unfold lk
                rw [List.map_append]
                show setR zs (_ ++ [lk1 t o]) = _
                rw [setR_snoc]
                show (setR zs _).set o.r.toNat t = _
                rw [hm0, Int.toNat_natCast]
              have hl2 : ((setR zs (lk t (us.take k))).set m t).length = zs.length := by rw [List.length_set, hsl]
              rw [← hst] at ho2 hl2
              rw [hl2] at ho2
              clear ho1' ho' hb1 hst hl2 hsl q0 q1 hm0 ho1 HFT heq hfit hge
              go_wp2
              go_roundw
              case rel => exact ⟨k + 1, by omega, by go_num, ho2, HN, hb2⟩
              case measure => simp [intOf]; omega
            · have e0 : (zs[m] != -1) = true := by rw [bne_iff_ne]; exact heq
              have F : Hid (y = .no) := by
                show y = .no
                cases y with
                | bad => exact absurd rfl HNB.out
                | no => rfl
                | yes => exact absurd (hfit.1 (HF.out.2 rfl _ (List.getElem_mem hkl))) heq
              have ye := (HE0.out.below hb1).locked
              clear ho1' HFT heq hfit hge q0 q1 hm0 ho1
              go_wp2_with fail
              go_quiet (fail)
              go_wp2
              go_ret2
              rw [F.out]
              exact ⟨Wo.Below.drewN hb1 _, rfl⟩
          · have hk' : k = us.length := by omega
            subst hk'
            rw [List.take_length] at ho
            have F : Hid (y = .yes) := by
              refine HF.out.1 (FitTo.all ?_)
              rw [lk_length]
              exact HFT.out
            clear HFT
            go_wp2
            go_ret2
            rw [F.out]
            exact ⟨hb, _, _, rfl, ho⟩
set_option maxRecDepth 100000 in
set_option maxHeartbeats 8000000 in
theorem implLocksTake_is (y : RWay) (a0 a1 : Addr) (A A2 : Option Addr) (c c2 : Nat) (zs : List Int) (t : Int) (us : List Up) (w : World) (hE : Errs a0 a1 w) (hz : Row w w.heap.size A (ints zs)) (hu : Row w w.heap.size A2 (upsV us)) (hmz : zs.length ≤ 1048600) (hm : us.length ≤ 1048600) (hy : IsLWay zs t us y) :
    Calls Tryd.prog 79 #[.slice A zs.length c, .int .i64 t, .slice A2 us.length c2] w (Took (applied zs (lk t us) y) y.ok w) := by
  have CT := hid (takeLocks_is y a0 a1 A A2 c c2 zs t us w hE hz hu hmz hm hy)
  have HE := hid hE
  obtain ⟨c0, t0, r0⟩ := hE.row0
  obtain ⟨c1, t1, r1⟩ := hE.row1
  have R0 := hid r0
  have R1 := hid r1
  have HNE := hid hE.ne
  clear r0 r1 hE
  cases y with
  | bad =>
    clear hy hm hmz hu hz
    go_enter Tryd.func79, Tryd.ntmps79
    go_wp2_with fail
    refine (CT.out).mono ?_
    rintro e w1 ⟨b1, rfl⟩
    have hE1 := HE.out.below b1
    have ye := hE1.locked
    have CI : Hid (∀ x, Below w1.heap.size w1 x → Calls Tryd.prog 82 #[.iface 132 (.pointer (some a1)), .iface 132 (.pointer (some a0))] x fun e w' => e = .returned (.bool false) ∧ w' = x) := fun x hx => by
      obtain ⟨c0, t0, r0⟩ := (hE1.below hx).row0
      obtain ⟨c1, t1, r1⟩ := (hE1.below hx).row1
      exact is_other a1 a0 c1 c0 t1 t0 x hE1.ne.symm r1 r0
    have al := (b1.alloc b1.size (.cells #[] 3))
    clear hE1 CT
    go_wp2_with fail
    refine (CI.out _ (Below.refl _ _)).mono ?_
    rintro e w2 ⟨rfl, rfl⟩
    go_wp2_with fail
    go_ret2
    exact ⟨_, _, rfl, OwnI.nil_new b1.size, al⟩
  | no =>
    have h4 := hy.1.1
    have CN : Hid (∀ x, Row x x.heap.size A (ints zs) → Calls Tryd.prog 54 #[.slice A zs.length c] x (IntsOf zs x)) := fun x h => copyNumbers_of A c zs.length zs x h rfl (by omega)
    clear hy hm hmz hu h4
    go_enter Tryd.func79, Tryd.ntmps79
    go_wp2_with fail
    refine (CT.out).mono ?_
    rintro e w1 ⟨b1, rfl⟩
    have ye := (HE.out.below b1).locked
    have r2 := (hz.below b1 (Nat.le_refl _)).more b1.size
    go_wp2_with fail
    refine (is_same a0 _).mono ?_
    rintro e w2 ⟨rfl, rfl⟩
    go_wp2_with fail
    refine (CN.out _ r2).mono ?_
    rintro e w3 ⟨A3, c3, rfl, o3, b3⟩
    have b4 := b1.trans (b3.mono b1.size)
    have o4 := o3.base b1.size
    go_wp2_with fail
    go_ret2
    exact ⟨A3, c3, rfl, o4, b4⟩
  | yes =>
    have HL := hid (setR_length (lk t us) zs)
    clear hy hm hmz hu hz
    go_enter Tryd.func79, Tryd.ntmps79
    go_wp2_with fail
    refine (CT.out).mono ?_
    rintro e w1 ⟨b1, A3, c3, rfl, o3⟩
    have ye := (HE.out.below b1).locked
    go_wp2_with fail
    refine (is_nil a0 _).mono ?_
    rintro e w2 ⟨rfl, rfl⟩
    go_wp2_with fail
    go_ret2
    exact ⟨A3, c3, (by show _ = Ending.returned (.tuple #[.slice A3 (setR zs (lk t us)).length c3, .bool true]); rw [HL.out]; rfl), by show OwnI _ _ (.slice A3 (setR zs (lk t us)).length c3) _; rw [HL.out]; exact o3, b1⟩
end Go.Proofs.YteeffchnbkkpfaaDoor
namespace Go.Proofs.YteeffchnbkkpfaaDoor
theorem lk_gI : Tryd.prog.globalNamed "loop.example/atomicpush/impl.errLocksInvalid" = some 1 := by kernel_rfl
theorem lk_gR : Tryd.prog.globalNamed "loop.example/atomicpush/impl.errRefLocked" = some 0 := by kernel_rfl
theorem lk_gIT : (Tryd.prog.globals[1]?).map (·.type) = some 112 := by kernel_rfl
theorem lk_gRT : (Tryd.prog.globals[0]?).map (·.type) = some 112 := by kernel_rfl
theorem lk_cells1 : Tryd.prog.cellsOf 157 = 1 := by kernel_rfl
theorem lk_cells2 : Tryd.prog.cellsOf 9 = 1 := by kernel_rfl
theorem lk_star : "*" ++ "errors.errorString" = "*errors.errorString" := by decide
theorem lk_row (u : TypeId) (h : Tryd.prog.typeName? 3 u = some "*errors.errorString") : u = 132 :=
  typeName_ptr_named (nm := "errors.errorString") (by rw [lk_star]; kernel_rfl) (by kernel_rfl) (by decide) u (by rw [lk_star]; exact h)
def laidErrs : List (String × DataW Unit) := [("loop.example/atomicpush/impl.errLocksInvalid", Rows.laid_loop_example_atomicpush_impl_errLocksInvalid), ("loop.example/atomicpush/impl.errRefLocked", Rows.laid_loop_example_atomicpush_impl_errRefLocked)]
theorem errs_of_laid {W : World} (h : laidMetH Tryd.prog laidErrs W) : ∃ a0 a1, Errs a0 a1 W := by
  rw [MakeChecks.laidMetH_plain _ _ _ (by kernel_rfl)] at h
  obtain ⟨x0, x1, s0, s1, c0, c1, t0, t1, hv0, hv1, -, -, -, -, -, -, hne, hb0, hb1⟩ := laid_sentinels2 h lk_gI lk_gIT lk_gR lk_gRT Tryd.underlying112 lk_row Tryd.underlying132 Tryd.underlying157 rfl rfl Tryd.underlying9 lk_cells1 lk_cells2
  exact ⟨x1, x0, by simpa using World.var?_cell lk_gR hv1 0, by simpa using World.var?_cell lk_gI hv0 0, hne.symm, ⟨c1, t1, hb1⟩, ⟨c0, t0, hb0⟩⟩
end Go.Proofs.YteeffchnbkkpfaaDoor
namespace Go.Proofs.YteeffchnbkkpfaaDoor
open Go.RowKit Wo Pu Rf Lk Sh

/-- The states of all transactions. -/
def stL (rs : List Rec) : List Int := (List.range 12).map fun i => Sh.ask rs (i : Nat)
theorem stL_length (rs : List Rec) : (stL rs).length = 12 := by simp [stL]
theorem stL_get {rs : List Rec} {i : Nat} (h : i < 12) : (stL rs)[i]? = some (Sh.ask rs (i : Nat)) := by simp [stL, h]
theorem stL_nil : stL [] = [0, 0, 0, 0, 0, 0, 0, 0, 0, 0, 0, 0] := rfl
theorem stL_snoc {rs : List Rec} {r : Rec} {m : Nat} (hr : r.t = (m : Int)) : stL (rs ++ [r]) = (stL rs).set m r.k := by
  apply List.ext_getElem?
  intro i
  by_cases hi : i < 12
  · rw [stL_get hi, ask_snoc, hr, List.getElem?_set, stL_length]
    by_cases e : m = i
    · subst e
      rw [if_pos rfl, if_pos rfl, if_pos hi]
    · rw [if_neg (by omega), if_neg e, stL_get hi]
  · rw [List.getElem?_eq_none (by rw [stL_length]; omega), List.getElem?_eq_none (by rw [List.length_set, stL_length]; omega)]
/-- The cells of a ledger. -/
def ledC (zs : List Int) (L : Value) (st : List Int) (us : List Value) : List Value := ints zs ++ L :: (ints st ++ us)
theorem ints_at {zs : List Int} {i : Nat} (h : i < zs.length) : (ints zs)[i]? = some (.int .i64 zs[i]) := by simp [ints, h]
section
variable {zs st : List Int} {L : Value} {us : List Value}
theorem ledC_length (h1 : zs.length = 4) (h2 : st.length = 12) (h3 : us.length = 12) : (ledC zs L st us).length = 29 := by simp [ledC, ints, h1, h2, h3]
theorem ledC_locks (h1 : zs.length = 4) : (ledC zs L st us)[4]? = some L := by
  unfold ledC
  rw [List.getElem?_append_right (by simp [ints, h1])]
  simp [ints, h1]
theorem ledC_state (h1 : zs.length = 4) (h2 : st.length = 12) {i : Nat} (hi : i < 12) : (ledC zs L st us)[5 + i]? = some (.int .i64 (st[i]'(by omega))) := by
  unfold ledC
  rw [List.getElem?_append_right (by simp [ints, h1]; omega)]
  have e : 5 + i - (ints zs).length = i + 1 := by simp [ints, h1]; omega
  rw [e, List.getElem?_cons_succ, List.getElem?_append_left (by simp [ints, h2]; omega), ints_at (by omega)]
theorem ledC_ups (h1 : zs.length = 4) (h2 : st.length = 12) (i : Nat) : (ledC zs L st us)[17 + i]? = us[i]? := by
  unfold ledC
  rw [List.getElem?_append_right (by simp [ints, h1]; omega)]
  have e : 17 + i - (ints zs).length = (12 + i) + 1 := by simp [ints, h1]; omega
  rw [e, List.getElem?_cons_succ, List.getElem?_append_right (by simp [ints, h2])]
  congr 1
  simp [ints, h2]
theorem ledC_ref (h1 : zs.length = 4) {i : Nat} (hi : i < 4) : (ledC zs L st us)[i]? = some (.int .i64 (zs[i]'(by omega))) := by
  unfold ledC
  rw [List.getElem?_append_left (by simp [ints, h1]; omega), ints_at (by omega)]
theorem ledC_range {j : Nat} {v : Value} (h : (ints zs)[j]? = some v) : (ledC zs L st us)[j]? = some v := by
  unfold ledC
  rw [List.getElem?_append_left (by rcases Nat.lt_or_ge j (ints zs).length with e | e; exact e; rw [List.getElem?_eq_none e] at h; cases h)]
  exact h
theorem ints_set' (zs : List Int) (i : Nat) (z : Int) : (ints zs).set i (.int .i64 z) = ints (zs.set i z) := by simp [ints, List.map_set]
theorem ledC_set_ref (h1 : zs.length = 4) {i : Nat} (hi : i < 4) (z : Int) : (ledC zs L st us).set i (.int .i64 z) = ledC (zs.set i z) L st us := by
  unfold ledC
  rw [List.set_append_left _ _ (by simp [ints, h1]; omega), ints_set']
theorem ledC_set_locks (h1 : zs.length = 4) (L' : Value) : (ledC zs L st us).set 4 L' = ledC zs L' st us := by
  unfold ledC
  rw [List.set_append_right _ _ (by simp [ints, h1])]
  simp [ints, h1]
theorem ledC_set_state (h1 : zs.length = 4) (h2 : st.length = 12) {i : Nat} (hi : i < 12) (z : Int) : (ledC zs L st us).set (5 + i) (.int .i64 z) = ledC zs L (st.set i z) us := by
  unfold ledC
  rw [List.set_append_right _ _ (by simp [ints, h1]; omega)]
  have e : 5 + i - (ints zs).length = i + 1 := by simp [ints, h1]; omega
  rw [e, List.set_cons_succ, List.set_append_left _ _ (by simp [ints, h2]; omega), ints_set']
theorem ledC_set_ups (h1 : zs.length = 4) (h2 : st.length = 12) (i : Nat) (u : Value) : (ledC zs L st us).set (17 + i) u = ledC zs L st (us.set i u) := by
  unfold ledC
  rw [List.set_append_right _ _ (by simp [ints, h1]; omega)]
  have e : 17 + i - (ints zs).length = (12 + i) + 1 := by simp [ints, h1]; omega
  rw [e, List.set_cons_succ, List.set_append_right _ _ (by simp [ints, h2])]
  congr 2
  simp [ints, h2]
theorem ledC_ones (hL : L.oneCell' = true) (hu : ∀ u ∈ us, u.oneCell' = true) : (ledC zs L st us).toArray.all (·.oneCell') = true := by
  refine all_oneCell_toArray fun v hv => ?_
  unfold ledC at hv
  simp only [List.mem_append, List.mem_cons, ints, List.mem_map] at hv
  rcases hv with ⟨z, -, rfl⟩ | rfl | ⟨z, -, rfl⟩ | hv
  · rfl
  · exact hL
  · rfl
  · exact hu v hv
end
theorem info_led : (Tryd.prog.info? 65).map (·.size) = some 29 := by kernel_rfl
/-- The cells of a ledger that nothing has been told. -/
def led0 : List Value := ledC [0, 0, 0, 0] (.slice none 0 0) [0, 0, 0, 0, 0, 0, 0, 0, 0, 0, 0, 0] (List.replicate 12 (.slice none 0 0))
/-- The cells of some ledger. -/
def Led (cs : List Value) : Prop := cs.length = 29 ∧ cs.toArray.all (·.oneCell') = true
theorem Led.size {cs : List Value} (h : Led cs) : cs.toArray.size = 29 := by rw [List.size_toArray]; exact h.1
theorem Led.info {cs : List Value} (h : Led cs) : (Tryd.prog.info? 65).map (·.size) = some cs.toArray.size := by rw [h.size]; exact info_led
theorem Led.mk_ {zs st : List Int} {L : Value} {us : List Value} (h1 : zs.length = 4) (h2 : st.length = 12) (h3 : us.length = 12) (hL : L.oneCell' = true) (hu : ∀ u ∈ us, u.oneCell' = true) : Led (ledC zs L st us) := ⟨ledC_length h1 h2 h3, ledC_ones hL hu⟩
theorem led0_led : Led led0 := Led.mk_ rfl rfl rfl rfl (fun u hu => by rw [List.mem_replicate] at hu; rw [hu.2]; rfl)
/-- The cells cs are those of the ledger of the records rs, whose state is s; its locks are the call's own, the updates lie below. -/
def LdV (w : World) (B : Nat) (cs : List Value) (rs : List Rec) (s : St) : Prop :=
  ∃ A c us, cs = ledC s.refs (.slice A s.locks.length c) (stL rs) us ∧ us.length = 12 ∧ (∀ u ∈ us, u.oneCell' = true) ∧ OwnI w B (.slice A s.locks.length c) s.locks ∧
    ∀ t : Nat, t < 12 → Sh.ask rs (t : Int) = 1 → ∃ A' c', us[t]? = some (.slice A' (Sh.upd rs t).length c') ∧ Row w B A' (upsV (Sh.upd rs t))
theorem LdV.below {w w' : World} {B : Nat} {cs : List Value} {rs : List Rec} {s : St} (h : LdV w B cs rs s) (hB : B ≤ w.heap.size) (hb : Below w.heap.size w w') : LdV w' B cs rs s := by
  obtain ⟨A, c, us, h1, h2, h3, h4, h5⟩ := h
  refine ⟨A, c, us, h1, h2, h3, h4.below hb (Nat.le_refl _), fun t ht ha => ?_⟩
  obtain ⟨A', c', q1, q2⟩ := h5 t ht ha
  exact ⟨A', c', q1, q2.below hb hB⟩
theorem LdV.base {w : World} {B B' : Nat} {cs : List Value} {s : St} (h : LdV w B cs [] s) (hB : B' ≤ B) : LdV w B' cs [] s := by
  obtain ⟨A, c, us, h1, h2, h3, h4, h5⟩ := h
  exact ⟨A, c, us, h1, h2, h3, h4.base hB, fun t _ ha => absurd ha (by unfold Sh.ask; simp)⟩
theorem row_but_hi {w w' : World} {B R : Nat} {A : Option Addr} {xs : List Value} (h : Row w B A xs) (hb : But R w w') (hR : B ≤ R) (hB : B ≤ w.heap.size) : Row w' B A xs :=
  h.below (C := B) ⟨hb.os, hb.tape, hb.output, hb.size, fun k hk => hb.block k (by omega) (fun e => by injection e with e; omega)⟩ (Nat.le_refl _)
theorem LdV.but {w w' : World} {B R : Nat} {T : TypeId} {cur : Array Value} {cs : List Value} {rs : List Rec} {s : St} (h : LdV w B cs rs s) (hB : B ≤ w.heap.size) (hb : But R w w') (hR : B ≤ R) (hx : w.heap[R]? = some (.cells cur T (0, 0))) (hT : 3 ≠ T) : LdV w' B cs rs s := by
  obtain ⟨A, c, us, h1, h2, h3, h4, h5⟩ := h
  refine ⟨A, c, us, h1, h2, h3, row_far_type h4 hT hb (blk_type hx), fun t ht ha => ?_⟩
  obtain ⟨A', c', q1, q2⟩ := h5 t ht ha
  exact ⟨A', c', q1, row_but_hi q2 hb hR hB⟩
theorem LdV.led {w : World} {B : Nat} {cs : List Value} {rs : List Rec} {s : St} (h : LdV w B cs rs s) (h4 : s.refs.length = 4) : Led cs := by
  obtain ⟨A, c, us, rfl, h2, h3, -, -⟩ := h
  exact Led.mk_ h4 (stL_length rs) h2 rfl h3
theorem row_on {w w' : World} {A : Option Addr} {vs : List Value} (h : Row w w.heap.size A vs) (hb : Below w.heap.size w w') : Row w' w'.heap.size A vs := (h.below hb (Nat.le_refl _)).more hb.size
theorem Arr4.get_ {w : World} {g : Nat} {t : TypeId} {vs : List Value} (h : Arr4 w g t vs) {i : Nat} {v : Value} (hv : vs[i]? = some v) : w.cell? ⟨g, i, none⟩ = some v := by
  have hi : i < vs.length := by rcases Nat.lt_or_ge i vs.length with e | e; exact e; rw [List.getElem?_eq_none e] at hv; cases hv
  rw [h.read hi, ← List.getElem?_eq_getElem]
  exact hv
theorem Arr4.has_ {w : World} {g : Nat} {t : TypeId} {vs : List Value} (h : Arr4 w g t vs) {i : Nat} (hi : i < vs.length) : ∃ v, w.cell? ⟨g, i, none⟩ = some v := ⟨_, h.read hi⟩
theorem results_row_slot {fn : Func} {p s : Tmp} {ty : TypeId} (h : fn.results = #[.cell p ty, .tmp s]) (tmps : Array Value) (w : World) (g : Nat) (t : TypeId) (cs : Array Value) (fr : Nat × Nat) (fs : Array Field) (v : Value)
    (hp : tmps.getD p undef = .pointer (some ⟨g, 0, none⟩)) (hs : tmps.getD s undef = v) (hg : w.heap[g]? = some (.cells cs t fr))
    (hu : Tryd.prog.underlying ty = some (.struct fs)) (hi : (Tryd.prog.info? ty).map (·.size) = some cs.size) :
    (results fn tmps).run Tryd.prog w = .ok (.tuple #[.agg cs, v]) w := by
  have hp' : tmps[p]?.getD undef = .pointer (some ⟨g, 0, none⟩) := by simpa using hp
  have hs' : tmps[s]?.getD undef = v := by simpa using hs
  simp [results, h, hp', hs', asAddr, run_loadVar_row w g t ty cs fr (.struct fs) hg hu rfl hi]
/-- Stores into the midst of an array. -/
theorem Arr4.set4 {w : World} {g : Nat} {t : TypeId} {vs : List Value} (h : Arr4 w g t vs) (a b c d : Value) : Arr4 (w.setCells g 0 [a, b, c, d]) g t ((((vs.set 0 a).set 1 b).set 2 c).set 3 d) := by
  show Arr4 ((((w.setCell ⟨g, 0, none⟩ a).setCell ⟨g, 1, none⟩ b).setCell ⟨g, 2, none⟩ c).setCell ⟨g, 3, none⟩ d) g t _
  exact (((h.set 0 a).set 1 b).set 2 c).set 3 d
end Go.Proofs.YteeffchnbkkpfaaDoor
namespace Go.Proofs.YteeffchnbkkpfaaDoor
open Go.RowKit Wo Pu Rf Lk Sh

/-- Behind it: the ledger of no records. -/
def NewLed (w : World) (e : Ending) (w' : World) : Prop := ∃ cs, e = .returned (.agg cs.toArray) ∧ LdV w' w.heap.size cs [] ⟨[-1, -1, -1, -1], [-1, -1, -1, -1]⟩ ∧ Below w.heap.size w w'
theorem Arr4.grown {w w' : World} {g : Nat} {t : TypeId} {vs : List Value} {row : Option Nat} (h : Arr4 w g t vs) (hg : w.grownBy w' row) (hr : some g ≠ row) : Arr4 w' g t vs := (hg.block g h.lt hr).trans h
theorem but_setRow (w : World) (R : Nat) (cs : Array Value) : But R w (w.setRow R cs) := ⟨rfl, rfl, rfl, by simp, fun k _ hne => setRow_other w R k cs (fun e => hne (by rw [e]))⟩
/-- The first k refs without an id. -/
def noRefs (k : Nat) : List Int := List.replicate k (-1) ++ List.replicate (4 - k) 0
theorem noRefs_length {k : Nat} (h : k ≤ 4) : (noRefs k).length = 4 := by simp [noRefs]; omega
theorem noRefs_set {k : Nat} (h : k < 4) : (noRefs k).set k (-1) = noRefs (k + 1) := by
  have key : k = 0 ∨ k = 1 ∨ k = 2 ∨ k = 3 := by omega
  rcases key with rfl | rfl | rfl | rfl <;> rfl
def zst : List Int := [0, 0, 0, 0, 0, 0, 0, 0, 0, 0, 0, 0]
def zus : List Value := List.replicate 12 (.slice none 0 0)
def led1 : List Value := ledC [-1, -1, -1, -1] (.slice none 0 0) zst zus
theorem build_led (W : World) : (Instr.build 65 #[(0, .agg (ints [-1, -1, -1, -1]).toArray)]).run Tryd.prog W = .ok (.agg led1.toArray) W := by kernel_rfl
theorem led1_led : Led led1 := Led.mk_ (L := .slice none 0 0) (us := zus) rfl (st := zst) rfl rfl rfl (fun u hu => by unfold zus at hu; rw [List.mem_replicate] at hu; rw [hu.2]; rfl)
set_option maxRecDepth 100000 in
set_option maxHeartbeats 4000000 in
theorem newLedger_is (w : World) : Calls Tryd.prog 62 #[] w (NewLed w) := by
  obtain ⟨i0, hi, hz0, hz1, hz2⟩ := info_of info_int
  have a0 := Arr4.new_ w 65 led0
  have b0 := (Below.refl w.heap.size w).alloc (Nat.le_refl _) (.cells led0.toArray 65)
  go_enter Tryd.func62, Tryd.ntmps62
  go_upto_region 1 with fail
  obtain ⟨w1, hw1⟩ : ∃ x, w.alloc (.cells led0.toArray 65) = x := ⟨_, rfl⟩
  have hw1' : w.alloc (.cells #[.int .i64 0, .int .i64 0, .int .i64 0, .int .i64 0, .slice none 0 0, .int .i64 0, .int .i64 0, .int .i64 0, .int .i64 0, .int .i64 0, .int .i64 0, .int .i64 0, .int .i64 0, .int .i64 0, .int .i64 0, .int .i64 0, .int .i64 0, .slice none 0 0, .slice none 0 0, .slice none 0 0, .slice none 0 0, .slice none 0 0, .slice none 0 0, .slice none 0 0, .slice none 0 0, .slice none 0 0, .slice none 0 0, .slice none 0 0, .slice none 0 0] 65) = w1 := hw1
  rw [hw1] at a0 b0
  try rw [hw1']
  try rw [hw1]
  clear hw1 hw1'
  go_wp2_with fail
  refine (newRefs_is w1).mono ?_
  rintro e w2 ⟨rfl, d⟩
  have hbl := build_led
  replace a0 := a0.below d a0.lt
  have b2 := b0.trans (d.mono b0.size)
  have a1 := Arr4.new_ w2 65 led0
  have hne : w.heap.size ≠ w2.heap.size := by have := a0.lt; omega
  have b3 := below_setRow (g := w2.heap.size) (b2.alloc b2.size (.cells led0.toArray 65)) b2.size led1.toArray
  have hs1 : (w2.alloc (.cells led0.toArray 65)).heap[w2.heap.size]? = some (.cells led0.toArray 65 (0, 0)) := a1
  have a2 : Arr4 ((w2.alloc (.cells led0.toArray 65)).setRow w2.heap.size led1.toArray) w2.heap.size 65 led1 := setRow_heap _ _ _ _ _ _ hs1
  have a02 : Arr4 ((w2.alloc (.cells led0.toArray 65)).setRow w2.heap.size led1.toArray) w.heap.size 65 led0 := (setRow_other _ _ _ _ hne).trans (a0.alloc (.cells led0.toArray 65))
  have hgw : w.heap.size ≤ w2.heap.size := b2.size
  go_upto_region 2 with (refine wpList_store_rowTo rfl 65 _ _ rfl rfl w2.heap.size led1.toArray rfl rfl 65 led0.toArray hs1 led1_led.info (led0_led.size.trans led1_led.size.symm) led1_led.2 ?_)
  obtain ⟨w3, hw3⟩ : ∃ x, (w2.alloc (.cells led0.toArray 65)).setRow w2.heap.size led1.toArray = x := ⟨_, rfl⟩
  obtain ⟨g, hg⟩ : ∃ x, w2.heap.size = x := ⟨_, rfl⟩
  have hw3' : (w2.alloc (.cells #[.int .i64 0, .int .i64 0, .int .i64 0, .int .i64 0, .slice none 0 0, .int .i64 0, .int .i64 0, .int .i64 0, .int .i64 0, .int .i64 0, .int .i64 0, .int .i64 0, .int .i64 0, .int .i64 0, .int .i64 0, .int .i64 0, .int .i64 0, .slice none 0 0, .slice none 0 0, .slice none 0 0, .slice none 0 0, .slice none 0 0, .slice none 0 0, .slice none 0 0, .slice none 0 0, .slice none 0 0, .slice none 0 0, .slice none 0 0, .slice none 0 0] 65)).setRow w2.heap.size led1.toArray = w3 := hw3
  rw [hw3'] 
  rw [hw3] at a2 a02 b3
  rw [hg] at a2 hne hgw ⊢
  clear hw3 hw3' hg a0 a1 b0 b2 hs1 d hbl
  go_wp2_with fail
  go_loopw [4] (fun i wr => ∃ (k : Nat) (A : Option Addr) (c : Nat), k ≤ 4 ∧ i = .int .i64 k ∧ Arr4 wr g 65 (ledC [-1, -1, -1, -1] (.slice A k c) zst zus) ∧ Arr4 wr w.heap.size 65 led0 ∧ OwnI wr w.heap.size (.slice A k c) (nones k) ∧ Below w.heap.size w wr) (fun i _ => 4 - (intOf i).toNat)
  case atStart => exact ⟨0, none, 0, Nat.zero_le _, rfl, a2, a02, ⟨rfl, .inl ⟨rfl, rfl⟩⟩, b3⟩
  case round =>
    clear a2 a02 b3
    obtain ⟨k, A, c, hk, rfl, a5, a05, o5, b5⟩ := hrel
    have hz := b5.size
    by_cases hlt : k < 4
    · have q0 : (0 : Int) ≤ (k : Int) := by omega
      have q1 : (k : Int) < 4 := by omega
      have y4 : wr.cell? ⟨g, 4, none⟩ = some (.slice A k c) := by
        have := a5.read (i := 4) (by rw [ledC_length rfl rfl rfl]; omega)
        rw [this, ← List.getElem?_eq_getElem, ledC_locks rfl]
      have a6 := a5.alloc (.cells #[.int .i64 (-1)] 3)
      have a06 := a05.alloc (.cells #[.int .i64 (-1)] 3)
      have b6 := b5.alloc b5.size (.cells #[.int .i64 (-1)] 3)
      have o6 := o5.below ((Below.refl wr.heap.size wr).alloc (Nat.le_refl _) (.cells #[.int .i64 (-1)] 3)) (Nat.le_refl _)
      have r6 : (wr.alloc (.cells #[.int .i64 (-1)] 3)).ownsRow w.heap.size 3 1 (.slice A k c) k (ints (nones k)) := by
        unfold OwnI at o6
        rwa [nones_length] at o6
      have fit : ∀ (w7 : World) (v7 : Value), w7.ownsRow w.heap.size 3 1 v7 (k + 1) (ints (nones k) ++ [.int .i64 (-1)]) → (wr.alloc (.cells #[.int .i64 (-1)] 3)).grownBy w7 (Value.slice A k c).ownBlock →
          ∃ A' c', v7 = .slice A' (k + 1) c' ∧ (∃ v, w7.cell? ⟨g, 4, none⟩ = some v) ∧ w7.frozen? ⟨g, 4, none⟩ = false ∧ Arr4 (w7.setCell ⟨g, 4, none⟩ (.slice A' (k + 1) c')) g 65 (ledC [-1, -1, -1, -1] (.slice A' (k + 1) c') zst zus) ∧
            Arr4 (w7.setCell ⟨g, 4, none⟩ (.slice A' (k + 1) c')) w.heap.size 65 led0 ∧ OwnI (w7.setCell ⟨g, 4, none⟩ (.slice A' (k + 1) c')) w.heap.size (.slice A' (k + 1) c') (nones (k + 1)) ∧ Below w.heap.size w (w7.setCell ⟨g, 4, none⟩ (.slice A' (k + 1) c')) := by
        intro w7 v7 hown hg
        have a7 := a6.grown hg (blk_ne_row a6 r6 (by decide))
        have a07 := a06.grown hg (blk_ne_row a06 r6 (by decide))
        have o7 : OwnI w7 w.heap.size v7 (nones k ++ [-1]) := by
          refine OwnI.app ?_
          rw [nones_length]
          exact hown
        rw [← nones_succ] at o7
        obtain ⟨A', c', rfl, -, -⟩ := id o7.form
        rw [nones_length] at o7 ⊢
        have b7 := b6.grown hg b6.size fun j hj => (World.ownsRow.lt r6 j hj).1
        refine ⟨A', c', rfl, ⟨_, a7.read (i := 4) (by rw [ledC_length rfl rfl rfl]; omega)⟩, a7.frozen 4, ?_, a07.far hne _, o7.keptT (by decide) (but_set w7 g 4 _) (blk_type a7), b7.setCell hgw _⟩
        have := a7.set 4 (.slice A' (k + 1) c')
        rwa [ledC_set_locks rfl] at this
      have F := hid fit
      have z6 : w.heap.size ≤ (wr.alloc (.cells #[.int .i64 (-1)] 3)).heap.size := b6.size
      clear a5 a05 b5 o5 o6 fit a6 a06 b6
      go_wp2_with (at_builtin; go_must (refine wpList_append_row _ rfl _ _ 33 rfl w.heap.size 3 i0 (.int .i64 0) 1 8 Tryd.underlying33 hi hz0 hz1 hz2 rfl (by decide) _ k _ rfl r6 (wr.heap.size + 1) (some ⟨wr.heap.size, 0, none⟩) 1 1 [.int .i64 (-1)] rfl (.inr ⟨_, rfl, Nat.lt_succ_self _, cell_one_new _ _ _⟩) rfl (one_int _) (by unfold maxLen; omega) (by omega) z6 ?_); intro v7 w7 hown hg; obtain ⟨A7, c7, rfl, ⟨v4, t4⟩, f4, a8, a08, o8, b8⟩ := F.out _ _ hown hg)
      go_roundw
      case rel => exact ⟨k + 1, A7, c7, by omega, by go_num, a8, a08, o8, b8⟩
      case measure => simp [intOf]; omega
    · have hk' : k = 4 := by omega
      subst hk'
      have hs : wr.heap[w.heap.size]? = some (.cells led0.toArray 65 (0, 0)) := a05
      have hL := hid (Led.mk_ (zs := [-1, -1, -1, -1]) (L := .slice A 4 c) (us := zus) rfl (st := zst) rfl rfl rfl (fun u hu => by unfold zus at hu; rw [List.mem_replicate] at hu; rw [hu.2]; rfl))
      obtain ⟨cs, hcs⟩ : ∃ cs, ledC [-1, -1, -1, -1] (.slice A 4 c) zst zus = cs := ⟨_, rfl⟩
      rw [hcs] at a5 hL
      have HC := hid hcs
      clear hcs
      have hld : wr.heap[g]? = some (.cells cs.toArray 65 (0, 0)) := a5
      go_wp2_with (first
        | (refine wpList_load_row rfl 65 _ rfl g rfl 65 cs.toArray (0, 0) _ hld Tryd.underlying65 rfl hL.out.info ?_)
        | (refine wpList_store_rowTo rfl 65 _ _ rfl rfl w.heap.size cs.toArray rfl rfl 65 led0.toArray hs hL.out.info (led0_led.size.trans hL.out.size.symm) hL.out.2 ?_))
      have h2 : (wr.setRow w.heap.size cs.toArray).heap[w.heap.size]? = some (.cells cs.toArray 65 (0, 0)) := setRow_heap wr _ _ _ _ _ hs
      have b9 := below_setRow b5 (Nat.le_refl _) cs.toArray
      refine bodyPost_ret (v := .agg cs.toArray) (results_cell_row (p := 0) (by kernel_rfl) _ _ w.heap.size 65 _ (0, 0) _ rfl h2 Tryd.underlying65 rfl hL.out.info) rfl ⟨cs, rfl, ?_, b9⟩
      refine ⟨A, c, zus, HC.out.symm, rfl, fun u hu => by unfold zus at hu; rw [List.mem_replicate] at hu; rw [hu.2]; rfl, ?_, fun t _ ht => absurd ht (by unfold Sh.ask; simp)⟩
      exact o5.keptT (by decide) (but_setRow wr w.heap.size cs.toArray) (blk_type a05)
end Go.Proofs.YteeffchnbkkpfaaDoor
/-
  Walks: what the program's ledger is after a transaction is decided.
-/
namespace Go.Proofs.YteeffchnbkkpfaaDoor
open Go.RowKit Wo Pu Rf Lk Sh

/-- Behind it: the locks of a transaction are freed, its state is told. -/
def DecO (zs : List Int) (n : Nat) (qs st : List Int) (us : List Value) (w : World) (e : Ending) (w' : World) : Prop :=
  ∃ A' c', e = .returned (.agg (ledC zs (.slice A' n c') st us).toArray) ∧ OwnI w' w.heap.size (.slice A' n c') qs ∧ Below w.heap.size w w'
set_option maxRecDepth 100000 in
set_option maxHeartbeats 4000000 in
theorem decided_is (zs st locks : List Int) (A : Option Addr) (c : Nat) (us : List Value) (m : Nat) (z : Int) (w : World) (h1 : zs.length = 4) (h2 : st.length = 12) (h3 : us.length = 12) (hu : ∀ u ∈ us, u.oneCell' = true) (hr : Row w w.heap.size A (ints locks)) (hl : LV locks) (hm : m < 12) :
    Calls Tryd.prog 80 #[.agg (ledC zs (.slice A locks.length c) st us).toArray, .int .i64 (m : Int), .int .i64 z] w (DecO zs locks.length (freeL m locks) (st.set m z) us w) := by
  obtain ⟨bb, hbb⟩ := bool_of (true = true ∧ (m : Int) ∈ locks)
  have hl4 := hl.1
  have CF : Hid (∀ x, Row x x.heap.size A (ints locks) → Calls Tryd.prog 83 #[.slice A locks.length c, .int .i64 (m : Int)] x (Took (freeL m locks) bb x)) := fun x hx =>
    implLocksFree_is true bb _ A c locks m x hx (by omega) ⟨fun _ => ⟨hl, by unfold TV; omega⟩, fun _ => rfl⟩ hbb rfl
  have hL := hid (Led.mk_ (L := .slice A locks.length c) (us := us) h1 h2 h3 rfl hu)
  have HL : Hid (∀ A' c', Led (ledC zs (.slice A' locks.length c') (st.set m z) us)) := fun A' c' => Led.mk_ h1 (by rw [List.length_set]; exact h2) h3 rfl hu
  have HS : Hid (∀ A' c', ((ledC zs (.slice A locks.length c) st us).set 4 (.slice A' locks.length c')).set (5 + m) (.int .i64 z) = ledC zs (.slice A' locks.length c') (st.set m z) us) := fun A' c' => by rw [ledC_set_locks h1, ledC_set_state h1 h2 hm]
  have HY := hid (ledC_locks (L := .slice A locks.length c) (st := st) (us := us) h1)
  obtain ⟨cs, hcs⟩ : ∃ cs, ledC zs (.slice A locks.length c) st us = cs := ⟨_, rfl⟩
  have hfl := free_length (m : Int) locks
  rw [hcs] at hL HS HY ⊢
  clear hcs hbb hl h1 h2 h3 hu hl4
  have a0 := (Arr4.new_ w 65 cs).alloc (.cells led0.toArray 65)
  have a1 := Arr4.new_ (w.alloc (.cells cs.toArray 65)) 65 led0
  have b1 := ((Below.refl w.heap.size w).alloc (Nat.le_refl _) (.cells cs.toArray 65)).alloc (by simp) (.cells led0.toArray 65)
  rw [World.size_alloc] at a1
  go_enter Tryd.func80, Tryd.ntmps80
  go_upto_region 1 with fail
  obtain ⟨W, hW⟩ : ∃ x, (w.alloc (.cells cs.toArray 65)).alloc (.cells led0.toArray 65) = x := ⟨_, rfl⟩
  change Code.wp _ _ _ _ ((w.alloc (.cells cs.toArray 65)).alloc (.cells led0.toArray 65))
  rw [hW] at a0 a1 b1 ⊢
  clear hW
  have y4 : W.cell? ⟨w.heap.size, 4, none⟩ = some (.slice A locks.length c) := by
    rw [a0.read (i := 4) (by rw [hL.out.1]; omega), ← List.getElem?_eq_getElem, HY.out]
  go_wp2_with fail
  refine (CF.out _ (row_on hr b1)).mono ?_
  rintro e w2 ⟨A2, c2, rfl, o2, d2⟩
  rw [hfl] at o2 ⊢
  have b2 := b1.trans (d2.mono b1.size)
  have q0 := a0.below d2 a0.lt
  have q1 := a1.below d2 a1.lt
  have o2' := o2.base (B' := w.heap.size) b1.size
  clear a0 a1 b1 d2 y4 CF hr o2
  have k0 : (0 : Int) ≤ (m : Int) := by omega
  have k1 : (m : Int) < 12 := by omega
  obtain ⟨v4, y4⟩ : ∃ v, w2.cell? ⟨w.heap.size, 4, none⟩ = some v := ⟨_, q0.read (i := 4) (by rw [hL.out.1]; omega)⟩
  have f4 := q0.frozen 4
  obtain ⟨L2, hL2⟩ : ∃ L2, Value.slice A2 locks.length c2 = L2 := ⟨_, rfl⟩
  have r0 := q0.set 4 L2
  have r1 := q1.far (p := ⟨w.heap.size, 4, none⟩) (by show w.heap.size + 1 ≠ w.heap.size; omega) L2
  have o3 := o2'.keptT (by decide) (but_set w2 w.heap.size 4 L2) (blk_type q0)
  have b3 := b2.setCell (p := ⟨w.heap.size, 4, none⟩) (Nat.le_refl _) L2
  obtain ⟨v5, y5⟩ : ∃ v, (w2.setCell ⟨w.heap.size, 4, none⟩ L2).cell? ⟨w.heap.size, 5 + m, none⟩ = some v := ⟨_, r0.read (i := 5 + m) (by rw [List.length_set, hL.out.1]; omega)⟩
  have f5 := r0.frozen (5 + m)
  have s0 := r0.set (5 + m) (.int .i64 z)
  have s1 := r1.far (p := ⟨w.heap.size, 5 + m, none⟩) (by show w.heap.size + 1 ≠ w.heap.size; omega) (.int .i64 z)
  have o4 := o3.keptT (by decide) (but_set _ w.heap.size (5 + m) (.int .i64 z)) (blk_type r0)
  have b4 := b3.setCell (p := ⟨w.heap.size, 5 + m, none⟩) (Nat.le_refl _) (.int .i64 z)
  subst hL2
  rw [HS.out] at s0
  have hL' := hid (HL.out A2 c2)
  obtain ⟨cs', hcs⟩ : ∃ cs', ledC zs (.slice A2 locks.length c2) (st.set m z) us = cs' := ⟨_, rfl⟩
  have HC := hid hcs
  rw [hcs] at s0 hL'
  have hld : ((w2.setCell ⟨w.heap.size, 4, none⟩ (.slice A2 locks.length c2)).setCell ⟨w.heap.size, 5 + m, none⟩ (.int .i64 z)).heap[w.heap.size]? = some (.cells cs'.toArray 65 (0, 0)) := s0
  have hs : ((w2.setCell ⟨w.heap.size, 4, none⟩ (.slice A2 locks.length c2)).setCell ⟨w.heap.size, 5 + m, none⟩ (.int .i64 z)).heap[w.heap.size + 1]? = some (.cells led0.toArray 65 (0, 0)) := s1
  clear hcs q0 q1 r0 r1 o2' o3 b2 b3
  go_wp2_with (first
    | (refine wpList_load_row rfl 65 _ rfl w.heap.size rfl 65 cs'.toArray (0, 0) _ hld Tryd.underlying65 rfl hL'.out.info ?_)
    | (refine wpList_store_rowTo rfl 65 _ _ rfl rfl (w.heap.size + 1) cs'.toArray rfl rfl 65 led0.toArray hs hL'.out.info (led0_led.size.trans hL'.out.size.symm) hL'.out.2 ?_))
  have h2 := setRow_heap _ _ _ cs'.toArray _ _ hs
  have b9 := below_setRow b4 (Nat.le_succ _) cs'.toArray
  have o9 := o4.keptT (by decide) (but_setRow _ (w.heap.size + 1) cs'.toArray) (blk_type s1)
  refine bodyPost_ret (v := .agg cs'.toArray) (results_cell_row (p := 6) (by kernel_rfl) _ _ (w.heap.size + 1) 65 _ (0, 0) _ rfl h2 Tryd.underlying65 rfl hL'.out.info) rfl ⟨A2, c2, by rw [HC.out], o9, b9⟩
end Go.Proofs.YteeffchnbkkpfaaDoor
