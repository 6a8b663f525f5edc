/-
  Walks: the program's LocksTake, with its two refusals as error values.
-/
import Derived.Test.YteeffchnbkkpfabDoorLockI
import Derived.Test.YteeffchnbkkpfabDoorErrIs
namespace Go.Proofs.YteeffchnbkkpfabDoor
open Go.RowKit Wo Pu Rf Lk

/-- The two error values lie as they were laid: a0 that of a locked ref, a1 that of invalid arguments. -/
structure Errs (a0 a1 : Addr) (w : World) : Prop where
  locked : w.cell? ⟨0, 0, none⟩ = some (.iface 157 (.pointer (some a0)))
  invalid : w.cell? ⟨1, 0, none⟩ = some (.iface 157 (.pointer (some a1)))
  ne : a0 ≠ a1
  row0 : ∃ c t, w.heap[a0.block]? = some (.cells c t (0, 0))
  row1 : ∃ c t, w.heap[a1.block]? = some (.cells c t (0, 0))
theorem lt_of_heap {w : World} {k : Nat} {o : Obj} (h : w.heap[k]? = some o) : k < w.heap.size := by
  rcases Nat.lt_or_ge k w.heap.size with h1 | h1
  · exact h1
  · rw [Array.getElem?_eq_none h1] at h; cases h
theorem Errs.below {a0 a1 : Addr} {w w' : World} (h : Errs a0 a1 w) (hb : Below w.heap.size w w') : Errs a0 a1 w' := by
  obtain ⟨h1, h2, h3, ⟨c0, t0, h4⟩, ⟨c1, t1, h5⟩⟩ := h
  refine ⟨?_, ?_, h3, ⟨c0, t0, (hb.block _ (lt_of_heap h4)).trans h4⟩, ⟨c1, t1, (hb.block _ (lt_of_heap h5)).trans h5⟩⟩
  · exact (hb.cell (block_lt_of_cell h1)).trans h1
  · exact (hb.cell (block_lt_of_cell h2)).trans h2

/-- What takeLocks answers. -/
def TakeAns (a0 a1 : Addr) (zs : List Int) (t : Int) (us : List Up) (y : RWay) (w : World) (e : Ending) (w' : World) : Prop :=
  Below w.heap.size w w' ∧ match y with
  | .bad => e = .returned (.tuple #[.slice none 0 0, .iface 157 (.pointer (some a1))])
  | .no => e = .returned (.tuple #[.slice none 0 0, .iface 157 (.pointer (some a0))])
  | .yes => ∃ A c, e = .returned (.tuple #[.slice A zs.length c, .nilIface]) ∧ OwnI w' w.heap.size (.slice A zs.length c) (setR zs (lk t us))
set_option maxRecDepth 100000 in
set_option maxHeartbeats 8000000 in
theorem takeLocks_is (y : RWay) (a0 a1 : Addr) (A A2 : Option Addr) (c c2 : Nat) (zs : List Int) (t : Int) (us : List Up) (w : World) (hE : Errs a0 a1 w) (hz : Row w w.heap.size A (ints zs)) (hu : Row w w.heap.size A2 (upsV us)) (hmz : zs.length ≤ 1048600) (hm : us.length ≤ 1048600) (hy : IsLWay zs t us y) :
    Calls Tryd.prog 106 #[.slice A zs.length c, .int .i64 t, .slice A2 us.length c2] w (TakeAns a0 a1 zs t us y w) := by
  obtain ⟨vz, hvz⟩ := bool_of (LV zs)
  obtain ⟨vt, hvt⟩ := bool_of (TV t)
  obtain ⟨vu, hvu⟩ := bool_of (UV us)
  have CZ : Hid (∀ x, Row x x.heap.size A (ints zs) → Calls Tryd.prog 70 #[.slice A zs.length c] x (Same (.bool vz) x)) := fun x h => implLocksValid_same vz A c zs x _ h hmz hvz
  have CT : Hid (∀ x, Calls Tryd.prog 61 #[.int .i64 t] x (Same (.bool vt) x)) := fun x => txnValid_is vt t x hvt
  have CU : Hid (∀ x, Row x x.heap.size A2 (upsV us) → Calls Tryd.prog 54 #[.slice A2 us.length c2] x (Ret (.bool vu) x)) := fun x h => implUpdatesValid_is vu A2 c2 us x h hm hvu
  have bad : (vz && vt && vu) = false → y = .bad := fun e => by
    have nn : ¬ (LV zs ∧ TV t ∧ UV us) := by
      rintro ⟨g1, g2, g3⟩
      rw [hvz.2 g1, hvt.2 g2, hvu.2 g3] at e
      cases e
    cases y with
    | bad => rfl
    | no => exact absurd ⟨hy.1, hy.2.1, hy.2.2.1⟩ nn
    | yes => exact absurd ⟨hy.1, hy.2.1, hy.2.2.1⟩ nn
  have ye := hE.invalid
  cases vz with
  | false =>
    obtain rfl := bad rfl
    clear hvz hvt hvu hy bad hE
    go_enter Tryd.func106, Tryd.ntmps106
    go_wp2_with fail
    refine (CZ.out _ hz).mono ?_
    rintro e w1 ⟨rfl, rfl⟩
    go_wp2_with fail
    go_quiet (fail)
    go_wp2
    go_ret2
    exact ⟨Wo.Below.drewN (Below.refl _ _) _, rfl⟩
  | true =>
    cases vt with
    | false =>
      obtain rfl := bad rfl
      clear hvz hvt hvu hy bad hE
      go_enter Tryd.func106, Tryd.ntmps106
      go_wp2_with fail
      refine (CZ.out _ hz).mono ?_
      rintro e w1 ⟨rfl, rfl⟩
      go_wp2_with fail
      refine (CT.out _).mono ?_
      rintro e w1 ⟨rfl, rfl⟩
      go_wp2_with fail
      go_quiet (fail)
      go_wp2
      go_ret2
      exact ⟨Wo.Below.drewN (Below.refl _ _) _, rfl⟩
    | true =>
      cases vu with
      | false =>
        obtain rfl := bad rfl
        clear hvz hvt hvu hy bad ye
        go_enter Tryd.func106, Tryd.ntmps106
        go_wp2_with fail
        refine (CZ.out _ hz).mono ?_
        rintro e w1 ⟨rfl, rfl⟩
        go_wp2_with fail
        refine (CT.out _).mono ?_
        rintro e w1 ⟨rfl, rfl⟩
        go_wp2_with fail
        refine (CU.out _ hu).mono ?_
        rintro e w2 ⟨rfl, b2⟩
        have ye := (hE.below b2).invalid
        clear hE
        go_wp2_with fail
        go_quiet (fail)
        go_wp2
        go_ret2
        exact ⟨Wo.Below.drewN b2 _, rfl⟩
      | true =>
        have lv := hvz.1 rfl
        have tv := hvt.1 rfl
        have uv := hvu.1 rfl
        have hr := refs4_of uv
        have H4 := hid lv.1
        have HF : Hid (Fits zs (lk t us) ↔ y = .yes) := by
          show _ ↔ _
          cases y with
          | bad => exact absurd ⟨lv, tv, uv⟩ hy
          | no => exact ⟨fun e => absurd e hy.2.2.2, fun e => by cases e⟩
          | yes => exact ⟨fun _ => rfl, fun _ => hy.2.2.2⟩
        have HNB : Hid (y ≠ .bad) := by
          show _ ≠ _
          rintro rfl
          exact hy ⟨lv, tv, uv⟩
        have CN : Hid (∀ x, Row x x.heap.size A (ints zs) → Calls Tryd.prog 56 #[.slice A zs.length c] x (IntsOf zs x)) := fun x h => copyNumbers_of A c zs.length zs x h rfl (by have := H4.out; omega)
        clear hvz hvt hvu hy bad lv tv uv ye
        go_enter Tryd.func106, Tryd.ntmps106
        go_wp2_with fail
        refine (CZ.out _ hz).mono ?_
        rintro e w1 ⟨rfl, rfl⟩
        go_wp2_with fail
        refine (CT.out _).mono ?_
        rintro e w1 ⟨rfl, rfl⟩
        go_wp2_with fail
        refine (CU.out _ hu).mono ?_
        rintro e w2 ⟨rfl, b2⟩
        have HE0 := hid hE
        have r2 := (hz.below b2 (Nat.le_refl _)).more b2.size
        clear hE
        go_wp2_with fail
        refine (CN.out _ r2).mono ?_
        rintro e w4 ⟨A4, c4, rfl, o4, b4'⟩
        have b4 := b2.trans (b4'.mono b2.size)
        have o4' := o4.base (B' := w.heap.size) b2.size
        obtain ⟨g, c5, hgc, hg1, hg2⟩ := o4'.at (by rw [H4.out]; omega)
        injection hgc with e1 e2 e3
        subst e1
        subst e3
        clear e2 b2 r2 b4' o4 CZ CT CU CN
        go_wp2_with fail
        go_loopw [29] (fun i wr => ∃ k : Nat, k ≤ us.length ∧ i = .int .i64 k ∧ OwnI wr w.heap.size (.slice (some ⟨g, 0, none⟩) zs.length c4) (setR zs (lk t (us.take k))) ∧ Hid (FitTo zs (lk t us) k) ∧ Below w.heap.size w wr) (fun i _ => us.length - (intOf i).toNat)
        case atStart => exact ⟨0, Nat.zero_le _, rfl, (by rw [List.take_zero]; exact o4'), FitTo.zero zs _, b4⟩
        case round =>
          obtain ⟨k, hk, rfl, ho, HFT, hb⟩ := hrel
          clear o4' b4
          by_cases hlt : k < us.length
          · obtain ⟨o, ad, ho1, rfl, ha1, g0, g1, g2⟩ := (hu.below hb (Nat.le_refl _)).up_ hlt
            obtain ⟨q0, q1⟩ := hr _ (List.getElem_mem hlt)
            rw [ho1] at q0 q1
            obtain ⟨m, hm0⟩ := Int.eq_ofNat_of_zero_le q0
            rw [hm0] at g0
            have hmz0 : m < zs.length := by rw [H4.out]; omega
            obtain ⟨adz, ez, hbz, cz⟩ := (hz.below hb (Nat.le_refl _)).int_ hmz0
            have hkl : k < (lk t us).length := by rw [lk_length]; exact hlt
            have hge : (lk t us)[k] = lk1 t o := by rw [← ho1]; exact lk_get hlt hkl
            have hfit : fit1 zs (lk t us)[k] ↔ zs[m] = -1 := by
              rw [hge]
              unfold fit1
              rw [show (lk1 t o).r = o.r from rfl, hm0, Int.toNat_natCast, List.getElem?_eq_getElem hmz0]
              exact ⟨fun h => by injection h, fun h => by rw [h]; rfl⟩
            have k0 : (0 : Int) ≤ (k : Int) := by omega
            have k1 : (k : Int) < (us.length : Int) := by omega
            have k2 : (0 : Int) ≤ (m : Int) := by omega
            have k3 : (m : Int) < (zs.length : Int) := by omega
            subst ez
            have hzw := hb.size
            have u1 := Blk.new_ wr 100 (.int .i64 (m : Int)) (.int .i64 o.o) (.int .i64 o.n)
            have bb := (Below.refl wr.heap.size wr).alloc (Nat.le_refl _) (.cells #[.int .i64 (m : Int), .int .i64 o.o, .int .i64 o.n] 100)
            obtain ⟨W1, hW1⟩ : ∃ W1, wr.alloc (.cells #[.int .i64 (m : Int), .int .i64 o.o, .int .i64 o.n] 100) = W1 := ⟨_, rfl⟩
            rw [hW1] at u1 bb
            have hb1 := hb.trans (bb.mono hzw)
            have ho1' := ho.below bb (Nat.le_refl _)
            have cz1 : W1.cell? (adz.add m) = some (.int .i64 zs[m]) := (bb.cell (by rw [add_block]; exact Nat.lt_of_lt_of_le hbz hzw)).trans cz
            obtain ⟨z0, -, -, -⟩ := id u1.reads
            clear cz ho hb bb
            by_cases heq : zs[m] = -1
            · have e0 : (zs[m] != -1) = false := by rw [bne_eq_false_iff_eq]; exact heq
              have HN := hid (HFT.out.next hkl (hfit.2 heq))
              have hsl := setR_length (lk t (us.take k)) zs
              have ho' : OwnI W1 w.heap.size (.slice (some ⟨g, 0, none⟩) (setR zs (lk t (us.take k))).length c4) (setR zs (lk t (us.take k))) := by rw [hsl]; exact ho1'
              have hmz : m < (setR zs (lk t (us.take k))).length := by rw [hsl]; exact hmz0
              have y0 := ho'.cell hmz
              have f0 := World.ownsRow.frozenAt ho' m
              have ho2 := ho'.set m t
              have hb2 := hb1.setCell (p := ⟨g, m, none⟩) hg1 (.int .i64 t)
              have hst : setR zs (lk t (us.take (k + 1))) = (setR zs (lk t (us.take k))).set m t := by
                rw [List.take_succ_eq_append_getElem hlt, ho1]
                unfold lk
                rw [List.map_append]
                show setR zs (_ ++ [lk1 t o]) = _
                rw [setR_snoc]
                show (setR zs _).set o.r.toNat t = _
                rw [hm0, Int.toNat_natCast]
              have hl2 : ((setR zs (lk t (us.take k))).set m t).length = zs.length := by rw [List.length_set, hsl]
              rw [← hst] at ho2 hl2
              rw [hl2] at ho2
              clear ho1' ho' hb1 hst hl2 hsl q0 q1 hm0 ho1 HFT heq hfit hge
              go_wp2
              go_roundw
              case rel => exact ⟨k + 1, by omega, by go_num, ho2, HN, hb2⟩
              case measure => simp [intOf]; omega
            · have e0 : (zs[m] != -1) = true := by rw [bne_iff_ne]; exact heq
              have F : Hid (y = .no) := by
                show y = .no
                cases y with
                | bad => exact absurd rfl HNB.out
                | no => rfl
                | yes => exact absurd (hfit.1 (HF.out.2 rfl _ (List.getElem_mem hkl))) heq
              have ye := (HE0.out.below hb1).locked
              clear ho1' HFT heq hfit hge q0 q1 hm0 ho1
              go_wp2_with fail
              go_quiet (fail)
              go_wp2
              go_ret2
              rw [F.out]
              exact ⟨Wo.Below.drewN hb1 _, rfl⟩
          · have hk' : k = us.length := by omega
            subst hk'
            rw [List.take_length] at ho
            have F : Hid (y = .yes) := by
              refine HF.out.1 (FitTo.all ?_)
              rw [lk_length]
              exact HFT.out
            clear HFT
            go_wp2
            go_ret2
            rw [F.out]
            exact ⟨hb, _, _, rfl, ho⟩
set_option maxRecDepth 100000 in
set_option maxHeartbeats 8000000 in
theorem implLocksTake_is (y : RWay) (a0 a1 : Addr) (A A2 : Option Addr) (c c2 : Nat) (zs : List Int) (t : Int) (us : List Up) (w : World) (hE : Errs a0 a1 w) (hz : Row w w.heap.size A (ints zs)) (hu : Row w w.heap.size A2 (upsV us)) (hmz : zs.length ≤ 1048600) (hm : us.length ≤ 1048600) (hy : IsLWay zs t us y) :
    Calls Tryd.prog 104 #[.slice A zs.length c, .int .i64 t, .slice A2 us.length c2] w (Took (applied zs (lk t us) y) y.ok w) := by
  have CT := hid (takeLocks_is y a0 a1 A A2 c c2 zs t us w hE hz hu hmz hm hy)
  have HE := hid hE
  obtain ⟨c0, t0, r0⟩ := hE.row0
  obtain ⟨c1, t1, r1⟩ := hE.row1
  have R0 := hid r0
  have R1 := hid r1
  have HNE := hid hE.ne
  clear r0 r1 hE
  cases y with
  | bad =>
    clear hy hm hmz hu hz
    go_enter Tryd.func104, Tryd.ntmps104
    go_wp2_with fail
    refine (CT.out).mono ?_
    rintro e w1 ⟨b1, rfl⟩
    have hE1 := HE.out.below b1
    have ye := hE1.locked
    have CI : Hid (∀ x, Below w1.heap.size w1 x → Calls Tryd.prog 107 #[.iface 157 (.pointer (some a1)), .iface 157 (.pointer (some a0))] x fun e w' => e = .returned (.bool false) ∧ w' = x) := fun x hx => by
      obtain ⟨c0, t0, r0⟩ := (hE1.below hx).row0
      obtain ⟨c1, t1, r1⟩ := (hE1.below hx).row1
      exact is_other a1 a0 c1 c0 t1 t0 x hE1.ne.symm r1 r0
    have al := (b1.alloc b1.size (.cells #[] 3))
    clear hE1 CT
    go_wp2_with fail
    refine (CI.out _ (Below.refl _ _)).mono ?_
    rintro e w2 ⟨rfl, rfl⟩
    go_wp2_with fail
    go_ret2
    exact ⟨_, _, rfl, OwnI.nil_new b1.size, al⟩
  | no =>
    have h4 := hy.1.1
    have CN : Hid (∀ x, Row x x.heap.size A (ints zs) → Calls Tryd.prog 56 #[.slice A zs.length c] x (IntsOf zs x)) := fun x h => copyNumbers_of A c zs.length zs x h rfl (by omega)
    clear hy hm hmz hu h4
    go_enter Tryd.func104, Tryd.ntmps104
    go_wp2_with fail
    refine (CT.out).mono ?_
    rintro e w1 ⟨b1, rfl⟩
    have ye := (HE.out.below b1).locked
    have r2 := (hz.below b1 (Nat.le_refl _)).more b1.size
    go_wp2_with fail
    refine (is_same a0 _).mono ?_
    rintro e w2 ⟨rfl, rfl⟩
    go_wp2_with fail
    refine (CN.out _ r2).mono ?_
    rintro e w3 ⟨A3, c3, rfl, o3, b3⟩
    have b4 := b1.trans (b3.mono b1.size)
    have o4 := o3.base b1.size
    go_wp2_with fail
    go_ret2
    exact ⟨A3, c3, rfl, o4, b4⟩
  | yes =>
    have HL := hid (setR_length (lk t us) zs)
    clear hy hm hmz hu hz
    go_enter Tryd.func104, Tryd.ntmps104
    go_wp2_with fail
    refine (CT.out).mono ?_
    rintro e w1 ⟨b1, A3, c3, rfl, o3⟩
    have ye := (HE.out.below b1).locked
    go_wp2_with fail
    refine (is_nil a0 _).mono ?_
    rintro e w2 ⟨rfl, rfl⟩
    go_wp2_with fail
    go_ret2
    exact ⟨A3, c3, (by show _ = Ending.returned (.tuple #[.slice A3 (setR zs (lk t us)).length c3, .bool true]); rw [HL.out]; rfl), by show OwnI _ _ (.slice A3 (setR zs (lk t us)).length c3) _; rw [HL.out]; exact o3, b1⟩
end Go.Proofs.YteeffchnbkkpfabDoor
