/-
  The coordinator with the slices $SA and $SB is stored as the answer, with the word $BB.
  Walks: updates performed, by the model.
  Walks: RefsApply, RefsDiffer and UpdatesCross of the model.
  Walks: RefsDiffer and UpdatesCross of the model.
  Walks: drawn refs and updates.
  The coordinator with the slices $SA and $SB is stored as the answer, with the word $BB.
  Walks: what the laws on refs draw.
  Walks: marks written into updates of the call's own, and read again.
  Walks: marks in lists of ints and of updates that may be empty; what the exact laws on refs ask of copies.
  Walks: the laws' own helpers on updates: compared, turned round.
  Walks: the laws' own comparisons of parts and coordinators.
  Walks: sizes of parts, transactions and coordinators by the laws' own helpers; lists that are turned place by place.
  What a coordinator and parts that read as data give the walks.
  Walk: whether a list of numbers has a number, by the model.
  Plain facts: states of a transaction at some shards, and the decision to which they lead.
  Plain facts on runs: a coordinator, shards and messages, and what events make of them. No program is named here.
  Blocks of four cells.
  Runs in memory: messages, lists of shards, runs, as they are read.
  What a list of shards that reads as data gives the walks.
  Walk: UpdatesCross of the model.
  Plain facts: arrays in memory; lists of refs that are being filled; which refs have been marked.
  The coordinator with the slices $SA and $SB is stored as the answer, with the word $BB.
  Walks: the program's updates of an array of refs; which refs are updated.
  The coordinator with the slices $SA and $SB is stored as the answer, with the word $BB.
  Walks: the program's five functions on refs and updates.
  Walks: which locks are valid, taken, freed and whose they are, by the model.
  Walks: locks taken, by the model.
  The coordinator with the slices $SA and $SB is stored as the answer, with the word $BB.
  Walks: LocksFree and LocksOf of the model.
  Walks: drawn locks and transactions.
  Walks: what the laws on locks draw.
  Walks: the program's functions on locks, but for LocksTake.
  Walks: errors.Is of nil and of the program's own error values (after the guide's way of walking it).
  Walks: the program's LocksTake, with its two refusals as error values.
  What the row's listed error values give the walks.
  Records of the call's own whose updates lie apart.
-/
import Derived.Test.YteaibflloeipaaaGreatDoorM1
import Derived.Deep.Cut
import Derived.Laws.Rows
import Derived.Laws.Tables
import Derived.Laws.CopyOwn
import Derived.Great.BuildSlice
import Derived.LaidEql
import Derived.Stop.Asserts
import Derived.RowKitTokens
import Derived.Test.YteaibflloeipaaaGreatDoorRows
import Derived.MakeChecks
import Derived.LaidLaws
import Derived.Stop.LaidTwo
/- Laws on coordinators: a coordinator is boxed. -/
/- On to the world behind D. -/
/- An exact law begins: the argument's box, its size, a copy for the model. -/
/- The program's own copy of the argument is boxed. -/
/- The program's copy is as the argument; the region draws. -/
/- Laws on functions that answer numbers. -/
/- What the boxes hold is read again. -/
/- The coordinator with the slices P4 and P5 is boxed as P6, in block P7, behind it the world P3; ahead of region P1. -/
/- The draw, the program's answer, the model's, and that they are the same: behind it w5, all facts on it by way of dx. -/
/-
  Walk: which updates are valid, by the model.
-/
namespace Go.Proofs.YteaibflloeipaaaGreatDoor
open Go.RowKit Wo Pu Rf

theorem Same.ret {v : Value} {w : World} {e : Ending} {w' : World} (h : Same v w e w') : Ret v w e w' := ⟨h.1, by rw [← h.2]; exact Below.refl _ _⟩
/-- The update at k may stand there. -/
def OkU (us : List Up) (k : Nat) (h : k < us.length) : Prop := Ok us[k] ∧ (k = 0 ∨ ∃ h' : 0 < k, (us[k - 1]'(by omega)).r < us[k].r)
def UpTo (us : List Up) (k : Nat) : Prop := ∀ j (h : j < us.length), j < k → OkU us j h
theorem UpTo.zero (us : List Up) : UpTo us 0 := fun _ _ h => absurd h (Nat.not_lt_zero _)
theorem UpTo.next {us : List Up} {k : Nat} (h : UpTo us k) (hk : k < us.length) (ho : OkU us k hk) : UpTo us (k + 1) := fun j hj hl => by
  by_cases e : j = k
  · subst e; exact ho
  · exact h j hj (by omega)
theorem uv_iff (us : List Up) : UV us ↔ us.length ≠ 0 ∧ ∀ k (h : k < us.length), OkU us k h := by
  unfold UV
  rw [asc_iff]
  refine and_congr ⟨fun h e => h (List.eq_nil_of_length_eq_zero e), fun h e => h (by rw [e]; rfl)⟩ ⟨fun h k hk => ?_, fun h k hk => ?_⟩
  · obtain ⟨h1, h2⟩ := h k hk
    refine ⟨h1, ?_⟩
    by_cases e : k = 0
    · exact .inl e
    · rw [dif_neg e] at h2
      exact .inr ⟨by omega, h2⟩
  · obtain ⟨h1, h2⟩ := h k hk
    refine ⟨h1, ?_⟩
    by_cases e : k = 0
    · rw [dif_pos e]; have := h1.1.1; omega
    · rw [dif_neg e]
      rcases h2 with h2 | ⟨_, h2⟩
      · exact absurd h2 e
      · exact h2
theorem uv_yes {us : List Up} {b : Bool} (hb : b = true ↔ UV us) (h : UpTo us us.length) (h0 : us.length ≠ 0) : b = true := hb.2 ((uv_iff us).2 ⟨h0, fun k hk => h k hk hk⟩)
theorem uv_no {us : List Up} {b : Bool} (hb : b = true ↔ UV us) {k : Nat} (hk : k < us.length) (h : ¬ OkU us k hk) : b = false := by
  rw [← Bool.not_eq_true]
  exact fun e => h (((uv_iff us).1 (hb.1 e)).2 k hk)
theorem uv_none {us : List Up} {b : Bool} (hb : b = true ↔ UV us) (h : us.length = 0) : b = false := by
  rw [← Bool.not_eq_true]
  exact fun e => ((uv_iff us).1 (hb.1 e)).1 h
theorem l6In_is (b : Bool) (n lo hi : Int) (w : World) (hb : b = true ↔ lo ≤ n ∧ n ≤ hi) : Calls Tryz.prog 44 #[.int .i64 n, .int .i64 lo, .int .i64 hi] w (Same (.bool b) w) := by
  cases b with
  | true => obtain ⟨h1, h2⟩ := hb.1 rfl; exact l6In_yes n lo hi w h1 h2
  | false =>
    refine l6In_no n lo hi w ?_
    by_cases h : lo ≤ n
    · exact .inr (by have : ¬ (n ≤ hi) := fun e => by have := hb.2 ⟨h, e⟩; cases this
                     omega)
    · exact .inl (by omega)

set_option maxRecDepth 100000 in
set_option maxHeartbeats 8000000 in
theorem specUpdatesValid_is (b : Bool) (A : Option Addr) (c : Nat) (us : List Up) (w : World) (hr : Row w w.heap.size A (upsV us)) (hm : us.length ≤ 1048600) (hb : b = true ↔ UV us) :
    Calls Tryz.prog 103 #[.slice A us.length c] w (Ret (.bool b) w) := by
  have HB := hid hb
  clear hb
  go_enter Tryz.func103, Tryz.ntmps103
  go_wp2_with fail
  go_loopw [3] (fun i wr => ∃ k : Nat, k ≤ us.length ∧ i = .int .i64 k ∧ Hid (UpTo us k) ∧ Below w.heap.size w wr) (fun i _ => us.length - (intOf i).toNat)
  case atStart => exact ⟨0, Nat.zero_le _, rfl, .zero us, Below.refl _ _⟩
  case round =>
    obtain ⟨k, hk, rfl, H, hbr⟩ := hrel
    by_cases hlt : k < us.length
    · have hrr := (hr.below hbr (Nat.le_refl _)).more hbr.size
      obtain ⟨o, ad, ho, rfl, ha1, g0, g1, g2⟩ := hrr.up_ hlt
      have k0 : (0 : Int) ≤ (k : Int) := by omega
      have k1 : (k : Int) < (us.length : Int) := by omega
      have hbW := hbr.alloc hbr.size (.cells #[.int .i64 o.r, .int .i64 o.o, .int .i64 o.n] 164)
      have u1 := Blk.new_ wr 164 (.int .i64 o.r) (.int .i64 o.o) (.int .i64 o.n)
      have rW := hrr.alloc (Nat.le_refl _) (.cells #[.int .i64 o.r, .int .i64 o.o, .int .i64 o.n] 164)
      go_wp2_with fail
      generalize wr.alloc (.cells #[.int .i64 o.r, .int .i64 o.o, .int .i64 o.n] 164) = W at *
      have hzW := hbW.size
      obtain ⟨z0, z1, z2, -⟩ := id u1.reads
      have L0 := Later.cell z0 u1.lt
      have L1 := Later.cell z1 u1.lt
      have L2 := Later.cell z2 u1.lt
      obtain ⟨br, hr3⟩ := bool_of (0 ≤ o.r ∧ o.r ≤ 3)
      obtain ⟨bo, ho3⟩ := bool_of (Val o.o)
      obtain ⟨bn, hn3⟩ := bool_of (Val o.n)
      have CR : Hid (∀ x, Calls Tryz.prog 44 #[.int .i64 o.r, .int .i64 0, .int .i64 3] x (Ret (.bool br) x)) := fun x => (l6In_is br _ _ _ x hr3).mono fun _ _ h => h.ret
      have CO : Hid (∀ x, Calls Tryz.prog 121 #[.int .i64 o.o] x (Ret (.bool bo) x)) := fun x => (l11Value_is bo _ x ho3).mono fun _ _ h => h.ret
      have CN : Hid (∀ x, Calls Tryz.prog 121 #[.int .i64 o.n] x (Ret (.bool bn) x)) := fun x => (l11Value_is bn _ x hn3).mono fun _ _ h => h.ret
      clear hbr hrr g0 g1 g2 z0 z1 z2
      cases br with
      | false =>
        have F := hid (uv_no HB.out hlt (fun h => by have := hr3.2 (ho ▸ h.1.1); cases this))
        clear H hr3 ho3 hn3 ho
        refine wp_region_later W.heap.size (by kernel_rfl) (by kernel_rfl) ?_
        repeat (go_big_quiet_step ((first | (go_at_call 44; exact Later.call (Nat.le_refl _) _ (CR.out _)) | (go_at_call 121; first | exact Later.call (Nat.le_refl _) _ (CO.out _) | exact Later.call (Nat.le_refl _) _ (CN.out _)))))
        refine wpQuiet_nil ?_
        intro _ hw'
        obtain ⟨xx, hxx⟩ := hw'
        have hbx := xx.b
        subst hxx
        go_wp2
        go_ret
        rw [F.out]
        exact .mk_ (hbW.trans (hbx.mono hzW))
      | true =>
        cases bo with
        | false =>
          have F := hid (uv_no HB.out hlt (fun h => by have := ho3.2 (ho ▸ h.1.2.1); cases this))
          clear H hr3 ho3 hn3 ho
          refine wp_region_later W.heap.size (by kernel_rfl) (by kernel_rfl) ?_
          repeat (go_big_quiet_step ((first | (go_at_call 44; exact Later.call (Nat.le_refl _) _ (CR.out _)) | (go_at_call 121; first | exact Later.call (Nat.le_refl _) _ (CO.out _) | exact Later.call (Nat.le_refl _) _ (CN.out _)))))
          refine wpQuiet_nil ?_
          intro _ hw'
          obtain ⟨xx, hxx⟩ := hw'
          have hbx := xx.b
          subst hxx
          go_wp2
          go_ret
          rw [F.out]
          exact .mk_ (hbW.trans (hbx.mono hzW))
        | true =>
          cases bn with
          | false =>
            have F := hid (uv_no HB.out hlt (fun h => by have := hn3.2 (ho ▸ h.1.2.2.1); cases this))
            clear H hr3 ho3 hn3 ho
            refine wp_region_later W.heap.size (by kernel_rfl) (by kernel_rfl) ?_
            repeat (go_big_quiet_step ((first | (go_at_call 44; exact Later.call (Nat.le_refl _) _ (CR.out _)) | (go_at_call 121; first | exact Later.call (Nat.le_refl _) _ (CO.out _) | exact Later.call (Nat.le_refl _) _ (CN.out _)))))
            refine wpQuiet_nil ?_
            intro _ hw'
            obtain ⟨xx, hxx⟩ := hw'
            have hbx := xx.b
            subst hxx
            go_wp2
            go_ret
            rw [F.out]
            exact .mk_ (hbW.trans (hbx.mono hzW))
          | true =>
            by_cases hon : o.o = o.n
            · have e4 : (o.o == o.n) = true := by rw [beq_iff_eq]; exact hon
              have F := hid (uv_no HB.out hlt (fun h => by have := h.1.2.2.2; rw [ho] at this; exact this hon))
              clear H hr3 ho3 hn3 ho hon
              refine wp_region_later W.heap.size (by kernel_rfl) (by kernel_rfl) ?_
              repeat (go_big_quiet_step ((first | (go_at_call 44; exact Later.call (Nat.le_refl _) _ (CR.out _)) | (go_at_call 121; first | exact Later.call (Nat.le_refl _) _ (CO.out _) | exact Later.call (Nat.le_refl _) _ (CN.out _)))))
              refine wpQuiet_nil ?_
              intro _ hw'
              obtain ⟨xx, hxx⟩ := hw'
              have hbx := xx.b
              subst hxx
              go_wp2
              go_ret
              rw [F.out]
              exact .mk_ (hbW.trans (hbx.mono hzW))
            · have e4 : (o.o == o.n) = false := by rw [beq_eq_false_iff_ne]; exact hon
              have hok : Ok us[k] := by rw [ho]; exact ⟨hr3.1 rfl, ho3.1 rfl, hn3.1 rfl, hon⟩
              by_cases hk0 : k = 0
              · have e5 : decide ((0 : Int) < (k : Int)) = false := decide_eq_false (by omega)
                have e6 : decide (0 < k) = false := decide_eq_false (by omega)
                have HN := hid (H.out.next hlt ⟨hok, .inl hk0⟩)
                clear H hr3 ho3 hn3 ho hon hok hk0
                refine wp_region_later W.heap.size (by kernel_rfl) (by kernel_rfl) ?_
                repeat (go_big_quiet_step ((first | (go_at_call 44; exact Later.call (Nat.le_refl _) _ (CR.out _)) | (go_at_call 121; first | exact Later.call (Nat.le_refl _) _ (CO.out _) | exact Later.call (Nat.le_refl _) _ (CN.out _)))))
                refine wpQuiet_nil ?_
                intro _ hw'
                obtain ⟨xx, hxx⟩ := hw'
                have hbx := xx.b
                subst hxx
                go_wp2
                go_roundw
                case rel => exact ⟨k + 1, by omega, by go_num, HN, hbW.trans (hbx.mono hzW)⟩
                case measure => simp [intOf]; omega
              · obtain ⟨m, rfl⟩ : ∃ m, k = m + 1 := ⟨k - 1, by omega⟩
                obtain ⟨o', ad', ho', e', ha', p0, -, -⟩ := rW.up_ (k := m) (by omega)
                injection e' with e'
                subst e'
                have LP := Later.cell p0 (Nat.lt_trans ha' u1.lt)
                have e5 : decide ((0 : Int) < ((m + 1 : Nat) : Int)) = true := decide_eq_true (by omega)
                have q1 : IntKind.i64.wrap (((m + 1 : Nat) : Int) - 1) = (m : Int) := by rw [IntWalk.i64_in _ (by omega)]; omega
                have q2 : ((m + 1 : Nat) : Int) - 1 = (m : Int) := by omega
                have q3 : (m : Int) < (us.length : Int) := by omega
                have q4 : (0 : Int) ≤ (m : Int) := by omega
                by_cases hord : o'.r < o.r
                · have e6 : decide (o.r ≤ o'.r) = false := decide_eq_false (by omega)
                  have HN := hid (H.out.next hlt ⟨hok, .inr ⟨by omega, by
                    have : m + 1 - 1 = m := by omega
                    simp only [this]
                    rw [ho', ho]
                    exact hord⟩⟩)
                  clear H hr3 ho3 hn3 ho ho' hon hok hk0 p0
                  refine wp_region_later W.heap.size (by kernel_rfl) (by kernel_rfl) ?_
                  repeat (go_big_quiet_step ((first | (go_at_call 44; exact Later.call (Nat.le_refl _) _ (CR.out _)) | (go_at_call 121; first | exact Later.call (Nat.le_refl _) _ (CO.out _) | exact Later.call (Nat.le_refl _) _ (CN.out _)))))
                  refine wpQuiet_nil ?_
                  intro _ hw'
                  obtain ⟨xx, hxx⟩ := hw'
                  have hbx := xx.b
                  subst hxx
                  go_wp2
                  go_roundw
                  case rel => exact ⟨m + 1 + 1, by omega, by go_num, HN, hbW.trans (hbx.mono hzW)⟩
                  case measure => simp [intOf]; omega
                · have e6 : decide (o.r ≤ o'.r) = true := decide_eq_true (by omega)
                  have F := hid (uv_no HB.out hlt (fun h => by
                    rcases h.2 with h | ⟨_, h⟩
                    · omega
                    · have e : m + 1 - 1 = m := by omega
                      simp only [e] at h
                      rw [ho', ho] at h
                      exact hord h))
                  clear H hr3 ho3 hn3 ho ho' hon hok hk0 p0
                  refine wp_region_later W.heap.size (by kernel_rfl) (by kernel_rfl) ?_
                  repeat (go_big_quiet_step ((first | (go_at_call 44; exact Later.call (Nat.le_refl _) _ (CR.out _)) | (go_at_call 121; first | exact Later.call (Nat.le_refl _) _ (CO.out _) | exact Later.call (Nat.le_refl _) _ (CN.out _)))))
                  refine wpQuiet_nil ?_
                  intro _ hw'
                  obtain ⟨xx, hxx⟩ := hw'
                  have hbx := xx.b
                  subst hxx
                  go_wp2
                  go_ret
                  rw [F.out]
                  exact .mk_ (hbW.trans (hbx.mono hzW))
    · have hk' : k = us.length := by omega
      subst hk'
      by_cases h0 : us.length = 0
      · have F := hid (uv_none HB.out h0)
        have e0 : decide (0 < (us.length : Int)) = false := decide_eq_false (by omega)
        have e1 : decide (0 < us.length) = false := decide_eq_false (by omega)
        clear h0 H
        go_wp2
        go_ret
        rw [F.out]
        exact .mk_ hbr
      · have F := hid (uv_yes HB.out H.out h0)
        have e0 : decide (0 < (us.length : Int)) = true := decide_eq_true (by omega)
        have e1 : decide (0 < us.length) = true := decide_eq_true (by omega)
        clear h0 H
        go_wp2
        go_ret
        rw [F.out]
        exact .mk_ hbr
end Go.Proofs.YteaibflloeipaaaGreatDoor
namespace Go.Proofs.YteaibflloeipaaaGreatDoor
open Go.RowKit Wo Pu Rf

/-- The refs of the updates are refs. -/
def Refs4 (us : List Up) : Prop := ∀ u ∈ us, 0 ≤ u.r ∧ u.r ≤ 3
theorem refs4_of {us : List Up} (h : UV us) : Refs4 us := fun u hu => (h.2.mem u hu).2.1
def FitTo (zs : List Int) (us : List Up) (k : Nat) : Prop := ∀ j (h : j < us.length), j < k → fit1 zs us[j]
theorem FitTo.zero (zs : List Int) (us : List Up) : FitTo zs us 0 := fun _ _ h => absurd h (Nat.not_lt_zero _)
theorem FitTo.next {zs : List Int} {us : List Up} {k : Nat} (h : FitTo zs us k) (hk : k < us.length) (ho : fit1 zs us[k]) : FitTo zs us (k + 1) := fun j hj hl => by
  by_cases e : j = k
  · subst e; exact ho
  · exact h j hj (by omega)
theorem FitTo.all {zs : List Int} {us : List Up} (h : FitTo zs us us.length) : Fits zs us := fun u hu => by
  obtain ⟨j, hj, rfl⟩ := List.getElem_of_mem hu
  exact h j hj hj
set_option maxRecDepth 100000 in
set_option maxHeartbeats 4000000 in
theorem l11Fits_is (b : Bool) (A A2 : Option Addr) (c c2 : Nat) (zs : List Int) (us : List Up) (w : World) (B B2 : Nat) (hz : Row w B A (ints zs)) (h4 : zs.length = 4) (hu : Row w B2 A2 (upsV us)) (hr : Refs4 us) (hm : us.length ≤ 1048600) (hb : b = true ↔ Fits zs us) :
    Calls Tryz.prog 128 #[.slice A zs.length c, .slice A2 us.length c2] w (Ret (.bool b) w) := by
  have HB := hid hb
  clear hb
  have H4 := hid h4
  clear h4
  go_enter Tryz.func128, Tryz.ntmps128
  go_wp2_with fail
  go_loopw [5] (fun i wr => ∃ k : Nat, k ≤ us.length ∧ i = .int .i64 k ∧ Hid (FitTo zs us k) ∧ Dr w wr) (fun i _ => us.length - (intOf i).toNat)
  case atStart => exact ⟨0, Nat.zero_le _, rfl, .zero zs us, .refl _⟩
  case round =>
    obtain ⟨k, hk, rfl, H, HW⟩ := hrel
    by_cases hlt : k < us.length
    · obtain ⟨o, ad, ho, rfl, ha1, g0, g1, -⟩ := (HW.row hu).up_ hlt
      obtain ⟨q0, q1⟩ := hr _ (List.getElem_mem hlt)
      rw [ho] at q0 q1
      obtain ⟨m, hm0⟩ := Int.eq_ofNat_of_zero_le q0
      have hmz : m < zs.length := by rw [H4.out]; omega
      obtain ⟨ad2, rfl, hb2, hc2⟩ := (HW.row hz).int_ hmz
      rw [hm0] at g0
      have k0 : (0 : Int) ≤ (k : Int) := by omega
      have k1 : (k : Int) < (us.length : Int) := by omega
      have k2 : (0 : Int) ≤ (m : Int) := by omega
      have k3 : (m : Int) < (zs.length : Int) := by omega
      have hfit : fit1 zs us[k] ↔ zs[m] = o.o := by
        unfold fit1
        rw [ho, hm0, Int.toNat_natCast, List.getElem?_eq_getElem hmz]
        exact ⟨fun h => by injection h, fun h => by rw [h]⟩
      by_cases heq : zs[m] = o.o
      · have e0 : (zs[m] != o.o) = false := by rw [bne_eq_false_iff_eq]; exact heq
        have HN := hid (H.out.next hlt (hfit.2 heq))
        clear H hfit heq ho hm0 q0 q1
        go_wp2
        go_quiet (fail)
        go_wp2
        go_roundw
        case rel => exact ⟨k + 1, by omega, by go_num, HN, HW.drewN _⟩
        case measure => simp [intOf]; omega
      · have e0 : (zs[m] != o.o) = true := by rw [bne_iff_ne]; exact heq
        have F : Hid (b = false) := by
          show b = false
          rw [← Bool.not_eq_true]
          exact fun e => heq (hfit.1 (HB.out.1 e _ (List.getElem_mem hlt)))
        clear H hfit heq ho hm0 q0 q1
        go_wp2
        go_quiet (fail)
        go_wp2
        go_ret
        rw [F.out]
        exact .mk_ ((HW.drewN _).below _)
    · have hk' : k = us.length := by omega
      subst hk'
      have F := hid (HB.out.2 H.out.all)
      clear H
      go_wp2
      go_ret
      rw [F.out]
      exact .mk_ (HW.below _)
theorem setR_take {zs : List Int} {us : List Up} {k : Nat} (hk : k < us.length) : setR zs (us.take (k + 1)) = (setR zs (us.take k)).set us[k].r.toNat us[k].n := by
  rw [List.take_succ_eq_append_getElem hk, setR_snoc]
theorem ints_set (zs : List Int) (m : Nat) (x : Int) : (ints zs).set m (.int .i64 x) = ints (zs.set m x) := by unfold ints; rw [List.map_set]
/-- Integers stored into. -/
theorem OwnI.set {w : World} {B g c : Nat} {zs : List Int} (h : OwnI w B (.slice (some ⟨g, 0, none⟩) zs.length c) zs) (m : Nat) (x : Int) : OwnI (w.setCell ⟨g, m, none⟩ (.int .i64 x)) B (.slice (some ⟨g, 0, none⟩) (zs.set m x).length c) (zs.set m x) := by
  have := (World.ownsRow.stored h m (.int .i64 x)).1
  rw [ints_set] at this
  unfold OwnI
  rw [List.length_set]
  exact this
theorem OwnI.cell {w : World} {B g c : Nat} {zs : List Int} (h : OwnI w B (.slice (some ⟨g, 0, none⟩) zs.length c) zs) {m : Nat} (hm : m < zs.length) : w.cell? ⟨g, m, none⟩ = some (.int .i64 zs[m]) := by
  have := World.ownsRow.cellAt h m (by omega)
  rw [this]
  simp [ints, hm]
theorem OwnI.at {w : World} {B : Nat} {v : Value} {zs : List Int} (h : OwnI w B v zs) (hp : 0 < zs.length) : ∃ g c, v = .slice (some ⟨g, 0, none⟩) zs.length c ∧ B ≤ g ∧ g < w.heap.size := by
  obtain ⟨g, cap, e, h1, h2⟩ := World.ownsRow.form h hp
  exact ⟨g, cap, e, h1, h2⟩
set_option maxRecDepth 100000 in
set_option maxHeartbeats 4000000 in
theorem l11Set_any (A A2 : Option Addr) (c c2 : Nat) (zs : List Int) (us : List Up) (w : World) (hz : Row w w.heap.size A (ints zs)) (h4 : zs.length = 4) (hu : Row w w.heap.size A2 (upsV us)) (hr : Refs4 us) (hm : us.length ≤ 1048600) :
    Calls Tryz.prog 87 #[.slice A zs.length c, .slice A2 us.length c2] w (IntsOf (setR zs us) w) := by
  obtain ⟨i0, hi, hz0, hz1, hz2⟩ := info_of info_int
  have H4 := hid h4
  have HE := hid (setR_length us zs)
  have al := (Below.refl w.heap.size w).alloc (Nat.le_refl _) (.cells #[] 3)
  have hzl : Hid (zs.length ≤ 10) := by show _ ≤ _; omega
  clear h4
  go_enter Tryz.func87, Tryz.ntmps87
  go_wp2_with (at_builtin; go_must (refine wpList_append_row _ rfl _ _ 24 rfl w.heap.size 3 i0 (.int .i64 0) 1 8 Tryz.underlying24 hi hz0 hz1 hz2 rfl (by decide) _ 0 [] rfl (nil_own (Nat.le_refl _) _ _) w.heap.size A zs.length c (ints zs) rfl (hz.below al (Nat.le_refl _)) (by rw [ints_length]; omega) (by intro u hu; obtain ⟨x, _, rfl⟩ := List.mem_map.1 hu; rfl) (by have := hzl.out; unfold maxLen; omega) (by have := hzl.out; omega) (by simp) ?_); intro v4 w4 hown hg)
  have b4 : Below w.heap.size w w4 := al.grown hg (by simp) (fun j hj => by injection hj with hj; exact Nat.le_of_eq hj)
  have ho0 : OwnI w4 w.heap.size v4 zs := by
    unfold OwnI
    rw [Nat.zero_add, List.nil_append] at hown
    exact hown
  obtain ⟨g, c4, rfl, hg1, hg2⟩ := ho0.at (by rw [H4.out]; omega)
  clear hown hg al
  go_wp2_with fail
  go_loopw [6] (fun i wr => ∃ k : Nat, k ≤ us.length ∧ i = .int .i64 k ∧ OwnI wr w.heap.size (.slice (some ⟨g, 0, none⟩) zs.length c4) (setR zs (us.take k)) ∧ Below w.heap.size w wr) (fun i _ => us.length - (intOf i).toNat)
  case atStart => exact ⟨0, Nat.zero_le _, rfl, by rw [List.take_zero, setR_nil]; exact ho0, b4⟩
  case round =>
    obtain ⟨k, hk, rfl, ho, hb⟩ := hrel
    clear ho0 b4
    by_cases hlt : k < us.length
    · obtain ⟨o, ad, ho1, rfl, ha1, g0, -, g2⟩ := (hu.below hb (Nat.le_refl _)).up_ hlt
      obtain ⟨q0, q1⟩ := hr _ (List.getElem_mem hlt)
      rw [ho1] at q0 q1
      obtain ⟨m, hm0⟩ := Int.eq_ofNat_of_zero_le q0
      rw [hm0] at g0
      have hsl := setR_length (us.take k) zs
      have ho' : OwnI wr w.heap.size (.slice (some ⟨g, 0, none⟩) (setR zs (us.take k)).length c4) (setR zs (us.take k)) := by rw [hsl]; exact ho
      have hmz : m < (setR zs (us.take k)).length := by rw [hsl, H4.out]; omega
      have y0 := ho'.cell hmz
      have f0 := World.ownsRow.frozenAt ho' m
      have ho2 := ho'.set m o.n
      have hb2 := hb.setCell (p := ⟨g, m, none⟩) hg1 (.int .i64 o.n)
      have hst := setR_take (zs := zs) hlt
      rw [ho1, hm0, Int.toNat_natCast] at hst
      have hl2 : ((setR zs (us.take k)).set m o.n).length = zs.length := by rw [List.length_set, hsl]
      rw [← hst] at ho2 hl2
      rw [hl2] at ho2
      have k0 : (0 : Int) ≤ (k : Int) := by omega
      have k1 : (k : Int) < (us.length : Int) := by omega
      have k2 : (0 : Int) ≤ (m : Int) := by omega
      have k3 : (m : Int) < (zs.length : Int) := by rw [H4.out]; omega
      clear ho ho' hb hst hl2 hsl q0 q1 hm0 ho1
      go_wp2_with fail
      go_region_law (fail)
      go_wp2
      go_roundw
      case rel => exact ⟨k + 1, by omega, by go_num, ho2, hb2.drew⟩
      case measure => simp [intOf]; omega
      exact ⟨⟨k + 1, by omega, by go_num, ho2, hb2.drew⟩, by simp [intOf]; omega⟩
    · have hk' : k = us.length := by omega
      subst hk'
      rw [List.take_length] at ho
      go_wp2
      go_ret
      refine ⟨some ⟨g, 0, none⟩, c4, ?_, ?_, hb⟩
      · rw [HE.out]; rfl
      · rw [HE.out]; exact ho
end Go.Proofs.YteaibflloeipaaaGreatDoor
namespace Go.Proofs.YteaibflloeipaaaGreatDoor
open Go.RowKit Wo Pu Rf

/-- What RefsApply answers. -/
def Applied (zs : List Int) (us : List Up) (y : RWay) (w : World) (e : Ending) (w' : World) : Prop := ∃ A c, e = .returned (.tuple #[.slice A (applied zs us y).length c, .bool y.ok]) ∧ OwnI w' w.heap.size (.slice A (applied zs us y).length c) (applied zs us y) ∧ Below w.heap.size w w'
end Go.Proofs.YteaibflloeipaaaGreatDoor
namespace Go.Proofs.YteaibflloeipaaaGreatDoor
open Go.RowKit Wo Pu Rf

/-- The differences, if both are refs. -/
def difs (v : Bool) (a b : List Int) : List Up := if v then dif a b else []
/-- What is still to be told from k on. -/
def DifTo (a b : List Int) (us : List Up) (k : Nat) : Prop := dif a b = us ++ difL k (a.drop k) (b.drop k)
theorem DifTo.zero (a b : List Int) : DifTo a b [] 0 := rfl
theorem DifTo.same {a b : List Int} {us : List Up} {k : Nat} (h : DifTo a b us k) (ha : k < a.length) (hb : k < b.length) (e : a[k] = b[k]) : DifTo a b us (k + 1) := by
  unfold DifTo at h ⊢
  rw [h, List.drop_eq_getElem_cons ha, List.drop_eq_getElem_cons hb]
  conv => lhs; unfold difL
  rw [if_pos e]
  rfl
theorem DifTo.more {a b : List Int} {us : List Up} {k : Nat} (h : DifTo a b us k) (ha : k < a.length) (hb : k < b.length) (e : ¬ a[k] = b[k]) : DifTo a b (us ++ [⟨(k : Int), a[k], b[k]⟩]) (k + 1) := by
  unfold DifTo at h ⊢
  rw [h, List.drop_eq_getElem_cons ha, List.drop_eq_getElem_cons hb]
  conv => lhs; unfold difL
  rw [if_neg e, List.append_assoc]
  rfl
theorem DifTo.all {a b : List Int} {us : List Up} {k : Nat} (h : DifTo a b us k) (ha : a.length ≤ k) : dif a b = us := by
  unfold DifTo at h
  rw [h, List.drop_of_length_le ha]
  unfold difL
  rw [List.append_nil]
/-- Updates of the call's own. -/
def UpsOf (us : List Up) (w : World) (e : Ending) (w' : World) : Prop := ∃ A c, e = .returned (.slice A us.length c) ∧ OwnUps w' w.heap.size (.slice A us.length c) us ∧ Below w.heap.size w w'
theorem UpsOf.mk_ {us : List Up} {w w' : World} {v : Value} (ho : OwnUps w' w.heap.size v us) (hb : Below w.heap.size w w') : UpsOf us w (.returned v) w' := by
  obtain ⟨A, c, rfl, _⟩ := ho.form
  exact ⟨A, c, rfl, ho, hb⟩
theorem OwnUps.app {w' : World} {B : Nat} {v' : Value} {us : List Up} {u : Up} (h : w'.ownsRow B 164 3 v' (us.length + 1) (upsV us ++ [.int .i64 u.r, .int .i64 u.o, .int .i64 u.n])) : OwnUps w' B v' (us ++ [u]) := by
  unfold OwnUps
  rw [List.length_append, List.length_singleton, upsV_append, upsV_one]
  exact h
theorem row_three (w : World) (v0 v1 v2 : Value) (t : TypeId) : Row (w.alloc (.cells #[v0, v1, v2] t)) (w.alloc (.cells #[v0, v1, v2] t)).heap.size (some ⟨w.heap.size, 0, none⟩) [v0, v1, v2] := .inr ⟨_, rfl, by simp, new_three w v0 v1 v2 t⟩
end Go.Proofs.YteaibflloeipaaaGreatDoor
namespace Go.Proofs.YteaibflloeipaaaGreatDoor
open Go.RowKit Wo Pu Rf

/-- A drawn id, seldom a wrong one. -/
def ValDrawn (R : Nat) (q : Int) (w : World) (e : Ending) (w' : World) : Prop := ∃ x : Int, e = .returned (.int .i64 x) ∧ -2 ≤ x ∧ x ≤ 991 ∧ Rd w' R (q + 2) ∧ But R w w'
set_option maxHeartbeats 4000000 in
theorem l92Value_any (R : Nat) (q : Int) (w : World) (hR : Rd w R q) (hq : q ≤ 900000000) :
    Calls Tryz.prog 105 #[.pointer (some ⟨R, 0, none⟩)] w (ValDrawn R q w) := by
  go_enter Tryz.func105, Tryz.ntmps105
  go_wp2_with fail
  refine (pick_any R q 30 w hR (by omega) (by omega) (by omega)).mono ?_
  rintro e w1 ⟨n1, rfl, a0, a1, hR1, hT1⟩
  by_cases h0 : n1 = 0
  · have e0 : (n1 == 0) = true := by rw [h0]; rfl
    clear h0
    go_wp2_with fail
    have hbA := (Below.refl w1.heap.size w1).alloc (Nat.le_refl _) (.cells #[.int .i64 (-2), .int .i64 990, .int .i64 991] 3)
    have hz := hR1.lt
    refine (pick_any R (q + 1) 3 _ (hR1.below hbA hz) (by omega) (by omega) (by omega)).mono ?_
    rintro e w2 ⟨n2, rfl, b0, b1, hR2, hT2⟩
    have bx : Box3 w2 w1.heap.size (.int .i64 (-2)) (.int .i64 990) (.int .i64 991) := hT2.box (Box3.new_ w1 _ _ _ _) (by omega)
    have hTT := (hT1.trans (.of_below hbA)).trans hT2
    obtain ⟨_, p0, p1, p2⟩ := bx
    have key : n2 = 0 ∨ n2 = 1 ∨ n2 = 2 := by omega
    rcases key with rfl | rfl | rfl
    · go_wp2
      go_ret
      exact ⟨_, rfl, by omega, by omega, hR2.more (by omega), hTT⟩
    · go_wp2
      go_ret
      exact ⟨_, rfl, by omega, by omega, hR2.more (by omega), hTT⟩
    · go_wp2
      go_ret
      exact ⟨_, rfl, by omega, by omega, hR2.more (by omega), hTT⟩
  · have e0 : (n1 == 0) = false := by rw [beq_eq_false_iff_ne]; omega
    go_wp2_with fail
    refine (pick_any R (q + 1) 6 _ hR1 (by omega) (by omega) (by omega)).mono ?_
    rintro e w2 ⟨n2, rfl, b0, b1, hR2, hT2⟩
    go_wp2
    go_ret
    exact ⟨_, rfl, by omega, by omega, hR2.more (by omega), hT1.trans hT2⟩

/-- The first k of a row of the call's own. -/
theorem own_cut {w : World} {B n c sz k : Nat} {e : TypeId} {A : Option Addr} {xs : List Value} (h : w.ownsRow B e sz (.slice A n c) n xs) (hk : k ≤ n) : w.ownsRow B e sz (.slice A k c) k (xs.take (k * sz)) := by
  obtain ⟨h1, h2⟩ := h
  refine ⟨by rw [List.length_take, h1]; exact Nat.min_eq_left (Nat.mul_le_mul_right sz hk), ?_⟩
  rcases h2 with ⟨hv, h0⟩ | ⟨g, cap, cur, hv, hB, hh, hn, hm, hcs, htk⟩
  · injection hv with e1 e2 e3
    subst e1
    subst e3
    have : k = 0 := by omega
    subst this
    exact .inl ⟨rfl, rfl⟩
  · injection hv with e1 e2 e3
    subst e1
    subst e3
    exact .inr ⟨g, c, cur, rfl, hB, hh, by omega, hm, hcs, by rw [← htk, List.take_take, Nat.min_eq_left (Nat.mul_le_mul_right sz hk)]⟩
theorem OwnI.cut {w : World} {B c k : Nat} {A : Option Addr} {zs : List Int} (h : OwnI w B (.slice A zs.length c) zs) (hk : k ≤ zs.length) : OwnI w B (.slice A k c) (zs.take k) := by
  have h1 := own_cut h hk
  have e : (zs.take k).length = k := by rw [List.length_take]; omega
  unfold OwnI
  rw [e]
  have e2 : ints (zs.take k) = (ints zs).take (k * 1) := by unfold ints; rw [List.map_take, Nat.mul_one]
  rw [e2]
  exact h1
/-- Drawn refs. -/
def RefsDrawn (R : Nat) (q : Int) (w : World) (e : Ending) (w' : World) : Prop := ∃ v zs, e = .returned v ∧ OwnI w' w.heap.size v zs ∧ zs.length ≤ 4 ∧ Rd w' R (q + 12) ∧ But R w w'
end Go.Proofs.YteaibflloeipaaaGreatDoor
/- Laws on coordinators: a coordinator is boxed. -/
/- On to the world behind D. -/
/- An exact law begins: the argument's box, its size, a copy for the model. -/
/- The program's own copy of the argument is boxed. -/
/- The program's copy is as the argument; the region draws. -/
/- Laws on functions that answer numbers. -/
/- What the boxes hold is read again. -/
/- The coordinator with the slices P4 and P5 is boxed as P6, in block P7, behind it the world P3; ahead of region P1. -/
/- The draw, the program's answer, the model's, and that they are the same: behind it w5, all facts on it by way of dx. -/
/-
  Walks: drawn updates.
-/
namespace Go.Proofs.YteaibflloeipaaaGreatDoor
open Go.RowKit Wo Pu Rf

theorem row_but {w w' : World} {R B : Nat} {A : Option Addr} {vs : List Value} (h : Row w B A vs) (hA : ∀ ad, A = some ad → ad.block ≠ R) (hb : But R w w') (hB : B ≤ w.heap.size) : Row w' B A vs := by
  rcases h with rfl | ⟨ad, e, hbk, hc⟩
  · exact .inl rfl
  · refine .inr ⟨ad, e, hbk, fun j v hv => ?_⟩
    rw [← hc j v hv]
    exact World.cell?_of_block (w := w) (a := ad.add j) (by rw [add_block]; exact hb.block ad.block (by omega) (fun e2 => hA ad e (by injection e2)))
theorem OwnUps.far {w : World} {B g : Nat} {v : Value} {os : List Up} (h : OwnUps w B v os) (hg : v.ownBlock ≠ some g) (o : Nat) (u : Value) : OwnUps (w.setCell ⟨g, o, none⟩ u) B v os := by
  obtain ⟨h1, h2⟩ := h
  refine ⟨h1, ?_⟩
  rcases h2 with h2 | ⟨g', cap, cur, rfl, hB, hh, hr⟩
  · exact .inl h2
  · refine .inr ⟨g', cap, cur, rfl, hB, ?_, hr⟩
    rw [Below.heap_setCell _ _ _ _ (fun e => hg (by show some g' = some g; rw [show g' = g from e]))]
    exact hh
theorem new_three_at (w : World) (g : Nat) (v0 v1 v2 : Value) (t : TypeId) (hg : g = w.heap.size) : ∀ j u, [v0, v1, v2][j]? = some u → (w.alloc (.cells #[v0, v1, v2] t)).cell? ((⟨g, 0, none⟩ : Addr).add j) = some u := by
  subst hg; exact new_three _ _ _ _ _
/-- An update that is being drawn, in block g; those before it. -/
def USt (R g : Nat) (q : Int) (W : World) (v : Value) (L : List Up) (o : Up) (wx : World) : Prop :=
  OwnUps wx W.heap.size v L ∧ Blk wx g 164 (.int .i64 o.r) (.int .i64 o.o) (.int .i64 o.n) ∧ v.ownBlock ≠ some g ∧ W.heap.size ≤ g ∧ Rd wx R q ∧ But R W wx
section
variable {R g : Nat} {q q' : Int} {W wx w' : World} {v : Value} {L : List Up} {o : Up}
theorem USt.but (h : USt R g q W v L o wx) (hR : R < W.heap.size) (hb : But R wx w') (hr : Rd w' R q') : USt R g q' W v L o w' := by
  obtain ⟨h1, h2, h3, h4, h5, h6⟩ := h
  exact ⟨h1.but hb hR, h2.but hb (by omega), h3, h4, hr, h6.trans hb⟩
theorem USt.set1 (h : USt R g q W v L o wx) (hR : R < W.heap.size) (x : Int) : USt R g q W v L ⟨o.r, x, o.n⟩ (wx.setCell ⟨g, 1, none⟩ (.int .i64 x)) := by
  obtain ⟨h1, h2, h3, h4, h5, h6⟩ := h
  exact ⟨h1.far h3 _ _, h2.set1 _, h3, h4, h5.far (by omega) _ _, h6.set_new h4 _ _⟩
theorem USt.set2 (h : USt R g q W v L o wx) (hR : R < W.heap.size) (x : Int) : USt R g q W v L ⟨o.r, o.o, x⟩ (wx.setCell ⟨g, 2, none⟩ (.int .i64 x)) := by
  obtain ⟨h1, h2, h3, h4, h5, h6⟩ := h
  exact ⟨h1.far h3 _ _, h2.set2 _, h3, h4, h5.far (by omega) _ _, h6.set_new h4 _ _⟩
theorem USt.new_ (h1 : OwnUps wx W.heap.size v L) (h5 : Rd wx R q) (h6 : But R W wx) (hR : R < W.heap.size) : USt R wx.heap.size q W v L o (wx.alloc (.cells #[.int .i64 o.r, .int .i64 o.o, .int .i64 o.n] 164)) := by
  have al := (Below.refl wx.heap.size wx).alloc (Nat.le_refl _) (.cells #[.int .i64 o.r, .int .i64 o.o, .int .i64 o.n] 164)
  refine ⟨h1.below al, Blk.new_ _ _ _ _ _, fun e => ?_, h6.size, h5.below al (Nat.lt_of_lt_of_le hR h6.size), h6.trans (.of_below al)⟩
  have := (World.ownsRow.lt h1 _ e).2
  omega
end
/-- Behind an append of an update. -/
theorem ups_app {R : Nat} {q : Int} {W wx w' : World} {v v' : Value} {L : List Up} {o : Up} (h1 : OwnUps wx W.heap.size v L) (h5 : Rd wx R q) (h6 : But R W wx) (hR : R < W.heap.size)
    (hown : w'.ownsRow W.heap.size 164 3 v' (L.length + 1) (upsV L ++ [.int .i64 o.r, .int .i64 o.o, .int .i64 o.n]))
    (hg : (wx.alloc (.cells #[.int .i64 o.r, .int .i64 o.o, .int .i64 o.n] 164)).grownBy w' v.ownBlock) : OwnUps w' W.heap.size v' (L ++ [o]) ∧ Rd w' R q ∧ But R W w' := by
  have al := (Below.refl wx.heap.size wx).alloc (Nat.le_refl _) (.cells #[.int .i64 o.r, .int .i64 o.o, .int .i64 o.n] 164)
  have lt1 := World.ownsRow.lt h1
  refine ⟨?_, ?_, ?_⟩
  · unfold OwnUps
    rw [List.length_append, List.length_singleton, upsV_append, upsV_one]
    exact hown
  · have b : Below W.heap.size wx w' := ((Below.refl W.heap.size wx).alloc h6.size _).grown hg (by have := h6.size; simp; omega) (fun k hk => (lt1 k hk).1)
    exact h5.below b hR
  · exact World.grownBy.andThen (h6.trans (.of_below al)) hg (fun k hk => .inl (lt1 k hk).1)
theorem upsV_setd {os : List Up} {m d : Nat} (h : m < os.length) (hd : d < 3) (o : Up) (v : Value) (ho : upV o = (upV os[m]).set d v) : (upsV os).set (m * 3 + d) v = upsV (os.set m o) := by
  have hl := upsV_length os
  apply List.ext_getElem?
  intro j
  by_cases hj : j < os.length * 3
  · obtain ⟨q, d', hd', rfl⟩ : ∃ q d', d' < 3 ∧ j = q * 3 + d' := ⟨j / 3, j % 3, by omega, by omega⟩
    have hq : q < os.length := by omega
    rw [upsV_get (os := os.set m o) (by rw [List.length_set]; exact hq) hd']
    by_cases e : q = m
    · subst e
      have hoo : (os.set q o)[q]'(by rw [List.length_set]; exact hq) = o := by simp
      rw [hoo, ho]
      by_cases e2 : d' = d
      · subst e2
        rw [List.getElem?_set_self (by omega), List.getElem?_set_self (by show _ < 3; exact hd)]
      · rw [List.getElem?_set_ne (by omega), List.getElem?_set_ne (by omega), upsV_get hq hd']
    · have hoo : (os.set m o)[q]'(by rw [List.length_set]; exact hq) = os[q] := by rw [List.getElem_set_ne (by omega)]
      rw [hoo, List.getElem?_set_ne (by omega), upsV_get hq hd']
  · rw [List.getElem?_eq_none (by simp; omega), List.getElem?_eq_none (by rw [upsV_length, List.length_set]; omega)]
theorem OwnUps.stored {w : World} {B g c : Nat} {os : List Up} (h : OwnUps w B (.slice (some ⟨g, 0, none⟩) os.length c) os) {m d : Nat} (hm : m < os.length) (hd : d < 3) (o : Up) (v : Value) (ho : upV o = (upV os[m]).set d v) :
    OwnUps (w.setCell ⟨g, m * 3 + d, none⟩ v) B (.slice (some ⟨g, 0, none⟩) os.length c) (os.set m o) := by
  have := (World.ownsRow.stored h (m * 3 + d) v).1
  rw [upsV_setd hm hd o v ho] at this
  unfold OwnUps
  rw [List.length_set]
  exact this
theorem OwnUps.at {w : World} {B : Nat} {v : Value} {os : List Up} (h : OwnUps w B v os) (hp : 0 < os.length) : ∃ g c, v = .slice (some ⟨g, 0, none⟩) os.length c ∧ B ≤ g ∧ g < w.heap.size := by
  obtain ⟨g, cap, e, h1, h2⟩ := World.ownsRow.form h hp
  exact ⟨g, cap, e, h1, h2⟩
theorem OwnUps.cut0 {w : World} {B c n : Nat} {A : Option Addr} {os : List Up} (h : OwnUps w B (.slice A n c) os) (hn : n = os.length) : OwnUps w B (.slice A 0 c) [] := by
  subst hn
  exact own_cut h (Nat.zero_le _)

/-- Drawn updates. -/
def UpsDrawn (R : Nat) (q : Int) (w : World) (e : Ending) (w' : World) : Prop := ∃ v us, e = .returned v ∧ OwnUps w' w.heap.size v us ∧ us.length ≤ 4 ∧ Rd w' R (q + 30) ∧ But R w w'

set_option maxRecDepth 100000 in
set_option maxHeartbeats 8000000 in
theorem l92Updates_any (R : Nat) (q : Int) (A : Option Addr) (c : Nat) (zs : List Int) (w : World) (hR : Rd w R q) (hq : q ≤ 700000000) (hz : Row w w.heap.size A (ints zs)) (hA : ∀ ad, A = some ad → ad.block ≠ R) :
    Calls Tryz.prog 66 #[.pointer (some ⟨R, 0, none⟩), .slice A zs.length c] w (UpsDrawn R q w) := by
  obtain ⟨i0, hi, hz0, hz1, hz2⟩ := info_of info_up
  have hRl := hR.lt
  have al := (Below.refl w.heap.size w).alloc (Nat.le_refl _) (.cells #[] 164)
  have R0 := hR.below al hRl
  have T0 : But R w (w.alloc (.cells #[] 164)) := .of_below al
  have o0 := OwnUps.nil_new (w := w) (Nat.le_refl _)
  go_enter Tryz.func66, Tryz.ntmps66
  go_wp2_with fail
  go_loopw [5, 6] (fun v i wr => ∃ (k : Nat) (L : List Up), k ≤ 4 ∧ i = .int .i64 k ∧ Hid (L.length ≤ k) ∧ OwnUps wr w.heap.size v L ∧ Rd wr R (q + 4 * k) ∧ But R w wr) (fun _ i _ => 4 - (intOf i).toNat)
  case atStart => exact ⟨0, [], Nat.zero_le _, rfl, Nat.le_refl _, o0, by simpa using R0, T0⟩
  case round =>
    clear o0 R0 T0 al
    obtain ⟨k, L, hk, rfl, HL, ho, Rk, Tk⟩ := hrel
    have HL4 : Hid (L.length ≤ 4) := by have := HL.out; show _ ≤ _; omega
    by_cases hlt : k < 4
    · go_wp2_with fail
      refine (pick_any R _ 3 wr Rk (by omega) (by omega) (by omega)).mono ?_
      rintro e w1 ⟨x, rfl, x0, x1, R1, T1⟩
      have o1 := ho.but T1 hRl
      have T2 := Tk.trans T1
      clear ho Rk Tk T1
      by_cases hx : x = 0
      · have e0 : (x == 0) = true := by rw [hx]; rfl
        clear hx
        go_wp2_with fail
        refine (pick_any R _ 4 w1 R1 (by omega) (by omega) (by omega)).mono ?_
        rintro e w2 ⟨x2, rfl, y0, y1, R2, T3⟩
        have o2 := o1.but T3 hRl
        have T4 := T2.trans T3
        clear o1 R1 T2 T3
        go_wp2_with fail
        refine (pick_any R _ 6 w2 R2 (by omega) (by omega) (by omega)).mono ?_
        rintro e w3 ⟨x3, rfl, y2, y3, R3, T5⟩
        have o3 := o2.but T5 hRl
        have T6 := T4.trans T5
        have s1 := USt.new_ (o := ⟨(k : Int), x2 - 1, x3 - 1⟩) o3 R3 T6 hRl
        clear o2 R2 T4 T5 o3 R3 T6
        by_cases hkz : k < zs.length
        · have q0 : (0 : Int) ≤ (k : Int) := by omega
          have q1 : (k : Int) < (zs.length : Int) := by omega
          go_wp2_with fail
          refine (pick_any R _ 6 _ s1.2.2.2.2.1 (by omega) (by omega) (by omega)).mono ?_
          rintro e w4 ⟨y, rfl, y4, y5, R4, T7⟩
          have s4 := USt.but s1 hRl T7 R4
          clear s1 R4 T7
          by_cases hy : 0 < y
          · have e1 : decide (0 < y) = true := decide_eq_true hy
            have rz := row_but hz hA s4.2.2.2.2.2 (Nat.le_refl _)
            obtain ⟨ad, rfl, had, hc⟩ := rz.int_ hkz
            obtain ⟨p0, p1, p2, pf⟩ := id s4.2.1.reads
            have pf1 := pf 1
            have s5 := USt.set1 s4 hRl zs[k]
            obtain ⟨z, hzz⟩ : ∃ z, zs[k] = z := ⟨_, rfl⟩
            rw [hzz] at hc s5
            clear pf hy rz s4 hzz
            by_cases he : (x3 - 1) = z
            · have e9 : ((x3 - 1) == z) = true := by rw [beq_iff_eq]; exact he
              obtain ⟨t0, t1, t2, tf⟩ := id s5.2.1.reads
              have tf2 := tf 2
              have s9 := USt.set2 s5 hRl (7 + (k : Int))
              clear tf he
              obtain ⟨hrow, -⟩ := id s9
              obtain ⟨y0, y1, y2, -⟩ := id s9.2.1.reads
              have hsz := Nat.le_trans s9.2.2.2.1 (Nat.le_of_lt s9.2.1.lt)
              go_wp2_with (at_builtin; go_must (refine wpList_append_own _ rfl _ _ 38 rfl w.heap.size 164 i0 (.agg #[.int .i64 0, .int .i64 0, .int .i64 0]) 3 24 Tryz.underlying38 hi hz0 hz1 hz2 rfl (by decide) _ L.length (upsV L) rfl (World.ownsRow.alloc hrow _) ⟨_, 0, none⟩ 1 1 [.int .i64 (k : Int), .int .i64 z, .int .i64 (7 + (k : Int))] rfl rfl (new_three_at _ _ _ _ _ _ (by first | rfl | simp)) (upV_cells ⟨(k : Int), z, (7 + (k : Int))⟩) (by have := HL4.out; unfold maxLen; omega) (by have := HL4.out; omega) (by rw [World.size_alloc]; exact Nat.le_succ_of_le hsz) ?_); intro v' w8 hown hg _)
              obtain ⟨a1, a2, a3⟩ := ups_app (o := ⟨(k : Int), z, (7 + (k : Int))⟩) s9.1 s9.2.2.2.2.1 s9.2.2.2.2.2 hRl hown hg
              clear hown hg
              go_wp2
              go_roundw
              case rel => exact ⟨k + 1, L ++ [⟨(k : Int), z, (7 + (k : Int))⟩], by omega, by go_num, by show _ ≤ _; rw [List.length_append, List.length_singleton]; have := HL.out; omega, a1, a2.more (by omega), a3⟩
              case measure => simp [intOf]; omega
            · have e9 : ((x3 - 1) == z) = false := by rw [beq_eq_false_iff_ne]; exact he
              clear he
              obtain ⟨hrow, -⟩ := id s5
              obtain ⟨y0, y1, y2, -⟩ := id s5.2.1.reads
              have hsz := Nat.le_trans s5.2.2.2.1 (Nat.le_of_lt s5.2.1.lt)
              go_wp2_with (at_builtin; go_must (refine wpList_append_own _ rfl _ _ 38 rfl w.heap.size 164 i0 (.agg #[.int .i64 0, .int .i64 0, .int .i64 0]) 3 24 Tryz.underlying38 hi hz0 hz1 hz2 rfl (by decide) _ L.length (upsV L) rfl (World.ownsRow.alloc hrow _) ⟨_, 0, none⟩ 1 1 [.int .i64 (k : Int), .int .i64 z, .int .i64 (x3 - 1)] rfl rfl (new_three_at _ _ _ _ _ _ (by first | rfl | simp)) (upV_cells ⟨(k : Int), z, (x3 - 1)⟩) (by have := HL4.out; unfold maxLen; omega) (by have := HL4.out; omega) (by rw [World.size_alloc]; exact Nat.le_succ_of_le hsz) ?_); intro v' w8 hown hg _)
              obtain ⟨a1, a2, a3⟩ := ups_app (o := ⟨(k : Int), z, (x3 - 1)⟩) s5.1 s5.2.2.2.2.1 s5.2.2.2.2.2 hRl hown hg
              clear hown hg
              go_wp2
              go_roundw
              case rel => exact ⟨k + 1, L ++ [⟨(k : Int), z, (x3 - 1)⟩], by omega, by go_num, by show _ ≤ _; rw [List.length_append, List.length_singleton]; have := HL.out; omega, a1, a2.more (by omega), a3⟩
              case measure => simp [intOf]; omega
          · have e1 : decide (0 < y) = false := decide_eq_false hy
            obtain ⟨p0, p1, p2, -⟩ := id s4.2.1.reads
            clear hy
            by_cases he : (x3 - 1) = (x2 - 1)
            · have e9 : ((x3 - 1) == (x2 - 1)) = true := by rw [beq_iff_eq]; exact he
              obtain ⟨t0, t1, t2, tf⟩ := id s4.2.1.reads
              have tf2 := tf 2
              have s9 := USt.set2 s4 hRl (7 + (k : Int))
              clear tf he
              obtain ⟨hrow, -⟩ := id s9
              obtain ⟨y0, y1, y2, -⟩ := id s9.2.1.reads
              have hsz := Nat.le_trans s9.2.2.2.1 (Nat.le_of_lt s9.2.1.lt)
              go_wp2_with (at_builtin; go_must (refine wpList_append_own _ rfl _ _ 38 rfl w.heap.size 164 i0 (.agg #[.int .i64 0, .int .i64 0, .int .i64 0]) 3 24 Tryz.underlying38 hi hz0 hz1 hz2 rfl (by decide) _ L.length (upsV L) rfl (World.ownsRow.alloc hrow _) ⟨_, 0, none⟩ 1 1 [.int .i64 (k : Int), .int .i64 (x2 - 1), .int .i64 (7 + (k : Int))] rfl rfl (new_three_at _ _ _ _ _ _ (by first | rfl | simp)) (upV_cells ⟨(k : Int), (x2 - 1), (7 + (k : Int))⟩) (by have := HL4.out; unfold maxLen; omega) (by have := HL4.out; omega) (by rw [World.size_alloc]; exact Nat.le_succ_of_le hsz) ?_); intro v' w8 hown hg _)
              obtain ⟨a1, a2, a3⟩ := ups_app (o := ⟨(k : Int), (x2 - 1), (7 + (k : Int))⟩) s9.1 s9.2.2.2.2.1 s9.2.2.2.2.2 hRl hown hg
              clear hown hg
              go_wp2
              go_roundw
              case rel => exact ⟨k + 1, L ++ [⟨(k : Int), (x2 - 1), (7 + (k : Int))⟩], by omega, by go_num, by show _ ≤ _; rw [List.length_append, List.length_singleton]; have := HL.out; omega, a1, a2.more (by omega), a3⟩
              case measure => simp [intOf]; omega
            · have e9 : ((x3 - 1) == (x2 - 1)) = false := by rw [beq_eq_false_iff_ne]; exact he
              clear he
              obtain ⟨hrow, -⟩ := id s4
              obtain ⟨y0, y1, y2, -⟩ := id s4.2.1.reads
              have hsz := Nat.le_trans s4.2.2.2.1 (Nat.le_of_lt s4.2.1.lt)
              go_wp2_with (at_builtin; go_must (refine wpList_append_own _ rfl _ _ 38 rfl w.heap.size 164 i0 (.agg #[.int .i64 0, .int .i64 0, .int .i64 0]) 3 24 Tryz.underlying38 hi hz0 hz1 hz2 rfl (by decide) _ L.length (upsV L) rfl (World.ownsRow.alloc hrow _) ⟨_, 0, none⟩ 1 1 [.int .i64 (k : Int), .int .i64 (x2 - 1), .int .i64 (x3 - 1)] rfl rfl (new_three_at _ _ _ _ _ _ (by first | rfl | simp)) (upV_cells ⟨(k : Int), (x2 - 1), (x3 - 1)⟩) (by have := HL4.out; unfold maxLen; omega) (by have := HL4.out; omega) (by rw [World.size_alloc]; exact Nat.le_succ_of_le hsz) ?_); intro v' w8 hown hg _)
              obtain ⟨a1, a2, a3⟩ := ups_app (o := ⟨(k : Int), (x2 - 1), (x3 - 1)⟩) s4.1 s4.2.2.2.2.1 s4.2.2.2.2.2 hRl hown hg
              clear hown hg
              go_wp2
              go_roundw
              case rel => exact ⟨k + 1, L ++ [⟨(k : Int), (x2 - 1), (x3 - 1)⟩], by omega, by go_num, by show _ ≤ _; rw [List.length_append, List.length_singleton]; have := HL.out; omega, a1, a2.more (by omega), a3⟩
              case measure => simp [intOf]; omega
        · have e1 : decide ((k : Int) < (zs.length : Int)) = false := decide_eq_false (by omega)
          have e2 : decide (k < zs.length) = false := decide_eq_false hkz
          obtain ⟨W3, hW3⟩ : ∃ W, w3.alloc (.cells #[.int .i64 (k : Int), .int .i64 (x2 - 1), .int .i64 (x3 - 1)] 164) = W := ⟨_, rfl⟩
          rw [hW3] at s1
          obtain ⟨p0, p1, p2, -⟩ := id s1.2.1.reads
          by_cases he : (x3 - 1) = (x2 - 1)
          · have e9 : ((x3 - 1) == (x2 - 1)) = true := by rw [beq_iff_eq]; exact he
            obtain ⟨t0, t1, t2, tf⟩ := id s1.2.1.reads
            have tf2 := tf 2
            have s9 := USt.set2 s1 hRl (7 + (k : Int))
            clear tf he
            obtain ⟨hrow, -⟩ := id s9
            obtain ⟨y0, y1, y2, -⟩ := id s9.2.1.reads
            have hsz := Nat.le_trans s9.2.2.2.1 (Nat.le_of_lt s9.2.1.lt)
            go_wp2_with (at_builtin; go_must (refine wpList_append_own _ rfl _ _ 38 rfl w.heap.size 164 i0 (.agg #[.int .i64 0, .int .i64 0, .int .i64 0]) 3 24 Tryz.underlying38 hi hz0 hz1 hz2 rfl (by decide) _ L.length (upsV L) rfl (World.ownsRow.alloc hrow _) ⟨_, 0, none⟩ 1 1 [.int .i64 (k : Int), .int .i64 (x2 - 1), .int .i64 (7 + (k : Int))] rfl rfl (new_three_at _ _ _ _ _ _ (by first | rfl | simp)) (upV_cells ⟨(k : Int), (x2 - 1), (7 + (k : Int))⟩) (by have := HL4.out; unfold maxLen; omega) (by have := HL4.out; omega) (by rw [World.size_alloc]; exact Nat.le_succ_of_le hsz) ?_); intro v' w8 hown hg _)
            obtain ⟨a1, a2, a3⟩ := ups_app (o := ⟨(k : Int), (x2 - 1), (7 + (k : Int))⟩) s9.1 s9.2.2.2.2.1 s9.2.2.2.2.2 hRl hown hg
            clear hown hg
            go_wp2
            go_roundw
            case rel => exact ⟨k + 1, L ++ [⟨(k : Int), (x2 - 1), (7 + (k : Int))⟩], by omega, by go_num, by show _ ≤ _; rw [List.length_append, List.length_singleton]; have := HL.out; omega, a1, a2.more (by omega), a3⟩
            case measure => simp [intOf]; omega
          · have e9 : ((x3 - 1) == (x2 - 1)) = false := by rw [beq_eq_false_iff_ne]; exact he
            clear he
            obtain ⟨hrow, -⟩ := id s1
            obtain ⟨y0, y1, y2, -⟩ := id s1.2.1.reads
            have hsz := Nat.le_trans s1.2.2.2.1 (Nat.le_of_lt s1.2.1.lt)
            go_wp2_with (at_builtin; go_must (refine wpList_append_own _ rfl _ _ 38 rfl w.heap.size 164 i0 (.agg #[.int .i64 0, .int .i64 0, .int .i64 0]) 3 24 Tryz.underlying38 hi hz0 hz1 hz2 rfl (by decide) _ L.length (upsV L) rfl (World.ownsRow.alloc hrow _) ⟨_, 0, none⟩ 1 1 [.int .i64 (k : Int), .int .i64 (x2 - 1), .int .i64 (x3 - 1)] rfl rfl (new_three_at _ _ _ _ _ _ (by first | rfl | simp)) (upV_cells ⟨(k : Int), (x2 - 1), (x3 - 1)⟩) (by have := HL4.out; unfold maxLen; omega) (by have := HL4.out; omega) (by rw [World.size_alloc]; exact Nat.le_succ_of_le hsz) ?_); intro v' w8 hown hg _)
            obtain ⟨a1, a2, a3⟩ := ups_app (o := ⟨(k : Int), (x2 - 1), (x3 - 1)⟩) s1.1 s1.2.2.2.2.1 s1.2.2.2.2.2 hRl hown hg
            clear hown hg
            go_wp2
            go_roundw
            case rel => exact ⟨k + 1, L ++ [⟨(k : Int), (x2 - 1), (x3 - 1)⟩], by omega, by go_num, by show _ ≤ _; rw [List.length_append, List.length_singleton]; have := HL.out; omega, a1, a2.more (by omega), a3⟩
            case measure => simp [intOf]; omega
      · have e0 : (x == 0) = false := by rw [beq_eq_false_iff_ne]; exact hx
        go_wp2_with fail
        go_roundw
        case rel => exact ⟨k + 1, L, by omega, by go_num, by have := HL.out; show _ ≤ _; omega, o1, R1.more (by omega), T2⟩
        case measure => simp [intOf]; omega
    · have hk4 : k = 4 := by omega
      subst hk4
      obtain ⟨A2, c2, rfl, -, -⟩ := ho.form
      by_cases h0 : L.length = 0
      · have e0 : ((L.length : Int) == 0) = true := by rw [beq_iff_eq]; omega
        have HZ0 := hid h0
        clear h0 hlt
        go_wp2_with fail
        refine (pick_any R _ 4 wr Rk (by omega) (by omega) (by omega)).mono ?_
        rintro e w9 ⟨j0, rfl, x0, x1, R9, T8⟩
        obtain ⟨j, rfl⟩ := Int.eq_ofNat_of_zero_le x0
        have o9 := ho.but T8 hRl
        have T9 := Tk.trans T8
        clear ho Rk Tk T8
        by_cases hjz : j < zs.length
        · have rz := row_but hz hA T9 (Nat.le_refl _)
          obtain ⟨ad, rfl, had, hc⟩ := rz.int_ hjz
          have q1 : (j : Int) < (zs.length : Int) := by omega
          obtain ⟨z, hzz⟩ : ∃ z, zs[j] = z := ⟨_, rfl⟩
          rw [hzz] at hc
          clear hzz rz
          have nA := (Below.refl w9.heap.size w9).alloc (Nat.le_refl _) (.cells #[.int .i64 (j : Int), .int .i64 z, .int .i64 9] 164)
          have hsz9 := T9.size
          go_wp2_with (at_builtin; go_must (refine wpList_append_own _ rfl _ _ 38 rfl w.heap.size 164 i0 (.agg #[.int .i64 0, .int .i64 0, .int .i64 0]) 3 24 Tryz.underlying38 hi hz0 hz1 hz2 rfl (by decide) _ L.length (upsV L) rfl (World.ownsRow.alloc o9 _) ⟨_, 0, none⟩ 1 1 [.int .i64 (j : Int), .int .i64 z, .int .i64 9] rfl rfl (new_three_at _ _ _ _ _ _ (by first | rfl | simp)) (upV_cells ⟨(j : Int), z, 9⟩) (by have := HL4.out; unfold maxLen; omega) (by have := HL4.out; omega) (by rw [World.size_alloc]; exact Nat.le_succ_of_le hsz9) ?_); intro v8 w8 hown hg _)
          obtain ⟨S1, S5, S6⟩ := ups_app (o := ⟨(j : Int), z, 9⟩) o9 R9 T9 hRl hown hg
          have HLn : Hid (1 ≤ (L ++ [(⟨(j : Int), z, 9⟩ : Up)]).length ∧ (L ++ [(⟨(j : Int), z, 9⟩ : Up)]).length ≤ 4) := by show _ ∧ _; rw [List.length_append, List.length_singleton]; have := HZ0.out; omega
          clear hown hg nA o9 R9 T9
          obtain ⟨L9, hL9⟩ : ∃ L9, L ++ [(⟨(j : Int), z, 9⟩ : Up)] = L9 := ⟨_, rfl⟩
          rw [hL9] at S1 HLn
          clear hL9
          go_wp2_with fail
          refine (pick_any R _ 30 _ S5 (by omega) (by omega) (by omega)).mono ?_
          rintro e w5 ⟨d, rfl, d0, d1, R5, T5⟩
          have o5 := S1.but T5 hRl
          have T6 := S6.trans T5
          clear S1 S5 S6 T5
          have key : d = 0 ∨ d = 1 ∨ d = 2 ∨ (d ≠ 0 ∧ d ≠ 1 ∧ d ≠ 2) := by omega
          rcases key with rfl | rfl | rfl | ⟨dn0, dn1, dn2⟩
          · obtain ⟨g, cc, hvv, hg1, hg2⟩ := o5.at (by have := HLn.out; omega)
            rw [hvv] at o5 ⊢
            clear hvv
            have hl1 : 1 ≤ L9.length ∧ L9.length ≤ 4 := HLn.out
            go_wp2_with fail
            refine (pick_any R _ (L9.length : Int) w5 R5 (by omega) (by omega) (by omega)).mono ?_
            rintro e w6 ⟨y, rfl, y0, y1, R6, T7⟩
            obtain ⟨m, rfl⟩ := Int.eq_ofNat_of_zero_le y0
            have hm : m < L9.length := by omega
            go_wp2_with fail
            refine (pick_any R _ 6 w6 R6 (by omega) (by omega) (by omega)).mono ?_
            rintro e w7 ⟨x, rfl, x0, x1, R7, T8⟩
            have o7 := (o5.but T7 hRl).but T8 hRl
            have T9 := (T6.trans T7).trans T8
            obtain ⟨u0, z0⟩ : ∃ u0, w7.cell? ⟨g, m * 3, none⟩ = some u0 := ⟨_, (World.ownsRow.cellAt o7 (m * 3) (by omega)).trans (List.getElem?_eq_getElem (by rw [upsV_length]; omega))⟩
            have f0 := World.ownsRow.frozenAt o7 (m * 3)
            have o8 := OwnUps.stored o7 (m := m) (d := 0) hm (by omega) ⟨x - 1, L9[m].o, L9[m].n⟩ (.int .i64 (x - 1)) rfl
            rw [Nat.add_zero] at o8
            have T10 := T9.set_new hg1 (m * 3) (.int .i64 (x - 1))
            have R8 := R7.far (g := g) (by omega) (m * 3) (.int .i64 (x - 1))
            have hls : Hid ((L9.set m ⟨x - 1, L9[m].o, L9[m].n⟩).length ≤ 4) := by show _ ≤ _; rw [List.length_set]; omega
            clear o5 R5 T6 R6 T7 T8 R7 T9 o7
            go_wp2_with fail
            go_ret
            exact ⟨_, _, rfl, o8, hls.out, R8.more (by omega), T10⟩
          · obtain ⟨g, cc, hvv, hg1, hg2⟩ := o5.at (by have := HLn.out; omega)
            rw [hvv] at o5 ⊢
            clear hvv
            have hl1 : 1 ≤ L9.length ∧ L9.length ≤ 4 := HLn.out
            go_wp2_with fail
            refine (pick_any R _ (L9.length : Int) w5 R5 (by omega) (by omega) (by omega)).mono ?_
            rintro e w6 ⟨y, rfl, y0, y1, R6, T7⟩
            obtain ⟨m, rfl⟩ := Int.eq_ofNat_of_zero_le y0
            have hm : m < L9.length := by omega
            go_wp2_with fail
            refine (l92Value_any R _ w6 R6 (by omega)).mono ?_
            rintro e w7 ⟨x, rfl, x0, x1, R7, T8⟩
            have o7 := (o5.but T7 hRl).but T8 hRl
            have T9 := (T6.trans T7).trans T8
            obtain ⟨u0, z0⟩ : ∃ u0, w7.cell? ⟨g, m * 3 + 2, none⟩ = some u0 := ⟨_, (World.ownsRow.cellAt o7 (m * 3 + 2) (by omega)).trans (List.getElem?_eq_getElem (by rw [upsV_length]; omega))⟩
            have f0 := World.ownsRow.frozenAt o7 (m * 3 + 2)
            have o8 := OwnUps.stored o7 (m := m) (d := 2) hm (by omega) ⟨L9[m].r, L9[m].o, x⟩ (.int .i64 x) rfl
            have T10 := T9.set_new hg1 (m * 3 + 2) (.int .i64 x)
            have R8 := R7.far (g := g) (by omega) (m * 3 + 2) (.int .i64 x)
            have hls : Hid ((L9.set m ⟨L9[m].r, L9[m].o, x⟩).length ≤ 4) := by show _ ≤ _; rw [List.length_set]; omega
            clear o5 R5 T6 R6 T7 T8 R7 T9 o7
            go_wp2_with fail
            go_ret
            exact ⟨_, _, rfl, o8, hls.out, R8.more (by omega), T10⟩
          · obtain ⟨g, cc, hvv, hg1, hg2⟩ := o5.at (by have := HLn.out; omega)
            rw [hvv] at o5 ⊢
            clear hvv
            have o8 := o5.cut0 rfl
            have q1 : (0 : Int) ≤ (cc : Int) := by omega
            clear o5
            go_wp2_with fail
            go_ret
            exact ⟨_, [], rfl, o8, Nat.zero_le _, R5.more (by omega), T6⟩
          · have e0 : (d == 0) = false := by rw [beq_eq_false_iff_ne]; exact dn0
            have e1 : (d == 1) = false := by rw [beq_eq_false_iff_ne]; exact dn1
            have e2 : (d == 2) = false := by rw [beq_eq_false_iff_ne]; exact dn2
            clear dn0 dn1 dn2
            go_wp2_with fail
            go_ret
            exact ⟨_, _, rfl, o5, HLn.out.2, R5.more (by omega), T6⟩
        · have e1 : decide ((j : Int) < (zs.length : Int)) = false := decide_eq_false (by omega)
          have e2 : decide (j < zs.length) = false := decide_eq_false hjz
          clear hjz
          have nA := (Below.refl w9.heap.size w9).alloc (Nat.le_refl _) (.cells #[.int .i64 (j : Int), .int .i64 (-1), .int .i64 9] 164)
          have hsz9 := T9.size
          go_wp2_with (at_builtin; go_must (refine wpList_append_own _ rfl _ _ 38 rfl w.heap.size 164 i0 (.agg #[.int .i64 0, .int .i64 0, .int .i64 0]) 3 24 Tryz.underlying38 hi hz0 hz1 hz2 rfl (by decide) _ L.length (upsV L) rfl (World.ownsRow.alloc o9 _) ⟨_, 0, none⟩ 1 1 [.int .i64 (j : Int), .int .i64 (-1), .int .i64 9] rfl rfl (new_three_at _ _ _ _ _ _ (by first | rfl | simp)) (upV_cells ⟨(j : Int), (-1), 9⟩) (by have := HL4.out; unfold maxLen; omega) (by have := HL4.out; omega) (by rw [World.size_alloc]; exact Nat.le_succ_of_le hsz9) ?_); intro v8 w8 hown hg _)
          obtain ⟨S1, S5, S6⟩ := ups_app (o := ⟨(j : Int), (-1), 9⟩) o9 R9 T9 hRl hown hg
          have HLn : Hid (1 ≤ (L ++ [(⟨(j : Int), (-1), 9⟩ : Up)]).length ∧ (L ++ [(⟨(j : Int), (-1), 9⟩ : Up)]).length ≤ 4) := by show _ ∧ _; rw [List.length_append, List.length_singleton]; have := HZ0.out; omega
          clear hown hg nA o9 R9 T9
          obtain ⟨L9, hL9⟩ : ∃ L9, L ++ [(⟨(j : Int), (-1), 9⟩ : Up)] = L9 := ⟨_, rfl⟩
          rw [hL9] at S1 HLn
          clear hL9
          go_wp2_with fail
          refine (pick_any R _ 30 _ S5 (by omega) (by omega) (by omega)).mono ?_
          rintro e w5 ⟨d, rfl, d0, d1, R5, T5⟩
          have o5 := S1.but T5 hRl
          have T6 := S6.trans T5
          clear S1 S5 S6 T5
          have key : d = 0 ∨ d = 1 ∨ d = 2 ∨ (d ≠ 0 ∧ d ≠ 1 ∧ d ≠ 2) := by omega
          rcases key with rfl | rfl | rfl | ⟨dn0, dn1, dn2⟩
          · obtain ⟨g, cc, hvv, hg1, hg2⟩ := o5.at (by have := HLn.out; omega)
            rw [hvv] at o5 ⊢
            clear hvv
            have hl1 : 1 ≤ L9.length ∧ L9.length ≤ 4 := HLn.out
            go_wp2_with fail
            refine (pick_any R _ (L9.length : Int) w5 R5 (by omega) (by omega) (by omega)).mono ?_
            rintro e w6 ⟨y, rfl, y0, y1, R6, T7⟩
            obtain ⟨m, rfl⟩ := Int.eq_ofNat_of_zero_le y0
            have hm : m < L9.length := by omega
            go_wp2_with fail
            refine (pick_any R _ 6 w6 R6 (by omega) (by omega) (by omega)).mono ?_
            rintro e w7 ⟨x, rfl, x0, x1, R7, T8⟩
            have o7 := (o5.but T7 hRl).but T8 hRl
            have T9 := (T6.trans T7).trans T8
            obtain ⟨u0, z0⟩ : ∃ u0, w7.cell? ⟨g, m * 3, none⟩ = some u0 := ⟨_, (World.ownsRow.cellAt o7 (m * 3) (by omega)).trans (List.getElem?_eq_getElem (by rw [upsV_length]; omega))⟩
            have f0 := World.ownsRow.frozenAt o7 (m * 3)
            have o8 := OwnUps.stored o7 (m := m) (d := 0) hm (by omega) ⟨x - 1, L9[m].o, L9[m].n⟩ (.int .i64 (x - 1)) rfl
            rw [Nat.add_zero] at o8
            have T10 := T9.set_new hg1 (m * 3) (.int .i64 (x - 1))
            have R8 := R7.far (g := g) (by omega) (m * 3) (.int .i64 (x - 1))
            have hls : Hid ((L9.set m ⟨x - 1, L9[m].o, L9[m].n⟩).length ≤ 4) := by show _ ≤ _; rw [List.length_set]; omega
            clear o5 R5 T6 R6 T7 T8 R7 T9 o7
            go_wp2_with fail
            go_ret
            exact ⟨_, _, rfl, o8, hls.out, R8.more (by omega), T10⟩
          · obtain ⟨g, cc, hvv, hg1, hg2⟩ := o5.at (by have := HLn.out; omega)
            rw [hvv] at o5 ⊢
            clear hvv
            have hl1 : 1 ≤ L9.length ∧ L9.length ≤ 4 := HLn.out
            go_wp2_with fail
            refine (pick_any R _ (L9.length : Int) w5 R5 (by omega) (by omega) (by omega)).mono ?_
            rintro e w6 ⟨y, rfl, y0, y1, R6, T7⟩
            obtain ⟨m, rfl⟩ := Int.eq_ofNat_of_zero_le y0
            have hm : m < L9.length := by omega
            go_wp2_with fail
            refine (l92Value_any R _ w6 R6 (by omega)).mono ?_
            rintro e w7 ⟨x, rfl, x0, x1, R7, T8⟩
            have o7 := (o5.but T7 hRl).but T8 hRl
            have T9 := (T6.trans T7).trans T8
            obtain ⟨u0, z0⟩ : ∃ u0, w7.cell? ⟨g, m * 3 + 2, none⟩ = some u0 := ⟨_, (World.ownsRow.cellAt o7 (m * 3 + 2) (by omega)).trans (List.getElem?_eq_getElem (by rw [upsV_length]; omega))⟩
            have f0 := World.ownsRow.frozenAt o7 (m * 3 + 2)
            have o8 := OwnUps.stored o7 (m := m) (d := 2) hm (by omega) ⟨L9[m].r, L9[m].o, x⟩ (.int .i64 x) rfl
            have T10 := T9.set_new hg1 (m * 3 + 2) (.int .i64 x)
            have R8 := R7.far (g := g) (by omega) (m * 3 + 2) (.int .i64 x)
            have hls : Hid ((L9.set m ⟨L9[m].r, L9[m].o, x⟩).length ≤ 4) := by show _ ≤ _; rw [List.length_set]; omega
            clear o5 R5 T6 R6 T7 T8 R7 T9 o7
            go_wp2_with fail
            go_ret
            exact ⟨_, _, rfl, o8, hls.out, R8.more (by omega), T10⟩
          · obtain ⟨g, cc, hvv, hg1, hg2⟩ := o5.at (by have := HLn.out; omega)
            rw [hvv] at o5 ⊢
            clear hvv
            have o8 := o5.cut0 rfl
            have q1 : (0 : Int) ≤ (cc : Int) := by omega
            clear o5
            go_wp2_with fail
            go_ret
            exact ⟨_, [], rfl, o8, Nat.zero_le _, R5.more (by omega), T6⟩
          · have e0 : (d == 0) = false := by rw [beq_eq_false_iff_ne]; exact dn0
            have e1 : (d == 1) = false := by rw [beq_eq_false_iff_ne]; exact dn1
            have e2 : (d == 2) = false := by rw [beq_eq_false_iff_ne]; exact dn2
            clear dn0 dn1 dn2
            go_wp2_with fail
            go_ret
            exact ⟨_, _, rfl, o5, HLn.out.2, R5.more (by omega), T6⟩
      · have e0 : ((L.length : Int) == 0) = false := by rw [beq_eq_false_iff_ne]; omega
        have HLn : Hid (1 ≤ L.length ∧ L.length ≤ 4) := by show _ ∧ _; have := HL.out; omega
        have S1 := ho
        have S5 := Rk
        have S6 := Tk
        clear h0 hlt ho Rk Tk
        go_wp2_with fail
        refine (pick_any R _ 30 _ S5 (by omega) (by omega) (by omega)).mono ?_
        rintro e w5 ⟨d, rfl, d0, d1, R5, T5⟩
        have o5 := S1.but T5 hRl
        have T6 := S6.trans T5
        clear S1 S5 S6 T5
        have key : d = 0 ∨ d = 1 ∨ d = 2 ∨ (d ≠ 0 ∧ d ≠ 1 ∧ d ≠ 2) := by omega
        rcases key with rfl | rfl | rfl | ⟨dn0, dn1, dn2⟩
        · obtain ⟨g, cc, hvv, hg1, hg2⟩ := o5.at (by have := HLn.out; omega)
          rw [hvv] at o5 ⊢
          clear hvv
          have hl1 : 1 ≤ L.length ∧ L.length ≤ 4 := HLn.out
          go_wp2_with fail
          refine (pick_any R _ (L.length : Int) w5 R5 (by omega) (by omega) (by omega)).mono ?_
          rintro e w6 ⟨y, rfl, y0, y1, R6, T7⟩
          obtain ⟨m, rfl⟩ := Int.eq_ofNat_of_zero_le y0
          have hm : m < L.length := by omega
          go_wp2_with fail
          refine (pick_any R _ 6 w6 R6 (by omega) (by omega) (by omega)).mono ?_
          rintro e w7 ⟨x, rfl, x0, x1, R7, T8⟩
          have o7 := (o5.but T7 hRl).but T8 hRl
          have T9 := (T6.trans T7).trans T8
          obtain ⟨u0, z0⟩ : ∃ u0, w7.cell? ⟨g, m * 3, none⟩ = some u0 := ⟨_, (World.ownsRow.cellAt o7 (m * 3) (by omega)).trans (List.getElem?_eq_getElem (by rw [upsV_length]; omega))⟩
          have f0 := World.ownsRow.frozenAt o7 (m * 3)
          have o8 := OwnUps.stored o7 (m := m) (d := 0) hm (by omega) ⟨x - 1, L[m].o, L[m].n⟩ (.int .i64 (x - 1)) rfl
          rw [Nat.add_zero] at o8
          have T10 := T9.set_new hg1 (m * 3) (.int .i64 (x - 1))
          have R8 := R7.far (g := g) (by omega) (m * 3) (.int .i64 (x - 1))
          have hls : Hid ((L.set m ⟨x - 1, L[m].o, L[m].n⟩).length ≤ 4) := by show _ ≤ _; rw [List.length_set]; omega
          clear o5 R5 T6 R6 T7 T8 R7 T9 o7
          go_wp2_with fail
          go_ret
          exact ⟨_, _, rfl, o8, hls.out, R8.more (by omega), T10⟩
        · obtain ⟨g, cc, hvv, hg1, hg2⟩ := o5.at (by have := HLn.out; omega)
          rw [hvv] at o5 ⊢
          clear hvv
          have hl1 : 1 ≤ L.length ∧ L.length ≤ 4 := HLn.out
          go_wp2_with fail
          refine (pick_any R _ (L.length : Int) w5 R5 (by omega) (by omega) (by omega)).mono ?_
          rintro e w6 ⟨y, rfl, y0, y1, R6, T7⟩
          obtain ⟨m, rfl⟩ := Int.eq_ofNat_of_zero_le y0
          have hm : m < L.length := by omega
          go_wp2_with fail
          refine (l92Value_any R _ w6 R6 (by omega)).mono ?_
          rintro e w7 ⟨x, rfl, x0, x1, R7, T8⟩
          have o7 := (o5.but T7 hRl).but T8 hRl
          have T9 := (T6.trans T7).trans T8
          obtain ⟨u0, z0⟩ : ∃ u0, w7.cell? ⟨g, m * 3 + 2, none⟩ = some u0 := ⟨_, (World.ownsRow.cellAt o7 (m * 3 + 2) (by omega)).trans (List.getElem?_eq_getElem (by rw [upsV_length]; omega))⟩
          have f0 := World.ownsRow.frozenAt o7 (m * 3 + 2)
          have o8 := OwnUps.stored o7 (m := m) (d := 2) hm (by omega) ⟨L[m].r, L[m].o, x⟩ (.int .i64 x) rfl
          have T10 := T9.set_new hg1 (m * 3 + 2) (.int .i64 x)
          have R8 := R7.far (g := g) (by omega) (m * 3 + 2) (.int .i64 x)
          have hls : Hid ((L.set m ⟨L[m].r, L[m].o, x⟩).length ≤ 4) := by show _ ≤ _; rw [List.length_set]; omega
          clear o5 R5 T6 R6 T7 T8 R7 T9 o7
          go_wp2_with fail
          go_ret
          exact ⟨_, _, rfl, o8, hls.out, R8.more (by omega), T10⟩
        · obtain ⟨g, cc, hvv, hg1, hg2⟩ := o5.at (by have := HLn.out; omega)
          rw [hvv] at o5 ⊢
          clear hvv
          have o8 := o5.cut0 rfl
          have q1 : (0 : Int) ≤ (cc : Int) := by omega
          clear o5
          go_wp2_with fail
          go_ret
          exact ⟨_, [], rfl, o8, Nat.zero_le _, R5.more (by omega), T6⟩
        · have e0 : (d == 0) = false := by rw [beq_eq_false_iff_ne]; exact dn0
          have e1 : (d == 1) = false := by rw [beq_eq_false_iff_ne]; exact dn1
          have e2 : (d == 2) = false := by rw [beq_eq_false_iff_ne]; exact dn2
          clear dn0 dn1 dn2
          go_wp2_with fail
          go_ret
          exact ⟨_, _, rfl, o5, HLn.out.2, R5.more (by omega), T6⟩
end Go.Proofs.YteaibflloeipaaaGreatDoor
namespace Go.Proofs.YteaibflloeipaaaGreatDoor
open Go.RowKit Wo Pu Rf

/-- Drawn refs. -/
def RefsMade (w : World) (e : Ending) (w' : World) : Prop := ∃ A c zs, e = .returned (.slice A zs.length c) ∧ Row w' w'.heap.size A (ints zs) ∧ zs.length ≤ 4 ∧ zs.length ≤ c ∧ Below w.heap.size w w'
/-- Drawn updates. -/
def UpsMade (w : World) (e : Ending) (w' : World) : Prop := ∃ A c us, e = .returned (.slice A us.length c) ∧ Row w' w'.heap.size A (upsV us) ∧ us.length ≤ 4 ∧ us.length ≤ c ∧ Below w.heap.size w w'
/-- Drawn refs and updates. -/
def BothMade (w : World) (e : Ending) (w' : World) : Prop := ∃ A c zs A2 c2 us, e = .returned (.tuple #[.slice A zs.length c, .slice A2 us.length c2]) ∧ Row w' w'.heap.size A (ints zs) ∧ zs.length ≤ 4 ∧ Row w' w'.heap.size A2 (upsV us) ∧ us.length ≤ 4 ∧ Below w.heap.size w w'
/-- Two drawn lists of refs. -/
def TwoRefs (w : World) (e : Ending) (w' : World) : Prop := ∃ A c zs A2 c2 ys, e = .returned (.tuple #[.slice A zs.length c, .slice A2 ys.length c2]) ∧ Row w' w'.heap.size A (ints zs) ∧ zs.length ≤ 4 ∧ Row w' w'.heap.size A2 (ints ys) ∧ ys.length ≤ 4 ∧ Below w.heap.size w w'
/-- Two drawn lists of updates. -/
def TwoUps (w : World) (e : Ending) (w' : World) : Prop := ∃ A c us A2 c2 vs, e = .returned (.tuple #[.slice A us.length c, .slice A2 vs.length c2]) ∧ Row w' w'.heap.size A (upsV us) ∧ us.length ≤ 4 ∧ Row w' w'.heap.size A2 (upsV vs) ∧ vs.length ≤ 4 ∧ Below w.heap.size w w'
theorem OwnI.ne {w : World} {B R n c : Nat} {A : Option Addr} {zs : List Int} (h : OwnI w B (.slice A n c) zs) (hR : R < B) : ∀ ad, A = some ad → ad.block ≠ R := fun ad e => by
  subst e
  have := (World.ownsRow.lt h ad.block rfl).1
  omega
theorem OwnUps.row {w : World} {B c : Nat} {A : Option Addr} {n : Nat} {us : List Up} (h : OwnUps w B (.slice A n c) us) : Row w w.heap.size A (upsV us) := by
  obtain ⟨A', c', e, hr, _⟩ := h.form
  injection e with e1
  subst e1
  exact hr
theorem row_wide {w : World} {B B' : Nat} {A : Option Addr} {vs : List Value} (h : Row w B A vs) (hB : B ≤ B') : Row w B' A vs := by
  rcases h with rfl | ⟨ad, e, hb, hc⟩
  · exact .inl rfl
  · exact .inr ⟨ad, e, Nat.lt_of_lt_of_le hb hB, hc⟩
theorem OwnI.wide {w w' : World} {B c n : Nat} {A : Option Addr} {zs : List Int} (h : OwnI w B (.slice A n c) zs) (hb : Below w.heap.size w w') : Row w' w'.heap.size A (ints zs) := (h.below hb (Nat.le_refl _)).row
end Go.Proofs.YteaibflloeipaaaGreatDoor
namespace Go.Proofs.YteaibflloeipaaaGreatDoor
open Go.RowKit Wo Pu Rf

/-- The marks from k on. -/
def mkU (k i : Nat) : Up := ⟨(k + 3 * i : Nat), ((k + 3 * i + 1 : Nat) : Int), ((k + 3 * i + 2 : Nat) : Int)⟩
def mksU (k n : Nat) : List Up := (List.range n).map (mkU k)
theorem mksU_length (k n : Nat) : (mksU k n).length = n := by simp [mksU]
theorem mksU_get (k n i : Nat) (h : i < (mksU k n).length) : (mksU k n)[i] = mkU k i := by simp [mksU]
theorem upsV_set {os : List Up} {m : Nat} (h : m < os.length) (o : Up) : (((upsV os).set (m * 3) (.int .i64 o.r)).set (m * 3 + 1) (.int .i64 o.o)).set (m * 3 + 2) (.int .i64 o.n) = upsV (os.set m o) := by
  have hl := upsV_length os
  apply List.ext_getElem?
  intro j
  by_cases hj : j < os.length * 3
  · obtain ⟨q, d, hd, rfl⟩ : ∃ q d, d < 3 ∧ j = q * 3 + d := ⟨j / 3, j % 3, by omega, by omega⟩
    have hq : q < os.length := by omega
    rw [upsV_get (os := os.set m o) (by rw [List.length_set]; exact hq) hd]
    by_cases e : q = m
    · subst e
      have ho : (os.set q o)[q]'(by rw [List.length_set]; exact hq) = o := by simp
      rw [ho]
      have key : d = 0 ∨ d = 1 ∨ d = 2 := by omega
      rcases key with rfl | rfl | rfl
      · rw [List.getElem?_set_ne (by omega), List.getElem?_set_ne (by omega), Nat.add_zero, List.getElem?_set_self (by omega)]; rfl
      · rw [List.getElem?_set_ne (by omega), List.getElem?_set_self (by simp; omega)]; rfl
      · rw [List.getElem?_set_self (by simp; omega)]; rfl
    · have ho : (os.set m o)[q]'(by rw [List.length_set]; exact hq) = os[q] := by rw [List.getElem_set_ne (by omega)]
      rw [ho, List.getElem?_set_ne (by omega), List.getElem?_set_ne (by omega), List.getElem?_set_ne (by omega), upsV_get hq hd]
  · rw [List.getElem?_eq_none (by simp; omega), List.getElem?_eq_none (by rw [upsV_length, List.length_set]; omega)]
theorem set_takeU {os : List Up} {k n m : Nat} (h : os.take m = (mksU k n).take m) (hl : os.length = n) (hm : m < n) : (os.set m (mkU k m)).take (m + 1) = (mksU k n).take (m + 1) := by
  rw [List.take_succ_eq_append_getElem (by simpa using (by omega : m < os.length)), List.take_succ_eq_append_getElem (by rw [mksU_length]; exact hm), List.take_set_of_le (Nat.le_refl m), h, mksU_get]
  simp
set_option maxHeartbeats 4000000 in
theorem markUpdateS_own (B g c k : Nat) (os : List Up) (w : World) (ho : OwnUps w B (.slice (some ⟨g, 0, none⟩) os.length c) os) (hn : os.length ≤ 1048576) (h1 : 1 ≤ k) (h2 : k ≤ 4194304) :
    Calls Tryz.prog 96 #[.slice (some ⟨g, 0, none⟩) os.length c, .int .i64 k] w (fun e w' => e = .returned (.int .i64 ((k + 3 * os.length : Nat) : Int)) ∧ OwnUps w' B (.slice (some ⟨g, 0, none⟩) os.length c) (mksU k os.length) ∧ w.grownBy w' (some g)) := by
  have hx0 : Hid (∃ ys : List Up, ys.length = os.length ∧ OwnUps w B (.slice (some ⟨g, 0, none⟩) os.length c) ys ∧ ys.take 0 = (mksU k os.length).take 0) := ⟨os, rfl, ho, by simp⟩
  clear ho
  generalize os.length = n at *
  go_enter Tryz.func96, Tryz.ntmps96
  go_wp2_with fail
  go_loopw [1, 5] (fun q i wr => ∃ m J : Nat, m ≤ n ∧ i = .int .i64 m ∧ q = .int .i64 J ∧ J ≤ 4194304 + 3 * m ∧ 1 ≤ J ∧ Hid (J = k + 3 * m) ∧ w.grownBy wr (some g) ∧ Hid (∃ ys : List Up, ys.length = n ∧ OwnUps wr B (.slice (some ⟨g, 0, none⟩) n c) ys ∧ ys.take m = (mksU k n).take m)) (fun _ i _ => n - (intOf i).toNat)
  case atStart => exact ⟨0, k, Nat.zero_le _, rfl, rfl, by omega, h1, rfl, World.grownBy.refl _ _, hx0⟩
  case round =>
    obtain ⟨m, J, hm, rfl, rfl, hJ, hJ1, HJ, hw, HX⟩ := hrel
    clear hx0
    obtain ⟨ys, hyl, hy, ht⟩ := HX.out
    clear HX
    by_cases hlt : m < n
    · have hrow : wr.ownsRow B 164 3 (.slice (some ⟨g, 0, none⟩) n c) n (upsV ys) := by
        unfold OwnUps at hy
        rwa [hyl] at hy
      clear hy
      have hl := upsV_length ys
      have rd : ∀ d, d < 3 → ∃ v0, wr.cell? ⟨g, m * 3 + d, none⟩ = some v0 := fun d hd => ⟨_, (World.ownsRow.cellAt hrow (m * 3 + d) (by omega)).trans (List.getElem?_eq_getElem (by omega))⟩
      obtain ⟨u0, q0⟩ := rd 0 (by omega)
      obtain ⟨u1, q1⟩ := rd 1 (by omega)
      obtain ⟨u2, q2⟩ := rd 2 (by omega)
      rw [Nat.add_zero] at q0
      have f0 := World.ownsRow.frozenAt hrow (m * 3)
      have f1 := World.ownsRow.frozenAt hrow (m * 3 + 1)
      have f2 := World.ownsRow.frozenAt hrow (m * 3 + 2)
      have hs1 := (World.ownsRow.stored hrow (m * 3) (.int .i64 (J : Int))).1
      have hs2 := (World.ownsRow.stored hs1 (m * 3 + 1) (.int .i64 ((J : Int) + 1))).1
      have hs3 := (World.ownsRow.stored hs2 (m * 3 + 2) (.int .i64 ((J : Int) + 2))).1
      have hgr : w.grownBy (((wr.setCell ⟨g, m * 3, none⟩ (.int .i64 (J : Int))).setCell ⟨g, m * 3 + 1, none⟩ (.int .i64 ((J : Int) + 1))).setCell ⟨g, m * 3 + 2, none⟩ (.int .i64 ((J : Int) + 2))) (some g) := ((hw.trans (but_set wr g (m * 3) _)).trans (but_set _ g (m * 3 + 1) _)).trans (but_set _ g (m * 3 + 2) _)
      have HT := hid (set_takeU ht hyl hlt)
      have HO := hid (upsV_set (os := ys) (m := m) (by omega) (mkU k m))
      have HYL := hid hyl
      have eO : mkU k m = ⟨(J : Int), (J : Int) + 1, (J : Int) + 2⟩ := by unfold mkU; rw [HJ.out]; rfl
      rw [eO] at HO HT
      have hy4 : Hid (OwnUps (((wr.setCell ⟨g, m * 3, none⟩ (.int .i64 (J : Int))).setCell ⟨g, m * 3 + 1, none⟩ (.int .i64 ((J : Int) + 1))).setCell ⟨g, m * 3 + 2, none⟩ (.int .i64 ((J : Int) + 2))) B (.slice (some ⟨g, 0, none⟩) n c) (ys.set m ⟨(J : Int), (J : Int) + 1, (J : Int) + 2⟩)) := by
        show OwnUps _ _ _ _
        unfold OwnUps
        rw [List.length_set, HYL.out, ← HO.out]
        exact hs3
      have HYS : Hid ((ys.set m (⟨(J : Int), (J : Int) + 1, (J : Int) + 2⟩ : Up)).length = n) := by show _ = _; rw [List.length_set, HYL.out]
      have HJ2 : Hid (J + 3 = k + 3 * (m + 1)) := by show _ = _; rw [HJ.out]; omega
      clear hs1 hs2 hs3 hrow rd hl hyl eO ht hw
      go_wp2_with fail
      go_roundw
      case rel => exact ⟨m + 1, J + 3, by omega, by go_num, by go_num, by omega, by omega, HJ2, hgr, _, HYS.out, hy4.out, HT.out⟩
      case measure => simp [intOf]; omega
    · have hm' : m = n := by omega
      subst hm'
      have e : ys = mksU k m := by
        rw [List.take_of_length_le (by omega), List.take_of_length_le (by rw [mksU_length]; omega)] at ht
        exact ht
      subst e
      clear ht hyl
      go_wp2
      go_ret
      exact ⟨by rw [HJ.out]; rfl, hy, hw⟩
end Go.Proofs.YteaibflloeipaaaGreatDoor
namespace Go.Proofs.YteaibflloeipaaaGreatDoor
open Go.RowKit Wo Pu Rf

theorem eqIntS_ret (A A' : Option Addr) (c c' : Nat) (zs : List Int) (w : World) (B C : Nat) (hr : Row w B A (ints zs)) (hr' : Row w C A' (ints zs)) (hm : zs.length ≤ maxLen) :
    Calls Tryz.prog 53 #[.slice A zs.length c, .slice A' zs.length c'] w (Ret (.bool true) w) :=
  (eqIntS_same _ _ A A' c c' zs w hr hr' hm).mono fun _ _ ⟨he, d, hd⟩ => ⟨he, by subst hd; exact Wo.Below.drewN (Below.refl _ _) d⟩
/-- A slice's block. -/
def InB (A : Option Addr) (R : Nat) : Prop := ∀ ad, A = some ad → ad.block = R
theorem inB_some (g o : Nat) : InB (some ⟨g, o, none⟩) g := fun ad e => by injection e with e; subst e; rfl
theorem inB_of (A : Option Addr) (N : Nat) : ∃ R, InB A R ∧ (A = none → R = N) := by
  cases A with
  | none => exact ⟨N, (fun ad e => by cases e), fun _ => rfl⟩
  | some ad => exact ⟨ad.block, (fun ad' e => by injection e with e; rw [e]), fun e => by cases e⟩
/-- Behind the marks on ints. -/
def IntsMarked (K : Int) (v : Value) (n : Nat) (R B : Nat) (w : World) (e : Ending) (w' : World) : Prop := e = .returned (.int .i64 K) ∧ OwnI w' B v (marks 1 n) ∧ But R w w'
def UpsMarked (K : Int) (v : Value) (k n : Nat) (R B : Nat) (w : World) (e : Ending) (w' : World) : Prop := e = .returned (.int .i64 K) ∧ OwnUps w' B v (mksU k n) ∧ But R w w'
set_option maxHeartbeats 1000000 in
theorem markInts_to (K : Int) (R B : Nat) (A : Option Addr) (c : Nat) (zs : List Int) (w : World) (ho : OwnI w B (.slice A zs.length c) zs) (hR : InB A R) (hn : zs.length ≤ 1048576) (hK : K = 1 + (zs.length : Int)) :
    Calls Tryz.prog 56 #[.slice A zs.length c, .int .i64 1] w (IntsMarked K (.slice A zs.length c) zs.length R B w) := by
  have ho' := ho
  obtain ⟨h1, h2⟩ := ho'
  rcases h2 with ⟨hv, hz⟩ | ⟨g, cap, cur, hv, -⟩
  · injection hv with e1 e2 e3
    subst e1
    subst e3
    have hzs : zs = [] := List.eq_nil_of_length_eq_zero hz
    subst hzs
    subst hK
    clear ho h1 hz e2 hn hR
    have hI : OwnI w B (.slice none 0 0) (marks 1 0) := ⟨rfl, .inl ⟨rfl, rfl⟩⟩
    have hB := But.refl R w
    go_enter Tryz.func56, Tryz.ntmps56
    go_wp2_with fail
    go_loopw [1, 5] (fun q i wr => i = .int .i64 0 ∧ q = .int .i64 1 ∧ w = wr) (fun _ _ _ => 0)
    case atStart => exact ⟨rfl, rfl, rfl⟩
    case round =>
      obtain ⟨rfl, rfl, rfl⟩ := hrel
      go_wp2
      go_ret
      exact ⟨rfl, hI, hB⟩
  · injection hv with e1 e2 e3
    subst e1
    obtain rfl : g = R := hR _ rfl
    refine (markIntS_own B g zs.length c 1 (ints zs) w ho hn (by omega) (by omega)).mono ?_
    rintro e w' ⟨rfl, hw, ho2⟩
    refine ⟨by rw [hK], ?_, hw.1⟩
    unfold OwnI
    rw [marks_length]
    exact ho2
set_option maxHeartbeats 1000000 in
theorem markUps_to (K : Int) (k : Nat) (R B : Nat) (A : Option Addr) (c : Nat) (us : List Up) (w : World) (ho : OwnUps w B (.slice A us.length c) us) (hR : InB A R) (hn : us.length ≤ 1048576) (h1 : 1 ≤ k) (h2 : k ≤ 4194304) (hK : K = (k : Int) + 3 * (us.length : Int)) :
    Calls Tryz.prog 96 #[.slice A us.length c, .int .i64 (k : Int)] w (UpsMarked K (.slice A us.length c) k us.length R B w) := by
  have ho' := ho
  obtain ⟨-, h3⟩ := ho'
  rcases h3 with ⟨hv, hz⟩ | ⟨g, cap, cur, hv, -⟩
  · injection hv with e1 e2 e3
    subst e1
    subst e3
    have hzs : us = [] := List.eq_nil_of_length_eq_zero hz
    subst hzs
    obtain rfl : K = (k : Int) := by rw [hK]; simp
    clear ho hz e2 hn hR hK
    have hI : OwnUps w B (.slice none 0 0) (mksU k 0) := ⟨rfl, .inl ⟨rfl, rfl⟩⟩
    have hB := But.refl R w
    go_enter Tryz.func96, Tryz.ntmps96
    go_wp2_with fail
    go_loopw [1, 5] (fun q i wr => i = .int .i64 0 ∧ q = .int .i64 (k : Int) ∧ w = wr) (fun _ _ _ => 0)
    case atStart => exact ⟨rfl, rfl, rfl⟩
    case round =>
      obtain ⟨rfl, rfl, rfl⟩ := hrel
      go_wp2
      go_ret
      exact ⟨rfl, hI, hB⟩
  · injection hv with e1 e2 e3
    subst e1
    obtain rfl : g = R := hR _ rfl
    refine (markUpdateS_own B g c k us w ho hn h1 h2).mono ?_
    rintro e w' ⟨rfl, ho2, hw⟩
    refine ⟨by rw [hK]; rfl, ?_, hw⟩
    unfold OwnUps at ho2 ⊢
    rw [mksU_length] at ho2 ⊢
    exact ho2
theorem heldInts_to (K : Int) (A : Option Addr) (c n : Nat) (w : World) (B : Nat) (hr : Row w B A (ints (marks 1 n))) (hn : n ≤ 1048576) (hK : K = 1 + (n : Int)) :
    Calls Tryz.prog 58 #[.slice A n c, .int .i64 1] w (Same (.int .i64 K) w) := by
  subst hK
  exact heldIntS_yes B A c n 1 w hr hn (by omega) (by omega)
end Go.Proofs.YteaibflloeipaaaGreatDoor
namespace Go.Proofs.YteaibflloeipaaaGreatDoor
open Go.RowKit Wo Pu Rf

end Go.Proofs.YteaibflloeipaaaGreatDoor
namespace Go.Proofs.YteaibflloeipaaaGreatDoor
open Go.RowKit Wo Pu Rf Co

theorem RowC.later {B : Nat} {W : World} {A : Option Addr} {xs : List Value} (h : Row W B A xs) (x : Later B W) : Row x.w B A xs := h.below x.h (Nat.le_refl _)
theorem Parts.later_ {B : Nat} {W : World} {A : Option Addr} {ps : List Part} (h : Parts W B A ps) (x : Later B W) : Parts x.w B A ps := h.below x.h (Nat.le_refl _)
end Go.Proofs.YteaibflloeipaaaGreatDoor
namespace Go.Proofs.YteaibflloeipaaaGreatDoor
open Go.RowKit Wo Pu Rf Co
set_option linter.unusedVariables false
set_option linter.unusedSimpArgs false

/-! ### Lists that are turned place by place. -/
def mixL {α : Type} (xs zs : List α) (m : Nat) : List α := xs.take m ++ zs.drop m
section
variable {α : Type} {xs zs : List α} {m : Nat}
theorem mixL_zero (xs zs : List α) : mixL xs zs 0 = zs := by simp [mixL]
theorem mixL_len (h : xs.length = zs.length) (m : Nat) : (mixL xs zs m).length = zs.length := by
  unfold mixL
  rw [List.length_append, List.length_take, List.length_drop]
  omega
theorem mixL_done (h : xs.length = zs.length) : mixL xs zs zs.length = xs := by
  unfold mixL
  rw [← h, List.take_length, h, List.drop_length, List.append_nil]
theorem mixL_at (h : xs.length = zs.length) (hm : m < zs.length) (h2 : m < (mixL xs zs m).length) : (mixL xs zs m)[m] = zs[m] := by
  have e : (mixL xs zs m)[m]? = some zs[m] := by
    unfold mixL
    have e1 : (xs.take m).length = m := by rw [List.length_take]; omega
    rw [List.getElem?_append_right (by omega), e1, Nat.sub_self, List.getElem?_drop, Nat.add_zero, List.getElem?_eq_getElem hm]
  rw [List.getElem?_eq_getElem h2] at e
  injection e
theorem mixL_set (h : xs.length = zs.length) (hm : m < zs.length) : (mixL xs zs m).set m (xs[m]'(by omega)) = mixL xs zs (m + 1) := by
  unfold mixL
  have e1 : (xs.take m).length = m := by rw [List.length_take]; omega
  rw [List.set_append_right _ _ (by omega), e1, Nat.sub_self, List.drop_eq_getElem_cons hm, List.set_cons_zero, List.take_succ_eq_append_getElem (by omega), List.append_assoc]
  rfl
/-- Sums of the first places. -/
def preS (f : α → Nat) (l : List α) (k : Nat) : Nat := ((l.take k).map f).sum
theorem preS_zero (f : α → Nat) (l : List α) : preS f l 0 = 0 := by simp [preS]
theorem preS_succ {f : α → Nat} {l : List α} {k : Nat} (hk : k < l.length) : preS f l (k + 1) = preS f l k + f l[k] := by
  unfold preS
  rw [List.take_succ_eq_append_getElem hk, List.map_append, List.sum_append]
  simp
theorem preS_mono {f : α → Nat} {l : List α} {i : Nat} : ∀ k, i ≤ k → k ≤ l.length → preS f l i ≤ preS f l k := by
  intro k
  induction k with
  | zero => intro h _; rw [show i = 0 by omega]; exact Nat.le_refl _
  | succ k ih =>
    intro h1 h2
    rw [preS_succ (by omega)]
    rcases Nat.lt_or_ge k i with e | e
    · rw [show i = k + 1 by omega, preS_succ (by omega)]; exact Nat.le_refl _
    · have := ih e (by omega); omega
theorem preS_ge {f : α → Nat} {l : List α} {i : Nat} (hi : i < l.length) : f l[i] ≤ preS f l l.length := by
  have h1 := preS_mono (f := f) (l := l) (i := i + 1) l.length (by omega) (Nat.le_refl _)
  rw [preS_succ hi] at h1
  omega
theorem preS_le {f g : α → Nat} (h : ∀ a, f a ≤ g a) (l : List α) (k : Nat) : preS f l k ≤ preS g l k := by
  unfold preS
  generalize l.take k = l
  induction l with
  | nil => simp
  | cons a l ih => simp only [List.map_cons, List.sum_cons]; have := h a; omega
end
def uN (p : Part) : Nat := p.us.length
def allP (ps : List Part) : Nat := ps.length + preS uN ps ps.length
def tN (t : Tx) : Nat := allP t.ps + t.vs.length
def allT (ts : List Tx) : Nat := ts.length + preS tN ts ts.length
def allC (q : Crd) : Nat := allT q.ts + q.os.length
theorem allP_us {ps : List Part} {p : Part} (hp : p ∈ ps) : p.us.length ≤ allP ps := by
  obtain ⟨i, hi, rfl⟩ := List.mem_iff_getElem.1 hp
  have := preS_ge (f := uN) hi
  unfold allP
  unfold uN at this ⊢
  omega
theorem allT_tN {ts : List Tx} {t : Tx} (ht : t ∈ ts) : tN t ≤ allT ts := by
  obtain ⟨i, hi, rfl⟩ := List.mem_iff_getElem.1 ht
  have := preS_ge (f := tN) hi
  unfold allT
  omega
theorem allC_fit {q : Crd} {m : Nat} (h : allC q ≤ m) (hm : m ≤ 1048576) : FitC q := by
  have h1 : q.ts.length ≤ allT q.ts := by unfold allT; omega
  unfold allC at h
  refine ⟨by omega, by omega, fun t ht => ?_, fun t ht p hp => ?_⟩
  · have h2 := allT_tN ht
    have h3 : t.ps.length ≤ allP t.ps := by unfold allP; omega
    unfold tN at h2
    omega
  · have h2 := allT_tN ht
    have h3 := allP_us hp
    unfold tN at h2
    omega
/-- Lists no longer than slices can be. -/
def WideP (ps : List Part) : Prop := ps.length ≤ maxLen ∧ ∀ p ∈ ps, p.us.length ≤ maxLen
def WideT (ts : List Tx) : Prop := ts.length ≤ maxLen ∧ ∀ t ∈ ts, WideP t.ps ∧ t.vs.length ≤ maxLen
def WideC (q : Crd) : Prop := WideT q.ts ∧ q.os.length ≤ maxLen
/-- The sizes: all fit, or not. -/
def SizedC (tot : Nat) (left : Int) (w : World) (e : Ending) (w' : World) : Prop := ∃ r : Int, e = .returned (.int .i64 r) ∧ (r = -1 ∨ (0 ≤ r ∧ r = left - tot)) ∧ Below w.heap.size w w'
theorem szInts_no (A : Option Addr) (n c : Nat) (left : Int) (w : World) (hn : n ≤ maxLen) (h0 : 0 ≤ left) (h1 : left ≤ 1048576) (h : left < n) :
    Calls Tryz.prog 47 #[.slice A n c, .int .i64 left] w (Same (.int .i64 (-1)) w) := by
  unfold maxLen at hn
  go_enter Tryz.func47, Tryz.ntmps47
  go_wp2
  go_ret
  exact ⟨rfl, rfl⟩
theorem szInts_yes (A : Option Addr) (n c : Nat) (left : Int) (w : World) (hn : n ≤ maxLen) (h0 : 0 ≤ left) (h1 : left ≤ 1048576) (h : n ≤ left) :
    Calls Tryz.prog 47 #[.slice A n c, .int .i64 left] w (Same (.int .i64 (left - n)) w) := by
  unfold maxLen at hn
  go_enter Tryz.func47, Tryz.ntmps47
  go_wp2
  go_ret
  exact ⟨rfl, rfl⟩
theorem szInts_any (A : Option Addr) (n c : Nat) (left : Int) (w : World) (hn : n ≤ maxLen) (h0 : 0 ≤ left) (h1 : left ≤ 1048576) :
    Calls Tryz.prog 47 #[.slice A n c, .int .i64 left] w (SizedC n left w) := by
  by_cases h : left < n
  · exact (szInts_no A n c left w hn h0 h1 h).mono fun _ _ ⟨e, hw⟩ => ⟨-1, e, .inl rfl, by subst hw; exact Below.refl _ _⟩
  · exact (szInts_yes A n c left w hn h0 h1 (by omega)).mono fun _ _ ⟨e, hw⟩ => ⟨_, e, .inr ⟨by omega, rfl⟩, by subst hw; exact Below.refl _ _⟩
theorem szUps_any (A : Option Addr) (n c : Nat) (left : Int) (w : World) (hn : n ≤ maxLen) (h0 : 0 ≤ left) (h1 : left ≤ 1048576) :
    Calls Tryz.prog 141 #[.slice A n c, .int .i64 left] w (SizedC n left w) := by
  by_cases h : left < n
  · exact (szUpdateS_no A n c left w hn h0 h1 h).mono fun _ _ ⟨e, hw⟩ => ⟨-1, e, .inl rfl, by subst hw; exact Below.refl _ _⟩
  · exact (szUpdateS_yes A n c left w hn h0 h1 (by omega)).mono fun _ _ ⟨e, hw⟩ => ⟨_, e, .inr ⟨by omega, rfl⟩, by subst hw; exact Below.refl _ _⟩
set_option maxHeartbeats 2000000 in
theorem szPart_any (A : Option Addr) (c : Nat) (p : Part) (left : Int) (w : World) (hn : p.us.length ≤ maxLen) (h0 : 0 ≤ left) (h1 : left ≤ 1048576) :
    Calls Tryz.prog 140 #[.agg #[.int .i64 p.s, .slice A p.us.length c], .int .i64 left] w (SizedC p.us.length left w) := by
  have b0 := (Below.refl w.heap.size w).alloc (Nat.le_refl _) (.cells #[.int .i64 p.s, .slice A p.us.length c] 207)
  have CY := hid fun x => szUps_any A p.us.length c left x hn h0 h1
  go_enter Tryz.func140, Tryz.ntmps140
  go_wp2_with fail
  refine (CY.out _).mono ?_
  rintro e w1 ⟨r, rfl, hr, d⟩
  have b1 := b0.trans (d.mono b0.size)
  rcases hr with rfl | ⟨r0, hr⟩
  · go_wp2
    go_ret
    exact ⟨-1, rfl, .inl rfl, b1⟩
  · have HR := hid hr
    clear hr
    go_wp2
    go_ret
    exact ⟨r, rfl, .inr ⟨r0, HR.out⟩, b1⟩
set_option maxHeartbeats 2000000 in
theorem szPartS_any (A : Option Addr) (c : Nat) (ps : List Part) (left : Int) (w : World) (h : Parts w w.heap.size A ps) (hf : WideP ps) (h0 : 0 ≤ left) (h1 : left ≤ 1048576) :
    Calls Tryz.prog 115 #[.slice A ps.length c, .int .i64 left] w (SizedC (allP ps) left w) := by
  obtain ⟨hn, hf⟩ := hf
  unfold maxLen at hn
  by_cases h2 : left < ps.length
  · go_enter Tryz.func115, Tryz.ntmps115
    go_wp2
    go_ret
    exact ⟨-1, rfl, .inl rfl, Below.refl _ _⟩
  · go_enter Tryz.func115, Tryz.ntmps115
    go_wp2_with fail
    go_loopw [1, 5] (fun l i wr => ∃ k : Nat, k ≤ ps.length ∧ i = .int .i64 k ∧ l = .int .i64 (left - ps.length - preS uN ps k) ∧ 0 ≤ left - ps.length - preS uN ps k ∧ Below w.heap.size w wr) (fun _ i _ => ps.length - (intOf i).toNat)
    case atStart => exact ⟨0, Nat.zero_le _, rfl, by simp [preS_zero], by simp [preS_zero]; omega, Below.refl _ _⟩
    case round =>
      obtain ⟨k, hk, rfl, rfl, hp, hb⟩ := hrel
      by_cases hlt : k < ps.length
      · have hsucc := hid (preS_succ (f := uN) hlt)
        obtain ⟨p, ad, A', c', hre, rfl, ha, g0, g1, -, -⟩ := (h.on hb).part hlt
        have hfk := hf p (by rw [← hre]; exact List.getElem_mem hlt)
        have k0 : 0 ≤ (k : Int) := by omega
        have k1 : (k : Int) < (ps.length : Int) := by omega
        have HSU : Hid (preS uN ps (k + 1) = preS uN ps k + p.us.length) := by rw [← hre]; exact hsucc.out
        clear hre hsucc
        go_wp2_with fail
        refine (szPart_any A' c' p _ wr hfk hp (by omega)).mono ?_
        rintro e w1 ⟨q, rfl, hr, hb1⟩
        rcases hr with rfl | ⟨r0, hr⟩
        · go_wp2
          go_ret
          exact ⟨-1, rfl, .inl rfl, hb.trans (hb1.mono hb.size)⟩
        · have HR := hid hr
          clear hr
          go_wp2
          go_roundw
          case rel => exact ⟨k + 1, by omega, by go_num, by have := HR.out; have := HSU.out; congr 1; omega, by have := HR.out; have := HSU.out; omega, hb.trans (hb1.mono hb.size)⟩
          case measure => simp [intOf]; omega
      · have hk' : k = ps.length := by omega
        subst hk'
        go_wp2
        go_ret
        exact ⟨_, rfl, .inr ⟨hp, by unfold allP; omega⟩, hb⟩
set_option maxHeartbeats 2000000 in
theorem szTxn_any (A : Option Addr) (c : Nat) (A2 : Option Addr) (c2 : Nat) (t : Tx) (left : Int) (w : World) (h : Parts w w.heap.size A t.ps) (hf : WideP t.ps) (hv : t.vs.length ≤ maxLen) (h0 : 0 ≤ left) (h1 : left ≤ 1048576) :
    Calls Tryz.prog 89 #[.agg #[.slice A t.ps.length c, .slice A2 t.vs.length c2, .int .i64 t.d], .int .i64 left] w (SizedC (tN t) left w) := by
  have b0 := (Below.refl w.heap.size w).alloc (Nat.le_refl _) (.cells #[.slice A t.ps.length c, .slice A2 t.vs.length c2, .int .i64 t.d] 152)
  have x0 := Blk3s.new_ w 152 (.slice A t.ps.length c) (.slice A2 t.vs.length c2) (.int .i64 t.d)
  have CP := hid (szPartS_any A c t.ps left _ (h.on b0) hf h0 h1)
  go_enter Tryz.func89, Tryz.ntmps89
  go_wp2_with fail
  refine CP.out.mono ?_
  rintro e w1 ⟨r, rfl, hr, d⟩
  have b1 := b0.trans (d.mono b0.size)
  have x1 := x0.later d
  obtain ⟨y0, y1, y2, -⟩ := id x1.reads
  clear CP x0 d
  rcases hr with rfl | ⟨r0, hr⟩
  · go_wp2
    go_ret
    exact ⟨-1, rfl, .inl rfl, b1⟩
  · have HR := hid hr
    have r1 : r ≤ 1048576 := by omega
    have CI := hid (szInts_any A2 t.vs.length c2 r w1 hv r0 r1)
    clear hr
    go_wp2_with fail
    refine CI.out.mono ?_
    rintro e w2 ⟨s, rfl, hs, d⟩
    have b2 := b1.trans (d.mono b1.size)
    rcases hs with rfl | ⟨s0, hs⟩
    · go_wp2
      go_ret
      exact ⟨-1, rfl, .inl rfl, b2⟩
    · have HS := hid hs
      clear hs
      go_wp2
      go_ret
      exact ⟨s, rfl, .inr ⟨s0, by have := HR.out; have := HS.out; unfold tN; omega⟩, b2⟩
set_option maxHeartbeats 2000000 in
theorem szTxnS_any (A : Option Addr) (c : Nat) (ts : List Tx) (left : Int) (w : World) (h : Txs w w.heap.size A ts) (hf : WideT ts) (h0 : 0 ≤ left) (h1 : left ≤ 1048576) :
    Calls Tryz.prog 46 #[.slice A ts.length c, .int .i64 left] w (SizedC (allT ts) left w) := by
  obtain ⟨hn, hf⟩ := hf
  unfold maxLen at hn
  by_cases h2 : left < ts.length
  · go_enter Tryz.func46, Tryz.ntmps46
    go_wp2
    go_ret
    exact ⟨-1, rfl, .inl rfl, Below.refl _ _⟩
  · go_enter Tryz.func46, Tryz.ntmps46
    go_wp2_with fail
    go_loopw [1, 5] (fun l i wr => ∃ k : Nat, k ≤ ts.length ∧ i = .int .i64 k ∧ l = .int .i64 (left - ts.length - preS tN ts k) ∧ 0 ≤ left - ts.length - preS tN ts k ∧ Below w.heap.size w wr) (fun _ i _ => ts.length - (intOf i).toNat)
    case atStart => exact ⟨0, Nat.zero_le _, rfl, by simp [preS_zero], by simp [preS_zero]; omega, Below.refl _ _⟩
    case round =>
      obtain ⟨k, hk, rfl, rfl, hp, hb⟩ := hrel
      by_cases hlt : k < ts.length
      · have hsucc := hid (preS_succ (f := tN) hlt)
        obtain ⟨t, ad, A1, c1, B1, e1, hre, rfl, ha, g0, g1, g2, -, -, g5, g6⟩ := (h.on hb).tx hlt
        have hfk := hf t (by rw [← hre]; exact List.getElem_mem hlt)
        have k0 : 0 ≤ (k : Int) := by omega
        have k1 : (k : Int) < (ts.length : Int) := by omega
        have HSU : Hid (preS tN ts (k + 1) = preS tN ts k + tN t) := by rw [← hre]; exact hsucc.out
        clear hre hsucc
        go_wp2_with fail
        refine (szTxn_any A1 c1 B1 e1 t _ wr g5 hfk.1 hfk.2 hp (by omega)).mono ?_
        rintro e w1 ⟨q, rfl, hr, hb1⟩
        rcases hr with rfl | ⟨r0, hr⟩
        · go_wp2
          go_ret
          exact ⟨-1, rfl, .inl rfl, hb.trans (hb1.mono hb.size)⟩
        · have HR := hid hr
          clear hr
          go_wp2
          go_roundw
          case rel => exact ⟨k + 1, by omega, by go_num, by have := HR.out; have := HSU.out; congr 1; omega, by have := HR.out; have := HSU.out; omega, hb.trans (hb1.mono hb.size)⟩
          case measure => simp [intOf]; omega
      · have hk' : k = ts.length := by omega
        subst hk'
        go_wp2
        go_ret
        exact ⟨_, rfl, .inr ⟨hp, by unfold allT; omega⟩, hb⟩
set_option maxHeartbeats 2000000 in
theorem szCoordinator_any (v : Value) (q : Crd) (left : Int) (w : World) (h : Crdd w w.heap.size v q) (hf : WideC q) (h0 : 0 ≤ left) (h1 : left ≤ 1048576) :
    Calls Tryz.prog 18 #[v, .int .i64 left] w (SizedC (allC q) left w) := by
  obtain ⟨A, c, A2, c2, rfl, hT, hc, hO, hc2⟩ := h
  unfold crV
  have b0 := (Below.refl w.heap.size w).alloc (Nat.le_refl _) (.cells #[.slice A q.ts.length c, .slice A2 q.os.length c2] 51)
  have x0 := Blk2s.new_ w 51 (.slice A q.ts.length c) (.slice A2 q.os.length c2)
  have CP := hid (szTxnS_any A c q.ts left _ (hT.on b0) hf.1 h0 h1)
  go_enter Tryz.func18, Tryz.ntmps18
  go_wp2_with fail
  refine CP.out.mono ?_
  rintro e w1 ⟨r, rfl, hr, d⟩
  have b1 := b0.trans (d.mono b0.size)
  have x1 := x0.later d
  obtain ⟨y0, y1, -⟩ := id x1.reads
  clear CP x0 d
  rcases hr with rfl | ⟨r0, hr⟩
  · go_wp2
    go_ret
    exact ⟨-1, rfl, .inl rfl, b1⟩
  · have HR := hid hr
    have r1 : r ≤ 1048576 := by omega
    have CI := hid (szInts_any A2 q.os.length c2 r w1 hf.2 r0 r1)
    clear hr
    go_wp2_with fail
    refine CI.out.mono ?_
    rintro e w2 ⟨s, rfl, hs, d⟩
    have b2 := b1.trans (d.mono b1.size)
    rcases hs with rfl | ⟨s0, hs⟩
    · go_wp2
      go_ret
      exact ⟨-1, rfl, .inl rfl, b2⟩
    · have HS := hid hs
      clear hs
      go_wp2
      go_ret
      exact ⟨s, rfl, .inr ⟨s0, by have := HR.out; have := HS.out; unfold allC; omega⟩, b2⟩
end Go.Proofs.YteaibflloeipaaaGreatDoor
namespace Go.Proofs.YteaibflloeipaaaGreatDoor
set_option maxRecDepth 100000
set_option linter.unusedVariables false
set_option linter.unusedSimpArgs false
open Go.RowKit Go.ChangeShapes Go.WideShapes Go.Joins Wo Pu Rf Co

section
variable {H : Type} {enc : TypeId × Value → H} {w : World} {held : Bool}

theorem read_intsC {fuel : Nat} {cs : List Value} {x : DataW H × List MemPlace} (h : DataW.trod enc Tryz.prog w 0 (fun _ => true) held fuel 24 cs = some x) :
    ∃ (A : Option Addr) (c : Nat) (zs : List Int), cs = [.slice A zs.length c] ∧ Row w w.heap.size A (ints zs) ∧ zs.length ≤ maxLen ∧ zs.length ≤ c := by
  rcases open_ints Tryz.underlying24 Tryz.underlying3 (by kernel_rfl) h with ⟨hcs, _⟩ | ⟨a, len, cap, zs, hcs, _, hl, hm, hz, _, hcell, hwf⟩
  · exact ⟨none, 0, [], hcs, .inl rfl, Nat.zero_le _, Nat.zero_le _⟩
  · simp only [if_true] at hz
    have hlen : (zs.take len).length = len := by rw [List.length_take]; omega
    refine ⟨some a, cap, zs.take len, by rw [hlen]; exact hcs, ?_, by omega, by omega⟩
    have hr := row_of_cells (n := len) (f := fun i => .int .i64 (zs.getD i 0)) (fun i hi => hcell i (by omega))
    have e : ints (zs.take len) = (List.range len).map (fun i => Value.int .i64 (zs.getD i 0)) := by
      apply List.ext_getElem
      · rw [ints_length, hlen]; simp
      · intro i h1 h2
        simp at h2
        rw [ints_get _ _ (by rw [hlen]; exact h2)]
        simp [List.getD, List.getElem?_eq_getElem (show i < zs.length by omega)]
    rw [e]
    exact hr
theorem read_parts {fuel : Nat} {cs : List Value} {x : DataW H × List MemPlace} (hf : DataW.trod enc Tryz.prog w 0 (fun _ => true) held fuel 150 cs = some x) :
    ∃ (A : Option Addr) (c : Nat) (ps : List Part), cs = [.slice A ps.length c] ∧ Parts w w.heap.size A ps ∧ WideP ps ∧ ps.length ≤ c := by
  rcases Deep.open_slice Tryz.underlying150 hf with ⟨hcs, _⟩ | ⟨a, len, cap, m, n, D, Pl, hcs, _, hl, hm, hmm, _, hel⟩
  · exact ⟨none, 0, [], hcs, .inl rfl, ⟨Nat.zero_le _, fun o ho => by cases ho⟩, Nat.zero_le _⟩
  · simp only [if_true] at hmm
    have one : ∀ i, i < len → ∃ p : Part, PartAt w w.heap.size (a.add (i * 2)) p ∧ p.us.length ≤ maxLen := fun i hi => by
      obtain ⟨cs', hc, ht⟩ := hel i (by omega)
      have hC : Tryz.prog.cellsOf 207 = 2 := by kernel_rfl
      rw [hC] at hc
      obtain ⟨_, hlen, hat⟩ := World.cells?_some hc
      match cs', hlen with
      | [c0, c1], _ =>
        obtain ⟨y0, y1, n', _, _, h0, h1⟩ := trod_struct2 Tryz.underlying207 ht
        have k0 : Tryz.prog.cellsOf 3 = 1 := by kernel_rfl
        have k1 : Tryz.prog.cellsOf 180 = 1 := by kernel_rfl
        obtain ⟨s, e0, _, _⟩ := DataW.trod_int Tryz.underlying3 (show DataW.trod enc Tryz.prog w 0 (fun _ => true) held n' 3 [c0] = some y0 by simpa [k0] using h0)
        obtain ⟨A, c, us, e1, hr, hz, hz3⟩ := read_ups (show DataW.trod enc Tryz.prog w 0 (fun _ => true) held n' 180 [c1] = some y1 by simpa [k1] using h1)
        have q0 := hat 0 (by omega)
        have q1 := hat 1 (by omega)
        have f0 : c0 = .int .i64 s := by simpa using e0
        have f1 : c1 = .slice A us.length c := by simpa using e1
        subst f0 f1
        exact ⟨⟨s, us⟩, ⟨A, c, by rw [add_zero] at q0; exact q0, q1, hz3, hr⟩, hz⟩
    have all : ∃ ps : List Part, ps.length = len ∧ ∀ i (hi : i < ps.length), PartAt w w.heap.size (a.add (i * 2)) ps[i] ∧ ps[i].us.length ≤ maxLen := by
      refine ⟨(List.range len).map fun i => if h : i < len then (one i h).choose else ⟨0, []⟩, by simp, fun i hi => ?_⟩
      have hi' : i < len := by simpa using hi
      simp only [List.getElem_map, List.getElem_range, hi', dite_true]
      exact (one i hi').choose_spec
    obtain ⟨ps, ho, hps⟩ := all
    refine ⟨some a, cap, ps, by rw [ho]; exact hcs, ?_, ⟨by omega, fun o hmem => ?_⟩, by omega⟩
    · rcases Nat.eq_zero_or_pos ps.length with h0 | h0
      · exact .inl (List.eq_nil_of_length_eq_zero h0)
      · refine .inr ⟨a, rfl, ?_, fun i hi => (hps i hi).1⟩
        obtain ⟨_, _, q, _⟩ := (hps 0 h0).1
        have := World.block_lt_of_cell? _ _ q
        rwa [add_block] at this
    · obtain ⟨i, hi, rfl⟩ := List.mem_iff_getElem.1 hmem
      exact (hps i hi).2
theorem read_txs {fuel : Nat} {cs : List Value} {x : DataW H × List MemPlace} (hf : DataW.trod enc Tryz.prog w 0 (fun _ => true) held fuel 49 cs = some x) :
    ∃ (A : Option Addr) (c : Nat) (ts : List Tx), cs = [.slice A ts.length c] ∧ Txs w w.heap.size A ts ∧ WideT ts ∧ ts.length ≤ c := by
  rcases Deep.open_slice Tryz.underlying49 hf with ⟨hcs, _⟩ | ⟨a, len, cap, m, n, D, Pl, hcs, _, hl, hm, hmm, _, hel⟩
  · exact ⟨none, 0, [], hcs, .inl rfl, ⟨Nat.zero_le _, fun o ho => by cases ho⟩, Nat.zero_le _⟩
  · simp only [if_true] at hmm
    have one : ∀ i, i < len → ∃ t : Tx, TxAt w w.heap.size (a.add (i * 3)) t ∧ WideP t.ps ∧ t.vs.length ≤ maxLen := fun i hi => by
      obtain ⟨cs', hc, ht⟩ := hel i (by omega)
      have hC : Tryz.prog.cellsOf 152 = 3 := by kernel_rfl
      rw [hC] at hc
      obtain ⟨_, hlen, hat⟩ := World.cells?_some hc
      match cs', hlen with
      | [c0, c1, c2], _ =>
        obtain ⟨y0, y1, y2, n', _, _, h0, h1, h2⟩ := Deep.trod_struct3 Tryz.underlying152 ht
        have k0 : Tryz.prog.cellsOf 150 = 1 := by kernel_rfl
        have k1 : Tryz.prog.cellsOf 24 = 1 := by kernel_rfl
        have k2 : Tryz.prog.cellsOf 3 = 1 := by kernel_rfl
        obtain ⟨A, c, ps, e0, hr, hz, hz3⟩ := read_parts (show DataW.trod enc Tryz.prog w 0 (fun _ => true) held n' 150 [c0] = some y0 by simpa [k0] using h0)
        obtain ⟨A2, c2', vs, e1, hr2, hz2, hz4⟩ := read_intsC (show DataW.trod enc Tryz.prog w 0 (fun _ => true) held n' 24 [c1] = some y1 by simpa [k1] using h1)
        obtain ⟨d, e2, _, _⟩ := DataW.trod_int Tryz.underlying3 (show DataW.trod enc Tryz.prog w 0 (fun _ => true) held n' 3 [c2] = some y2 by simpa [k2] using h2)
        have q0 := hat 0 (by omega)
        have q1 := hat 1 (by omega)
        have q2 := hat 2 (by omega)
        have f0 : c0 = .slice A ps.length c := by simpa using e0
        have f1 : c1 = .slice A2 vs.length c2' := by simpa using e1
        have f2 : c2 = .int .i64 d := by simpa using e2
        subst f0 f1 f2
        exact ⟨⟨ps, vs, d⟩, ⟨A, c, A2, c2', by rw [add_zero] at q0; exact q0, q1, q2, hz3, hz4, hr, hr2⟩, hz, hz2⟩
    have all : ∃ ts : List Tx, ts.length = len ∧ ∀ i (hi : i < ts.length), TxAt w w.heap.size (a.add (i * 3)) ts[i] ∧ WideP ts[i].ps ∧ ts[i].vs.length ≤ maxLen := by
      refine ⟨(List.range len).map fun i => if h : i < len then (one i h).choose else ⟨[], [], 0⟩, by simp, fun i hi => ?_⟩
      have hi' : i < len := by simpa using hi
      simp only [List.getElem_map, List.getElem_range, hi', dite_true]
      exact (one i hi').choose_spec
    obtain ⟨ts, ho, hts⟩ := all
    refine ⟨some a, cap, ts, by rw [ho]; exact hcs, ?_, ⟨by omega, fun o hmem => ?_⟩, by omega⟩
    · rcases Nat.eq_zero_or_pos ts.length with h0 | h0
      · exact .inl (List.eq_nil_of_length_eq_zero h0)
      · refine .inr ⟨a, rfl, ?_, fun i hi => (hts i hi).1⟩
        obtain ⟨_, _, _, _, q, _⟩ := (hts 0 h0).1
        have := World.block_lt_of_cell? _ _ q
        rwa [add_block] at this
    · obtain ⟨i, hi, rfl⟩ := List.mem_iff_getElem.1 hmem
      exact (hts i hi).2
/-- A coordinator. -/
theorem open_coord {base : Nat} {v : Value} {d : DataW H} {p : List MemPlace} (hv : Value.okWide Tryz.prog w .any base 51 v) (h : DataW.Trod enc Tryz.prog w 0 (fun _ => true) held 51 v d p) :
    ∃ q : Crd, Crdd w w.heap.size v q ∧ WideC q := by
  obtain ⟨c0, c1, y0, y1, m, rfl, rfl, rfl, h0, h1⟩ := open_agg2 Tryz.underlying51 (by kernel_rfl) (by kernel_rfl) hv h
  obtain ⟨A, c, ts, e0, hr, hf, hc⟩ := read_txs h0
  obtain ⟨A2, c2, zs, e1, hr2, hf2, hc2⟩ := read_intsC h1
  obtain rfl : c0 = .slice A ts.length c := by injection e0
  obtain rfl : c1 = .slice A2 zs.length c2 := by injection e1
  exact ⟨⟨ts, zs⟩, ⟨A, c, A2, c2, rfl, hr, hc, hr2, hc2⟩, hf, hf2⟩
/-- Parts. -/
theorem open_parts {base : Nat} {v : Value} {d : DataW H} {p : List MemPlace} (_hv : Value.okWide Tryz.prog w .any base 150 v) (h : DataW.Trod enc Tryz.prog w 0 (fun _ => true) held 150 v d p) :
    ∃ (A : Option Addr) (c : Nat) (ps : List Part), v = .slice A ps.length c ∧ Parts w w.heap.size A ps ∧ WideP ps := by
  obtain ⟨A0, n0, c0, rfl⟩ := okWide_slice Tryz.underlying150 _hv
  obtain ⟨fuel, hf⟩ := h
  obtain ⟨A, c, ps, e, hr, hm, _⟩ := read_parts hf
  refine ⟨A, c, ps, ?_, hr, hm⟩
  simpa [Value.cells] using e
end
end Go.Proofs.YteaibflloeipaaaGreatDoor
namespace Go.Proofs.YteaibflloeipaaaGreatDoor
open Go.RowKit Wo Pu

def NotTo (zs : List Int) (x : Int) (k : Nat) : Prop := x ∉ zs.take k
theorem NotTo.zero (zs : List Int) (x : Int) : NotTo zs x 0 := by unfold NotTo; simp
theorem NotTo.next {zs : List Int} {x : Int} {k : Nat} (h : NotTo zs x k) (hk : k < zs.length) (hv : ¬ zs[k] = x) : NotTo zs x (k + 1) := by
  unfold NotTo at *
  rw [List.take_succ_eq_append_getElem hk]
  intro hm
  rcases List.mem_append.1 hm with hm | hm
  · exact h hm
  · exact hv (List.mem_singleton.1 hm).symm
theorem NotTo.all {zs : List Int} {x : Int} (h : NotTo zs x zs.length) : x ∉ zs := by unfold NotTo at h; rwa [List.take_length] at h
set_option maxHeartbeats 4000000 in
theorem l1Has_is (b : Bool) (A : Option Addr) (c : Nat) (zs : List Int) (x : Int) (w : World) (B : Nat) (hr : Row w B A (ints zs)) (hm : zs.length ≤ 1048600) (hb : b = true ↔ x ∈ zs) :
    Calls Tryz.prog 77 #[.slice A zs.length c, .int .i64 x] w (Same (.bool b) w) := by
  have HB := hid hb
  clear hb
  go_enter Tryz.func77, Tryz.ntmps77
  go_wp2_with fail
  go_loop [5] (fun i => ∃ k : Nat, k ≤ zs.length ∧ i = .int .i64 k ∧ Hid (NotTo zs x k)) (fun i => zs.length - (intOf i).toNat)
  case atStart => exact ⟨0, Nat.zero_le _, rfl, .zero zs x⟩
  case round =>
    obtain ⟨k, hk, rfl, H⟩ := hrel
    by_cases hlt : k < zs.length
    · obtain ⟨ad, rfl, hbl, hc⟩ := hr.int_ hlt
      have q0 : (0 : Int) ≤ (k : Int) := by omega
      have q1 : (k : Int) < (zs.length : Int) := by omega
      by_cases hv : zs[k] = x
      · have e0 : (zs[k] == x) = true := by rw [beq_iff_eq]; exact hv
        have F := hid (HB.out.2 (by rw [← hv]; exact List.getElem_mem hlt))
        clear H hv
        go_wp2
        go_ret
        rw [F.out]
        exact ⟨rfl, rfl⟩
      · have e0 : (zs[k] == x) = false := by rw [beq_eq_false_iff_ne]; exact hv
        have HN := hid (H.out.next hlt hv)
        clear H hv
        go_wp2
        go_round
        case rel => exact ⟨k + 1, by omega, by go_num, HN⟩
        case measure => simp [intOf]; omega
    · have hk' : k = zs.length := by omega
      subst hk'
      have F : Hid (b = false) := by
        show b = false
        rw [← Bool.not_eq_true]
        exact fun e => H.out.all (HB.out.1 e)
      clear H
      go_wp2
      go_ret
      rw [F.out]
      exact ⟨rfl, rfl⟩
end Go.Proofs.YteaibflloeipaaaGreatDoor
namespace Go.Proofs.YteaibflloeipaaaGreatDoor
open Go.RowKit Wo Pu
set_option linter.unusedVariables false
set_option linter.unusedSimpArgs false

/-- States of one to three shards. -/
def StV (zs : List Int) : Prop := (∀ z ∈ zs, 0 ≤ z ∧ z ≤ 3) ∧ 1 ≤ zs.length ∧ zs.length ≤ 3
/-- A shard has aborted, or has not voted. -/
def StN (zs : List Int) : Prop := 3 ∈ zs ∨ 0 ∈ zs
/-- States that agree. -/
def StA (zs : List Int) : Prop := StV zs ∧ ¬ (2 ∈ zs ∧ StN zs)
/-- The decision. -/
def StD (zs : List Int) (d : Int) : Prop := (StA zs ∧ 2 ∈ zs ∧ d = 2) ∨ (StA zs ∧ 2 ∉ zs ∧ StN zs ∧ d = 3) ∨ (StA zs ∧ 2 ∉ zs ∧ ¬ StN zs ∧ d = 0) ∨ (¬ StA zs ∧ d = 0)
theorem stD_ex (zs : List Int) : ∃ d, StD zs d := by
  by_cases ha : StA zs
  · by_cases h2 : 2 ∈ zs
    · exact ⟨2, .inl ⟨ha, h2, rfl⟩⟩
    · by_cases hn : StN zs
      · exact ⟨3, .inr (.inl ⟨ha, h2, hn, rfl⟩)⟩
      · exact ⟨0, .inr (.inr (.inl ⟨ha, h2, hn, rfl⟩))⟩
  · exact ⟨0, .inr (.inr (.inr ⟨ha, rfl⟩))⟩
theorem StD.cases_ {zs : List Int} {d : Int} (h : StD zs d) : d = 2 ∨ d = 3 ∨ d = 0 := by
  rcases h with ⟨_, _, h⟩ | ⟨_, _, _, h⟩ | ⟨_, _, _, h⟩ | ⟨_, h⟩ <;> omega
theorem StD.com {zs : List Int} {d : Int} (h : StD zs d) (ha : StA zs) (h2 : 2 ∈ zs) : d = 2 := by
  rcases h with ⟨_, _, h⟩ | ⟨_, h, _, _⟩ | ⟨_, h, _, _⟩ | ⟨h, _⟩
  · exact h
  · exact absurd h2 h
  · exact absurd h2 h
  · exact absurd ha h
theorem StD.abo {zs : List Int} {d : Int} (h : StD zs d) (ha : StA zs) (h2 : 2 ∉ zs) (hn : StN zs) : d = 3 := by
  rcases h with ⟨_, h, _⟩ | ⟨_, _, _, h⟩ | ⟨_, _, h, _⟩ | ⟨h, _⟩
  · exact absurd h h2
  · exact h
  · exact absurd hn h
  · exact absurd ha h
theorem StD.blk {zs : List Int} {d : Int} (h : StD zs d) (ha : StA zs) (h2 : 2 ∉ zs) (hn : ¬ StN zs) : d = 0 := by
  rcases h with ⟨_, h, _⟩ | ⟨_, _, h, _⟩ | ⟨_, _, _, h⟩ | ⟨_, h⟩
  · exact absurd h h2
  · exact absurd h hn
  · exact h
  · exact h
theorem StD.bad {zs : List Int} {d : Int} (h : StD zs d) (ha : ¬ StA zs) : d = 0 := by
  rcases h with ⟨h, _⟩ | ⟨h, _⟩ | ⟨h, _⟩ | ⟨_, h⟩
  · exact absurd h ha
  · exact absurd h ha
  · exact absurd h ha
  · exact h
theorem StD.agrees {zs : List Int} {d : Int} (h : StD zs d) (hd : d ≠ 0) : StA zs := by
  rcases h with ⟨h, _⟩ | ⟨h, _⟩ | ⟨h, _⟩ | ⟨_, h⟩
  · exact h
  · exact h
  · exact h
  · exact absurd h hd
theorem StD.is2 {zs : List Int} {d : Int} (h : StD zs d) (hd : d = 2) : 2 ∈ zs := by
  rcases h with ⟨_, h, _⟩ | ⟨_, _, _, h⟩ | ⟨_, _, _, h⟩ | ⟨_, h⟩
  · exact h
  · omega
  · omega
  · omega
theorem StD.is3 {zs : List Int} {d : Int} (h : StD zs d) (hd : d = 3) : StN zs := by
  rcases h with ⟨_, _, h⟩ | ⟨_, _, h, _⟩ | ⟨_, _, _, h⟩ | ⟨_, h⟩
  · omega
  · exact h
  · omega
  · omega
/-- Further states that agree with a decision do not change it. -/
theorem StD.more {zs : List Int} {d x d' : Int} (h : StD zs d) (hd : d ≠ 0) (k : StD (zs ++ [x]) d') (ha : StA (zs ++ [x])) : d' = d := by
  rcases h.cases_ with e | e | e
  · rw [e]
    exact k.com ha (List.mem_append_left _ (h.is2 e))
  · rw [e]
    have hn : StN (zs ++ [x]) := by
      rcases h.is3 e with m | m
      · exact .inl (List.mem_append_left _ m)
      · exact .inr (List.mem_append_left _ m)
    exact k.abo ha (fun h2 => ha.2 ⟨h2, hn⟩) hn
  · exact absurd e hd
theorem stN_rev {zs : List Int} : StN zs.reverse ↔ StN zs := by simp [StN]
theorem stA_rev {zs : List Int} : StA zs.reverse ↔ StA zs := by simp [StA, StV, StN]
/-- Valid states up to a place. -/
def VTo (zs : List Int) (k : Nat) : Prop := ∀ z ∈ zs.take k, 0 ≤ z ∧ z ≤ 3
theorem VTo.zero (zs : List Int) : VTo zs 0 := by unfold VTo; simp
theorem VTo.next {zs : List Int} {k : Nat} (h : VTo zs k) (hk : k < zs.length) (hv : 0 ≤ zs[k] ∧ zs[k] ≤ 3) : VTo zs (k + 1) := by
  unfold VTo at *
  rw [List.take_succ_eq_append_getElem hk]
  intro z hm
  rcases List.mem_append.1 hm with hm | hm
  · exact h z hm
  · rw [List.mem_singleton.1 hm]; exact hv
theorem VTo.all {zs : List Int} (h : VTo zs zs.length) : ∀ z ∈ zs, 0 ≤ z ∧ z ≤ 3 := by unfold VTo at h; rwa [List.take_length] at h
theorem stD_of (d : Int) (zs : List Int) (a c n : Bool) (ha : a = true ↔ StA zs) (hc : c = true ↔ 2 ∈ zs) (hn : n = true ↔ StN zs) (h : StD zs d) : d = if a then (if c then 2 else if n then 3 else 0) else 0 := by
  cases a with
  | false => exact h.bad (fun e => by simpa using ha.2 e)
  | true =>
    cases c with
    | true => exact h.com (ha.1 rfl) (hc.1 rfl)
    | false =>
      have h2 : 2 ∉ zs := fun e => by simpa using hc.2 e
      cases n with
      | true => exact h.abo (ha.1 rfl) h2 (hn.1 rfl)
      | false => exact h.blk (ha.1 rfl) h2 (fun e => by simpa using hn.2 e)
theorem stA_of (b : Bool) (zs : List Int) (v c n : Bool) (hb : b = true ↔ StA zs) (hv : v = true ↔ StV zs) (hc : c = true ↔ 2 ∈ zs) (hn : n = true ↔ StN zs) : b = (v && !(c && n)) := by
  rw [Bool.eq_iff_iff, hb]
  unfold StA
  rw [← hv, ← hc, ← hn]
  cases v <;> cases c <;> cases n <;> decide
theorem stN_of (n : Bool) (zs : List Int) (a b : Bool) (hn : n = true ↔ StN zs) (ha : a = true ↔ 3 ∈ zs) (hb : b = true ↔ 0 ∈ zs) : n = (a || b) := by
  rw [Bool.eq_iff_iff, hn]
  unfold StN
  rw [← ha, ← hb]
  cases a <;> cases b <;> decide
end Go.Proofs.YteaibflloeipaaaGreatDoor
namespace Go.Proofs.YteaibflloeipaaaGreatDoor
namespace Wl
open Rf Lk Sh Co
set_option linter.unusedVariables false
set_option linter.unusedSimpArgs false

/-- A message: its kind, its transaction, its shard, its word. -/
structure Msg where
  k : Int
  t : Int
  s : Int
  y : Bool
/-- A run. -/
structure Wd where
  c : Crd
  ss : List (List Rec)
  ms : List Msg
/-- An event. -/
structure Ev where
  k : Int
  a : Int
  b : Int
  c : Int
/-- A message of a part of a transaction. -/
def MOk (c : Crd) (m : Msg) : Prop := ∃ n, ∃ h : n < c.ts.length, m.t = (n : Int) ∧ ∃ p ∈ c.ts[n].ps, p.s = m.s
/-- What holds of a run all the time. -/
structure Ok (W : Wd) : Prop where
  cv : CV W.c
  len : W.ss.length = 3
  vld : ∀ rs ∈ W.ss, Vld rs
  few : W.ms.length ≤ 14
  msg : ∀ m ∈ W.ms, MOk W.c m
/-- The transactions of c go on in c', with the same parts. -/
def Ext (c c' : Crd) : Prop := ∀ n (h : n < c.ts.length), ∃ h' : n < c'.ts.length, c'.ts[n].ps = c.ts[n].ps
theorem Ext.refl (c : Crd) : Ext c c := fun n h => ⟨h, rfl⟩
theorem Ext.msg {c c' : Crd} (h : Ext c c') {m : Msg} (hm : MOk c m) : MOk c' m := by
  obtain ⟨n, hn, ht, p, hp, hs⟩ := hm
  obtain ⟨h', e⟩ := h n hn
  exact ⟨n, h', ht, p, by rw [e]; exact hp, hs⟩
theorem ext_set {c : Crd} {i : Nat} (hi : i < c.ts.length) {t : Tx} {os : List Int} (ht : t.ps = c.ts[i].ps) : Ext c ⟨c.ts.set i t, os⟩ := fun n h => by
  refine ⟨by simpa using h, ?_⟩
  simp only [List.getElem_set]
  by_cases e : i = n
  · subst e; rw [if_pos rfl]; exact ht
  · rw [if_neg e]
theorem ext_new (c : Crd) (ps : List Part) : Ext c (newC c ps) := fun n h => by
  refine ⟨by show n < (c.ts ++ [fresh ps]).length; simp; omega, ?_⟩
  show ((c.ts ++ [fresh ps])[n]'_).ps = _
  rw [List.getElem_append_left h]
theorem Counted.ext {c x : Crd} {t s : Int} {y : Bool} (h : Counted c t s y x true) : Ext c x := by
  generalize hb : true = b at h
  cases h with
  | bad _ => cases hb
  | no _ _ => cases hb
  | yes n k a hv =>
    cases y with
    | true => exact ext_set a.hi rfl
    | false => exact ext_set a.hi rfl
theorem Late.ext {c x : Crd} {t : Int} (h : Late c t x true) : Ext c x := by
  generalize hb : true = b at h
  cases h with
  | bad _ => cases hb
  | no _ _ => cases hb
  | yes n hn _ _ _ => exact ext_set hn rfl
theorem Begun.ext {c x : Crd} {ps : List Part} (h : Begun c ps x true) : Ext c x := by
  generalize hb : true = b at h
  cases h with
  | bad _ => cases hb
  | full _ _ _ => cases hb
  | yes _ _ _ => exact ext_new c ps
/-! ### Messages are posted. -/
def post (W : Wd) (m : Msg) : Wd := if W.ms.length < 14 then ⟨W.c, W.ss, W.ms ++ [m]⟩ else W
theorem post_c (W : Wd) (m : Msg) : (post W m).c = W.c := by unfold post; split <;> rfl
theorem post_ss (W : Wd) (m : Msg) : (post W m).ss = W.ss := by unfold post; split <;> rfl
theorem Ok.post {W : Wd} (h : Ok W) {m : Msg} (hm : MOk W.c m) : Ok (post W m) := by
  unfold Wl.post
  by_cases e : W.ms.length < 14
  · rw [if_pos e]
    refine ⟨h.cv, h.len, h.vld, by simp; omega, fun x hx => ?_⟩
    rcases List.mem_append.1 hx with hx | hx
    · exact h.msg x hx
    · rw [List.mem_singleton.1 hx]; exact hm
  · rw [if_neg e]; exact h
/-- The decision about transaction n, for the parts ps. -/
def tellP (W : Wd) (n d : Int) (ps : List Part) : Wd := ps.foldl (fun W p => post W ⟨3, n, p.s, d == 2⟩) W
theorem tellP_c (n d : Int) (ps : List Part) : ∀ W, (tellP W n d ps).c = W.c ∧ (tellP W n d ps).ss = W.ss := by
  induction ps with
  | nil => intro W; exact ⟨rfl, rfl⟩
  | cons p ps ih =>
    intro W
    obtain ⟨h1, h2⟩ := ih (post W ⟨3, n, p.s, d == 2⟩)
    exact ⟨h1.trans (post_c _ _), h2.trans (post_ss _ _)⟩
theorem Ok.tellP {n d : Int} {ps : List Part} : ∀ {W : Wd}, Ok W → (∀ p ∈ ps, ∀ y, MOk W.c ⟨3, n, p.s, y⟩) → Ok (tellP W n d ps) := by
  induction ps with
  | nil => intro W h _; exact h
  | cons p ps ih =>
    intro W h hp
    refine ih (h.post (hp p List.mem_cons_self _)) fun x hx y => ?_
    rw [post_c]
    exact hp x (List.mem_cons_of_mem _ hx) y
def tell (W : Wd) (n : Nat) (t : Tx) : Wd := if t.d = 0 then W else tellP W n t.d t.ps
theorem Ok.tell {W : Wd} (h : Ok W) {n : Nat} (hn : n < W.c.ts.length) : Ok (tell W n W.c.ts[n]) := by
  unfold Wl.tell
  split
  · exact h
  · exact h.tellP fun p hp y => ⟨n, hn, rfl, p, hp, rfl⟩
/-- Shards are asked for their votes. -/
def askZ (W : Wd) (n : Int) (zs : List Int) : Wd := zs.foldl (fun W z => post W ⟨1, n, z, false⟩) W
theorem askZ_c (n : Int) (zs : List Int) : ∀ W, (askZ W n zs).c = W.c ∧ (askZ W n zs).ss = W.ss := by
  induction zs with
  | nil => intro W; exact ⟨rfl, rfl⟩
  | cons p ps ih =>
    intro W
    obtain ⟨h1, h2⟩ := ih (post W ⟨1, n, p, false⟩)
    exact ⟨h1.trans (post_c _ _), h2.trans (post_ss _ _)⟩
theorem Ok.askZ {n : Int} {zs : List Int} : ∀ {W : Wd}, Ok W → (∀ z ∈ zs, MOk W.c ⟨1, n, z, false⟩) → Ok (askZ W n zs) := by
  induction zs with
  | nil => intro W h _; exact h
  | cons p ps ih =>
    intro W h hp
    refine ih (h.post (hp p List.mem_cons_self)) fun x hx => ?_
    rw [post_c]
    exact hp x (List.mem_cons_of_mem _ hx)
theorem waits_msg {c : Crd} {t : Int} {zs : List Int} (h : Waits c t zs) : ∀ z ∈ zs, MOk c ⟨1, t, z, false⟩ := fun z hz => by
  rcases h with ⟨n, hn, hv, ht, -, rfl⟩ | ⟨-, rfl⟩
  · obtain ⟨k, k1, k2, k3, k4⟩ := (mem_waitsT (hv.txs _ (List.getElem_mem hn)).len).1 hz
    exact ⟨n, hn, ht, c.ts[n].ps[k], List.getElem_mem k1, k3⟩
  · cases hz
/-- A shard is replaced. -/
def putS (W : Wd) (k : Nat) (rs : List Rec) : Wd := ⟨W.c, W.ss.set k rs, W.ms⟩
theorem Ok.putS {W : Wd} (h : Ok W) {k : Nat} {rs : List Rec} (hr : Vld rs) : Ok (putS W k rs) := by
  refine ⟨h.cv, by show (W.ss.set k rs).length = 3; rw [List.length_set]; exact h.len, fun x hx => ?_, h.few, h.msg⟩
  rcases List.mem_or_eq_of_mem_set hx with h1 | h1
  · exact h.vld x h1
  · rw [h1]; exact hr
/-- The coordinator is replaced. -/
def putC (W : Wd) (c : Crd) : Wd := ⟨c, W.ss, W.ms⟩
theorem Ok.putC {W : Wd} (h : Ok W) {c : Crd} (hc : CV c) (he : Ext W.c c) : Ok (putC W c) := ⟨hc, h.len, h.vld, h.few, fun m hm => he.msg (h.msg m hm)⟩
theorem nil_vld : Vld [] := ⟨⟨_, .nil⟩, Nat.zero_le _⟩
theorem Voted.vld {rs xs : List Rec} {t : Int} {us : List Up} {b : Bool} (h : Voted rs t us xs b) : Vld xs := by
  cases h with
  | bad _ => exact nil_vld
  | known h _ _ _ => exact h
  | yes _ _ _ _ h => exact h
  | no h1 h2 _ h4 _ h6 =>
    obtain ⟨s, hs⟩ := h1.1
    exact (Vld.abort_iff hs h2).2 ⟨h6, .inl h4⟩
  | full h _ _ _ _ => exact h
theorem Decided.vld {rs xs : List Rec} {t k : Int} {b : Bool} (h : Decided rs t k xs b) : Vld xs := by
  cases h with
  | bad _ => exact nil_vld
  | known h _ _ => exact h
  | yes _ _ _ h => exact h
  | no h _ _ _ => exact h
/-- Shards come from valid parts. -/
theorem Ok.shard {W : Wd} (h : Ok W) {m : Msg} (hm : MOk W.c m) : ∃ k : Nat, m.s = (k : Int) ∧ k < W.ss.length := by
  obtain ⟨n, hn, -, p, hp, hs⟩ := hm
  have := (h.cv.txs _ (List.getElem_mem hn)).parts.2.1 p hp
  exact ⟨m.s.toNat, by omega, by rw [h.len]; omega⟩
/-- The updates of a part, if there is one. -/
def partU (c : Crd) (t s : Int) : List Up := match c.ts[t.toNat]? with
  | some x => usAt x.ps s
  | none => []
/-- A vote is counted. -/
def DVote (W : Wd) (t s : Int) (y : Bool) (W' : Wd) : Prop := ∃ x b, Counted W.c t s y x b ∧ ((b = false ∧ W' = W) ∨ (b = true ∧ ∃ n, ∃ h : n < x.ts.length, t = (n : Int) ∧ W' = tell (putC W x) n x.ts[n]))
theorem dvote_ex {W : Wd} (h : Ok W) (t s : Int) (y : Bool) : ∃ W', DVote W t s y W' ∧ Ok W' := by
  obtain ⟨x, b, hx⟩ := counted_ex W.c t s y
  cases b with
  | false => exact ⟨W, ⟨x, _, hx, .inl ⟨rfl, rfl⟩⟩, h⟩
  | true =>
    have he := Counted.ext hx
    have hv := hx.valid
    have hn : ∃ n, ∃ h : n < W.c.ts.length, t = (n : Int) := by
      generalize hb : true = b at hx
      cases hx with
      | bad _ => cases hb
      | no _ _ => cases hb
      | yes n k a _ => exact ⟨n, a.hi, a.ht⟩
    obtain ⟨n, hn, ht⟩ := hn
    obtain ⟨hn', -⟩ := he n hn
    exact ⟨_, ⟨x, _, hx, .inr ⟨rfl, n, hn', ht, rfl⟩⟩, (h.putC hv he).tell (W := putC W x) hn'⟩
/-- A message is delivered. -/
def DHear (W : Wd) (m : Msg) (W' : Wd) : Prop :=
  (m.k = 1 ∧ ∃ k : Nat, ∃ h : k < W.ss.length, m.s = (k : Int) ∧ ∃ xs b, Voted W.ss[k] m.t (partU W.c m.t m.s) xs b ∧ W' = post (putS W k xs) ⟨2, m.t, m.s, b⟩) ∨
  (m.k = 2 ∧ DVote W m.t m.s m.y W') ∨
  (m.k ≠ 1 ∧ m.k ≠ 2 ∧ ∃ k : Nat, ∃ h : k < W.ss.length, m.s = (k : Int) ∧ ∃ xs b, Decided W.ss[k] m.t (if m.y then 2 else 3) xs b ∧ W' = putS W k xs)
theorem dhear_ex {W : Wd} (h : Ok W) {m : Msg} (hm : MOk W.c m) : ∃ W', DHear W m W' ∧ Ok W' := by
  obtain ⟨k, hk, hl⟩ := h.shard hm
  by_cases h1 : m.k = 1
  · obtain ⟨xs, b, hx⟩ := voted_ex W.ss[k] m.t (partU W.c m.t m.s)
    exact ⟨_, .inl ⟨h1, k, hl, hk, xs, b, hx, rfl⟩, (h.putS (Voted.vld hx)).post (W := putS W k xs) hm⟩
  · by_cases h2 : m.k = 2
    · obtain ⟨W', hd, ho⟩ := dvote_ex h m.t m.s m.y
      exact ⟨W', .inr (.inl ⟨h2, hd⟩), ho⟩
    · obtain ⟨xs, b, hx⟩ := decided_ex W.ss[k] m.t (if m.y then 2 else 3)
      exact ⟨_, .inr (.inr ⟨h1, h2, k, hl, hk, xs, b, hx, rfl⟩), h.putS (Decided.vld hx)⟩
/-- Events of messages. -/
def DNet (W : Wd) (e : Ev) (W' : Wd) : Prop :=
  (¬ (0 ≤ e.a ∧ e.a ≤ (W.ms.length : Int) - 1) ∧ W' = W) ∨
  ∃ i : Nat, ∃ h : i < W.ms.length, e.a = (i : Int) ∧
    ((e.k = 4 ∧ W' = post W W.ms[i]) ∨
     (e.k ≠ 4 ∧ e.k = 2 ∧ DHear ⟨W.c, W.ss, W.ms.take i ++ W.ms.drop (i + 1)⟩ W.ms[i] W') ∨
     (e.k ≠ 4 ∧ e.k ≠ 2 ∧ W' = ⟨W.c, W.ss, W.ms.take i ++ W.ms.drop (i + 1)⟩))
theorem Ok.lose {W : Wd} (h : Ok W) (i : Nat) : Ok ⟨W.c, W.ss, W.ms.take i ++ W.ms.drop (i + 1)⟩ := by
  refine ⟨h.cv, h.len, h.vld, ?_, fun m hm => ?_⟩
  · show (W.ms.take i ++ W.ms.drop (i + 1)).length ≤ 14
    have := h.few
    rw [List.length_append, List.length_take, List.length_drop]
    omega
  · rcases List.mem_append.1 hm with hm | hm
    · exact h.msg m (List.mem_of_mem_take hm)
    · exact h.msg m (List.mem_of_mem_drop hm)
theorem dnet_ex {W : Wd} (h : Ok W) (e : Ev) : ∃ W', DNet W e W' ∧ Ok W' := by
  by_cases ha : 0 ≤ e.a ∧ e.a ≤ (W.ms.length : Int) - 1
  · obtain ⟨i, hi⟩ := Int.eq_ofNat_of_zero_le ha.1
    have hl : i < W.ms.length := by omega
    have hm := h.msg _ (List.getElem_mem hl)
    by_cases h4 : e.k = 4
    · exact ⟨_, .inr ⟨i, hl, hi, .inl ⟨h4, rfl⟩⟩, h.post hm⟩
    · by_cases h2 : e.k = 2
      · obtain ⟨W', hd, ho⟩ := dhear_ex (h.lose i) (m := W.ms[i]) hm
        exact ⟨W', .inr ⟨i, hl, hi, .inr (.inl ⟨h4, h2, hd⟩)⟩, ho⟩
      · exact ⟨_, .inr ⟨i, hl, hi, .inr (.inr ⟨h4, h2, rfl⟩)⟩, h.lose i⟩
  · exact ⟨W, .inl ⟨ha, rfl⟩, h⟩
/-- Several shards are replaced. -/
def putAll (W : Wd) : List Part → List (List Rec) → Wd
  | p :: ps, x :: xs => putAll (putS W p.s.toNat x) ps xs
  | _, _ => W
theorem putAll_c : ∀ (ps : List Part) (xs : List (List Rec)) (W : Wd), (putAll W ps xs).c = W.c
  | [], _, _ => rfl
  | _ :: _, [], _ => rfl
  | p :: ps, x :: xs, W => putAll_c ps xs (putS W p.s.toNat x)
theorem Ok.putAll : ∀ (ps : List Part) (xs : List (List Rec)) {W : Wd}, Ok W → (∀ x ∈ xs, Vld x) → Ok (putAll W ps xs)
  | [], _, _, h, _ => h
  | _ :: _, [], _, h, _ => h
  | p :: ps, x :: xs, W, h, hx => Ok.putAll ps xs (h.putS (hx x List.mem_cons_self)) fun y hy => hx y (List.mem_cons_of_mem _ hy)
/-- The records of a part's shard. -/
def recsOf (W : Wd) (p : Part) : List Rec := W.ss.getD p.s.toNat []
theorem Ok.recs {W : Wd} (h : Ok W) (p : Part) : Vld (recsOf W p) := by
  unfold recsOf
  rw [List.getD_eq_getElem?_getD]
  by_cases e : p.s.toNat < W.ss.length
  · rw [List.getElem?_eq_getElem e]
    exact h.vld _ (List.getElem_mem e)
  · rw [List.getElem?_eq_none (by omega)]
    exact nil_vld
/-- What shards that decide among themselves come to. -/
def NextS (d t : Int) (rs xs : List Rec) : Prop := (d = 0 ∧ xs = rs) ∨ (d ≠ 0 ∧ ∃ b, Decided rs t (if d = 2 then 2 else 3) xs b)
theorem nextS_ex (d t : Int) {rs : List Rec} (h : Vld rs) : ∃ xs, NextS d t rs xs ∧ Vld xs := by
  by_cases e : d = 0
  · exact ⟨rs, .inl ⟨e, rfl⟩, h⟩
  · obtain ⟨xs, b, hx⟩ := decided_ex rs t (if d = 2 then 2 else 3)
    exact ⟨xs, .inr ⟨e, b, hx⟩, Decided.vld hx⟩
def NextAll (d t : Int) : List (List Rec) → List (List Rec) → Prop
  | [], xs => xs = []
  | r :: rs, xs => ∃ y ys, xs = y :: ys ∧ NextS d t r y ∧ NextAll d t rs ys
theorem nextAll_ex (d t : Int) : ∀ (rs : List (List Rec)), (∀ r ∈ rs, Vld r) → ∃ xs, NextAll d t rs xs ∧ ∀ x ∈ xs, Vld x
  | [], _ => ⟨[], rfl, fun x hx => by cases hx⟩
  | r :: rs, h => by
    obtain ⟨y, hy, hv⟩ := nextS_ex d t (h r List.mem_cons_self)
    obtain ⟨ys, hys, hvs⟩ := nextAll_ex d t rs fun x hx => h x (List.mem_cons_of_mem _ hx)
    refine ⟨y :: ys, ⟨y, ys, rfl, hy, hys⟩, fun x hx => ?_⟩
    rcases List.mem_cons.1 hx with h1 | h1
    · rw [h1]; exact hv
    · exact hvs x h1
/-- TermShards, of valid shards. -/
def DShards (t : Int) (rs xs : List (List Rec)) (d : Int) : Prop := StD (rs.map fun r => Sh.ask r t) d ∧ NextAll d t rs xs
theorem dshards_ex (t : Int) {rs : List (List Rec)} (h : ∀ r ∈ rs, Vld r) : ∃ xs d, DShards t rs xs d ∧ ∀ x ∈ xs, Vld x := by
  obtain ⟨d, hd⟩ := stD_ex (rs.map fun r => Sh.ask r t)
  obtain ⟨xs, hx, hv⟩ := nextAll_ex d t rs h
  exact ⟨xs, d, ⟨hd, hx⟩, hv⟩
def DTerm (W : Wd) (n : Nat) (ps : List Part) (W' : Wd) : Prop := ∃ xs d, DShards (n : Int) (ps.map (recsOf W)) xs d ∧ W' = putAll W ps xs
theorem dterm_ex {W : Wd} (h : Ok W) (n : Nat) (ps : List Part) : ∃ W', DTerm W n ps W' ∧ Ok W' := by
  obtain ⟨xs, d, hd, hv⟩ := dshards_ex (n : Int) (rs := ps.map (recsOf W)) fun r hr => by
    obtain ⟨p, -, rfl⟩ := List.mem_map.1 hr
    exact h.recs p
  exact ⟨_, ⟨xs, d, hd, rfl⟩, h.putAll ps xs hv⟩
/-- Events of transactions. -/
def DTxn (W : Wd) (e : Ev) (W' : Wd) : Prop :=
  (¬ (0 ≤ e.a ∧ e.a ≤ (W.c.ts.length : Int) - 1) ∧ W' = W) ∨
  ∃ n : Nat, ∃ h : n < W.c.ts.length, e.a = (n : Int) ∧
    ((e.k = 5 ∧ ∃ x b, Late W.c (n : Int) x b ∧ ((b = false ∧ W' = W) ∨ (b = true ∧ ∃ h' : n < x.ts.length, W' = tell (putC W x) n x.ts[n]))) ∨
     (e.k = 6 ∧ ∃ zs, Waits W.c (n : Int) zs ∧ W' = tell (askZ W n zs) n W.c.ts[n]) ∨
     (e.k = 7 ∧ DTerm W n W.c.ts[n].ps W') ∨
     (e.k ≠ 5 ∧ e.k ≠ 6 ∧ e.k ≠ 7 ∧ W' = W))
theorem dtxn_ex {W : Wd} (h : Ok W) (e : Ev) : ∃ W', DTxn W e W' ∧ Ok W' := by
  by_cases ha : 0 ≤ e.a ∧ e.a ≤ (W.c.ts.length : Int) - 1
  · obtain ⟨n, hi⟩ := Int.eq_ofNat_of_zero_le ha.1
    have hn : n < W.c.ts.length := by omega
    by_cases h5 : e.k = 5
    · obtain ⟨x, b, hx⟩ := late_ex W.c (n : Int)
      cases b with
      | false => exact ⟨W, .inr ⟨n, hn, hi, .inl ⟨h5, x, _, hx, .inl ⟨rfl, rfl⟩⟩⟩, h⟩
      | true =>
        have he := Late.ext hx
        obtain ⟨hn', -⟩ := he n hn
        exact ⟨_, .inr ⟨n, hn, hi, .inl ⟨h5, x, _, hx, .inr ⟨rfl, hn', rfl⟩⟩⟩, (h.putC hx.valid he).tell (W := putC W x) hn'⟩
    · by_cases h6 : e.k = 6
      · obtain ⟨zs, hz⟩ := waits_ex W.c (n : Int)
        have h1 := h.askZ (n := (n : Int)) (waits_msg hz)
        have hc := (askZ_c (n : Int) zs W).1
        have h2 := h1.tell (n := n) (by rw [hc]; exact hn)
        simp only [hc] at h2
        exact ⟨_, .inr ⟨n, hn, hi, .inr (.inl ⟨h6, zs, hz, rfl⟩)⟩, h2⟩
      · by_cases h7 : e.k = 7
        · obtain ⟨W', hd, ho⟩ := dterm_ex h n W.c.ts[n].ps
          exact ⟨W', .inr ⟨n, hn, hi, .inr (.inr (.inl ⟨h7, hd⟩))⟩, ho⟩
        · exact ⟨W, .inr ⟨n, hn, hi, .inr (.inr (.inr ⟨h5, h6, h7, rfl⟩))⟩, h⟩
  · exact ⟨W, .inl ⟨ha, rfl⟩, h⟩
/-- The parts of a transaction that sets a ref at some shards, whose refs are given. -/
def partsK (ref id : Int) : Int → Int → List (List Int) → List Part
  | _, _, [] => []
  | bits, k, z :: zs => (if bits % 2 = 1 ∧ z.getD ref.toNat 0 ≠ id then [⟨k, [⟨ref, z.getD ref.toNat 0, id⟩]⟩] else []) ++ partsK ref id (bits / 2) (k + 1) zs
/-- A transaction begins. -/
def CanB (e : Ev) : Prop := (1 ≤ e.a ∧ e.a ≤ 7) ∧ (0 ≤ e.b ∧ e.b ≤ 3) ∧ Val e.c
def DBegin (W : Wd) (e : Ev) (W' : Wd) : Prop :=
  (¬ CanB e ∧ W' = W) ∨
  (CanB e ∧ ∃ rfs : List (List Int), rfs.length = W.ss.length ∧ (∀ k (h1 : k < rfs.length) (h2 : k < W.ss.length), ∃ s, Rcv W.ss[k] s ∧ rfs[k] = s.refs) ∧
    ((partsK e.b e.c e.a 0 rfs = [] ∧ W' = W) ∨
     (partsK e.b e.c e.a 0 rfs ≠ [] ∧ ∃ x b, Begun W.c (partsK e.b e.c e.a 0 rfs) x b ∧ ((b = false ∧ W' = W) ∨ (b = true ∧ ∃ zs, Waits x ((x.ts.length : Int) - 1) zs ∧ W' = askZ (putC W x) ((x.ts.length : Int) - 1) zs)))))
theorem refs_ex : ∀ (ss : List (List Rec)), (∀ r ∈ ss, Vld r) → ∃ rfs : List (List Int), rfs.length = ss.length ∧ ∀ k (h1 : k < rfs.length) (h2 : k < ss.length), ∃ s, Rcv ss[k] s ∧ rfs[k] = s.refs
  | [], _ => ⟨[], rfl, fun k h => absurd h (by simp)⟩
  | r :: rs, h => by
    obtain ⟨⟨s, hs⟩, -⟩ := h r List.mem_cons_self
    obtain ⟨rfs, hl, hr⟩ := refs_ex rs fun x hx => h x (List.mem_cons_of_mem _ hx)
    refine ⟨s.refs :: rfs, by simp [hl], fun k h1 h2 => ?_⟩
    cases k with
    | zero => exact ⟨s, hs, rfl⟩
    | succ k => exact hr k (by simpa using h1) (by simpa using h2)
theorem dbegin_ex {W : Wd} (h : Ok W) (e : Ev) : ∃ W', DBegin W e W' ∧ Ok W' := by
  by_cases hc : CanB e
  · obtain ⟨rfs, hl, hr⟩ := refs_ex W.ss h.vld
    by_cases hp : partsK e.b e.c e.a 0 rfs = []
    · exact ⟨W, .inr ⟨hc, rfs, hl, hr, .inl ⟨hp, rfl⟩⟩, h⟩
    · obtain ⟨x, b, hx⟩ := begun_ex W.c (partsK e.b e.c e.a 0 rfs)
      cases b with
      | false => exact ⟨W, .inr ⟨hc, rfs, hl, hr, .inr ⟨hp, x, _, hx, .inl ⟨rfl, rfl⟩⟩⟩, h⟩
      | true =>
        obtain ⟨zs, hz⟩ := waits_ex x ((x.ts.length : Int) - 1)
        exact ⟨_, .inr ⟨hc, rfs, hl, hr, .inr ⟨hp, x, _, hx, .inr ⟨rfl, zs, hz, rfl⟩⟩⟩, (h.putC hx.valid (Begun.ext hx)).askZ (W := putC W x) (waits_msg hz)⟩
  · exact ⟨W, .inl ⟨hc, rfl⟩, h⟩
/-- An event is applied. -/
def Did (W : Wd) (e : Ev) (W' : Wd) : Prop :=
  (e.k = 1 ∧ DBegin W e W') ∨ (e.k ≠ 1 ∧ (e.k = 2 ∨ e.k = 3 ∨ e.k = 4) ∧ DNet W e W') ∨ (e.k ≠ 1 ∧ ¬ (e.k = 2 ∨ e.k = 3 ∨ e.k = 4) ∧ DTxn W e W')
theorem did_ex {W : Wd} (h : Ok W) (e : Ev) : ∃ W', Did W e W' ∧ Ok W' := by
  by_cases h1 : e.k = 1
  · obtain ⟨W', hd, ho⟩ := dbegin_ex h e
    exact ⟨W', .inl ⟨h1, hd⟩, ho⟩
  · by_cases h2 : e.k = 2 ∨ e.k = 3 ∨ e.k = 4
    · obtain ⟨W', hd, ho⟩ := dnet_ex h e
      exact ⟨W', .inr (.inl ⟨h1, h2, hd⟩), ho⟩
    · obtain ⟨W', hd, ho⟩ := dtxn_ex h e
      exact ⟨W', .inr (.inr ⟨h1, h2, hd⟩), ho⟩
/-- A new run. -/
def new : Wd := ⟨⟨[], []⟩, [[], [], []], []⟩
theorem new_ok : Ok new := ⟨none_valid, rfl, fun rs hr => by
  have : rs = [] := by simp [new] at hr; exact hr
  rw [this]; exact nil_vld, Nat.zero_le _, fun m hm => by cases hm⟩
end Wl
end Go.Proofs.YteaibflloeipaaaGreatDoor
namespace Go.Proofs.YteaibflloeipaaaGreatDoor
open Go.RowKit Wo Pu Rf

/-! ### Blocks of four cells. -/
def Blk4s (w : World) (g : Nat) (t : TypeId) (v0 v1 v2 v3 : Value) : Prop := w.heap[g]? = some (.cells #[v0, v1, v2, v3] t (0, 0))
section
variable {w w' : World} {g : Nat} {t : TypeId} {v0 v1 v2 v3 : Value}
theorem Blk4s.lt (h : Blk4s w g t v0 v1 v2 v3) : g < w.heap.size := blk_lt h
theorem Blk4s.reads (h : Blk4s w g t v0 v1 v2 v3) : w.cell? ⟨g, 0, none⟩ = some v0 ∧ w.cell? ⟨g, 1, none⟩ = some v1 ∧ w.cell? ⟨g, 2, none⟩ = some v2 ∧ w.cell? ⟨g, 3, none⟩ = some v3 ∧ ∀ o, w.frozen? ⟨g, o, none⟩ = false := by
  unfold Blk4s at h
  exact ⟨by simp [World.cell?, h], by simp [World.cell?, h], by simp [World.cell?, h], by simp [World.cell?, h], fun o => by simp [World.frozen?, h]⟩
theorem Blk4s.new_ (w : World) (t : TypeId) (v0 v1 v2 v3 : Value) : Blk4s (w.alloc (.cells #[v0, v1, v2, v3] t)) w.heap.size t v0 v1 v2 v3 := heap_alloc_new w _
theorem Blk4s.below {C : Nat} (h : Blk4s w g t v0 v1 v2 v3) (hb : Below C w w') (hC : g < C) : Blk4s w' g t v0 v1 v2 v3 := (hb.block g hC).trans h
theorem Blk4s.later (h : Blk4s w g t v0 v1 v2 v3) (hb : Below w.heap.size w w') : Blk4s w' g t v0 v1 v2 v3 := h.below hb h.lt
theorem Blk4s.alloc (h : Blk4s w g t v0 v1 v2 v3) (o : Obj) : Blk4s (w.alloc o) g t v0 v1 v2 v3 := h.later ((Below.refl _ _).alloc (Nat.le_refl _) o)
theorem Blk4s.far (h : Blk4s w g t v0 v1 v2 v3) {p : Addr} (hp : g ≠ p.block) (u : Value) : Blk4s (w.setCell p u) g t v0 v1 v2 v3 := (Below.heap_setCell w p u g hp).trans h
theorem Blk4s.set0 (h : Blk4s w g t v0 v1 v2 v3) (u : Value) : Blk4s (w.setCell ⟨g, 0, none⟩ u) g t u v1 v2 v3 := by unfold Blk4s at h ⊢; simp [World.setCell, Array.getElem?_modify, h]
theorem Blk4s.set1 (h : Blk4s w g t v0 v1 v2 v3) (u : Value) : Blk4s (w.setCell ⟨g, 1, none⟩ u) g t v0 u v2 v3 := by unfold Blk4s at h ⊢; simp [World.setCell, Array.getElem?_modify, h]
theorem Blk4s.set2 (h : Blk4s w g t v0 v1 v2 v3) (u : Value) : Blk4s (w.setCell ⟨g, 2, none⟩ u) g t v0 v1 u v3 := by unfold Blk4s at h ⊢; simp [World.setCell, Array.getElem?_modify, h]
theorem Blk4s.set3 (h : Blk4s w g t v0 v1 v2 v3) (u : Value) : Blk4s (w.setCell ⟨g, 3, none⟩ u) g t v0 v1 v2 u := by unfold Blk4s at h ⊢; simp [World.setCell, Array.getElem?_modify, h]
theorem Blk4s.grown {row : Option Nat} (h : Blk4s w g t v0 v1 v2 v3) (hg : w.grownBy w' row) (hr : some g ≠ row) : Blk4s w' g t v0 v1 v2 v3 := (hg.block g h.lt hr).trans h
end
end Go.Proofs.YteaibflloeipaaaGreatDoor
namespace Go.Proofs.YteaibflloeipaaaGreatDoor
open Go.RowKit Wo Pu Rf Lk Sh Co Wl
set_option linter.unusedVariables false
set_option linter.unusedSimpArgs false

/-! ### Messages: four cells each. -/
def msV (m : Msg) : List Value := [.int .i64 m.k, .int .i64 m.t, .int .i64 m.s, .bool m.y]
def msgsV (ms : List Msg) : List Value := ms.flatMap msV
theorem msgsV_length (ms : List Msg) : (msgsV ms).length = ms.length * 4 := by
  induction ms with
  | nil => rfl
  | cons o os ih => show (msV o ++ msgsV os).length = _; rw [List.length_append, ih, List.length_cons]; show 4 + _ = _; omega
theorem msgsV_append (a b : List Msg) : msgsV (a ++ b) = msgsV a ++ msgsV b := List.flatMap_append
theorem msgsV_one (m : Msg) : msgsV [m] = msV m := by simp [msgsV]
theorem msgsV_get {ms : List Msg} {k d : Nat} (hk : k < ms.length) (hd : d < 4) : (msgsV ms)[k * 4 + d]? = (msV ms[k])[d]? := by
  induction ms generalizing k with
  | nil => simp at hk
  | cons o os ih =>
    show (msV o ++ msgsV os)[k * 4 + d]? = _
    cases k with
    | zero =>
      rw [Nat.zero_mul, Nat.zero_add, List.getElem?_append_left (by show d < 4; exact hd)]
      rfl
    | succ k =>
      rw [List.getElem?_append_right (by show 4 ≤ _; omega), show (k + 1) * 4 + d - (msV o).length = k * 4 + d from by show (k + 1) * 4 + d - 4 = _; omega, ih (by simpa using hk)]
      rfl
theorem msV_cells (m : Msg) : ∀ u ∈ msV m, u.oneCell' = true := by
  intro u hu
  simp only [msV, List.mem_cons, List.not_mem_nil, or_false] at hu
  rcases hu with rfl | rfl | rfl | rfl <;> rfl
theorem msgsV_cells (ms : List Msg) : ∀ u ∈ msgsV ms, u.oneCell' = true := by
  intro u hu
  obtain ⟨o, _, hu⟩ := List.mem_flatMap.1 hu
  exact msV_cells o u hu
theorem msgsV_take (ms : List Msg) (k : Nat) : msgsV (ms.take k) = (msgsV ms).take (k * 4) := by
  induction ms generalizing k with
  | nil => simp [msgsV]
  | cons o os ih =>
    cases k with
    | zero => simp [msgsV]
    | succ k =>
      show msV o ++ msgsV (os.take k) = (msV o ++ msgsV os).take _
      rw [ih, List.take_append, show (k + 1) * 4 - (msV o).length = k * 4 from by show (k + 1) * 4 - 4 = _; omega, List.take_of_length_le (l := msV o) (by show 4 ≤ _; omega)]
theorem msgsV_drop (ms : List Msg) (k : Nat) : msgsV (ms.drop k) = (msgsV ms).drop (k * 4) := by
  induction ms generalizing k with
  | nil => simp [msgsV]
  | cons o os ih =>
    cases k with
    | zero => simp [msgsV]
    | succ k =>
      show msgsV (os.drop k) = (msV o ++ msgsV os).drop _
      rw [ih, List.drop_append, show (k + 1) * 4 - (msV o).length = k * 4 from by show (k + 1) * 4 - 4 = _; omega, List.drop_of_length_le (l := msV o) (by show 4 ≤ _; omega)]
      rfl
theorem Wo.Row.msg_ {w : World} {B : Nat} {A : Option Addr} {ms : List Msg} (h : Row w B A (msgsV ms)) {k : Nat} (hk : k < ms.length) :
    ∃ (m : Msg) (ad : Addr), ms[k] = m ∧ A = some ad ∧ (ad.add (k * 4)).block < B ∧ w.cell? (ad.add (k * 4)) = some (.int .i64 m.k) ∧ w.cell? ⟨(ad.add (k * 4)).block, (ad.add (k * 4)).off + 1, none⟩ = some (.int .i64 m.t) ∧
      w.cell? ⟨(ad.add (k * 4)).block, (ad.add (k * 4)).off + 2, none⟩ = some (.int .i64 m.s) ∧ w.cell? ⟨(ad.add (k * 4)).block, (ad.add (k * 4)).off + 3, none⟩ = some (.bool m.y) := by
  have hl := msgsV_length ms
  rcases h with h | ⟨ad, e, hb, hc⟩
  · rw [h] at hl; simp at hl; omega
  · have h0 := hc (k * 4 + 0) (.int .i64 ms[k].k) (by rw [msgsV_get hk (by omega)]; rfl)
    have h1 := hc (k * 4 + 1) (.int .i64 ms[k].t) (by rw [msgsV_get hk (by omega)]; rfl)
    have h2 := hc (k * 4 + 2) (.int .i64 ms[k].s) (by rw [msgsV_get hk (by omega)]; rfl)
    have h3 := hc (k * 4 + 3) (.bool ms[k].y) (by rw [msgsV_get hk (by omega)]; rfl)
    rw [← add_add] at h0 h1 h2 h3
    exact ⟨_, ad, rfl, e, by rw [add_block]; exact hb, by rw [add_zero] at h0; exact h0, h1, h2, h3⟩
/-! ### Lists of shards. -/
/-- The slice with head A holds the shards ss. -/
def ShL (w : World) (B : Nat) (A : Option Addr) (ss : List (List Rec)) : Prop :=
  ss = [] ∨ ∃ ad, A = some ad ∧ ad.block < B ∧ ∀ i (h : i < ss.length), ∃ (A' : Option Addr) (c : Nat), w.cell? (ad.add i) = some (.slice A' ss[i].length c) ∧ ss[i].length ≤ c ∧ Recs w B A' ss[i]
section
variable {w w' : World} {B C : Nat} {A : Option Addr} {ss : List (List Rec)}
theorem ShL.below (h : ShL w B A ss) (hb : Below C w w') (hC : B ≤ C) : ShL w' B A ss := by
  rcases h with rfl | ⟨ad, e, ha, hh⟩
  · exact .inl rfl
  · refine .inr ⟨ad, e, ha, fun i hi => ?_⟩
    obtain ⟨A', c, h0, h1, h2⟩ := hh i hi
    exact ⟨A', c, by rw [hb.cell (by rw [add_block]; omega)]; exact h0, h1, h2.below hb hC⟩
theorem ShL.more {B' : Nat} (h : ShL w B A ss) (hB : B ≤ B') : ShL w B' A ss := by
  rcases h with rfl | ⟨ad, e, ha, hh⟩
  · exact .inl rfl
  · refine .inr ⟨ad, e, by omega, fun i hi => ?_⟩
    obtain ⟨A', c, h0, h1, h2⟩ := hh i hi
    exact ⟨A', c, h0, h1, h2.more hB⟩
theorem ShL.on (h : ShL w w.heap.size A ss) (hb : Below w.heap.size w w') : ShL w' w'.heap.size A ss := (h.below hb (Nat.le_refl _)).more hb.size
theorem ShL.at_ (h : ShL w B A ss) {k : Nat} (hk : k < ss.length) : ∃ (rs : List Rec) (ad : Addr) (A' : Option Addr) (c : Nat), ss[k] = rs ∧ A = some ad ∧ (ad.add k).block < B ∧ w.cell? (ad.add k) = some (.slice A' rs.length c) ∧ rs.length ≤ c ∧ Recs w B A' rs := by
  rcases h with rfl | ⟨ad, e, ha, hh⟩
  · simp at hk
  · obtain ⟨A', c, h0, h1, h2⟩ := hh k hk
    exact ⟨_, ad, A', c, rfl, e, by rw [add_block]; exact ha, h0, h1, h2⟩
end
/-! ### Runs. -/
/-- A run, read. -/
def Wrd (w : World) (B : Nat) (v : Value) (W : Wd) : Prop :=
  ∃ (A1 : Option Addr) (c1 : Nat) (A2 : Option Addr) (c2 : Nat) (A3 : Option Addr) (c3 : Nat) (A4 : Option Addr) (c4 : Nat), v = .agg #[.slice A1 W.c.ts.length c1, .slice A2 W.c.os.length c2, .slice A3 W.ss.length c3, .slice A4 W.ms.length c4] ∧
    Txs w B A1 W.c.ts ∧ W.c.ts.length ≤ c1 ∧ Row w B A2 (ints W.c.os) ∧ W.c.os.length ≤ c2 ∧ ShL w B A3 W.ss ∧ W.ss.length ≤ c3 ∧ Row w B A4 (msgsV W.ms) ∧ W.ms.length ≤ c4
theorem Wrd.below {w w' : World} {B C : Nat} {v : Value} {W : Wd} (h : Wrd w B v W) (hb : Below C w w') (hC : B ≤ C) : Wrd w' B v W := by
  obtain ⟨A1, c1, A2, c2, A3, c3, A4, c4, e, h1, q1, h2, q2, h3, q3, h4, q4⟩ := h
  exact ⟨A1, c1, A2, c2, A3, c3, A4, c4, e, h1.below hb hC, q1, h2.below hb hC, q2, h3.below hb hC, q3, h4.below hb hC, q4⟩
theorem Wrd.more {w : World} {B B' : Nat} {v : Value} {W : Wd} (h : Wrd w B v W) (hB : B ≤ B') : Wrd w B' v W := by
  obtain ⟨A1, c1, A2, c2, A3, c3, A4, c4, e, h1, q1, h2, q2, h3, q3, h4, q4⟩ := h
  exact ⟨A1, c1, A2, c2, A3, c3, A4, c4, e, h1.more hB, q1, h2.more hB, q2, h3.more hB, q3, h4.more hB, q4⟩
theorem Wrd.on {w w' : World} {v : Value} {W : Wd} (h : Wrd w w.heap.size v W) (hb : Below w.heap.size w w') : Wrd w' w'.heap.size v W := (h.below hb (Nat.le_refl _)).more hb.size
/-- Behind it: a run. -/
def NewW (W : Wd) (w : World) (e : Ending) (w' : World) : Prop := ∃ v, e = .returned v ∧ Wrd w' w'.heap.size v W ∧ Below w.heap.size w w'
theorem info_msg : (Tryz.prog.info? 190).map (fun i => (i.zero, i.size, i.bytes)) = some (some (.agg #[.int .i64 0, .int .i64 0, .int .i64 0, .bool false]), 4, 32) := by kernel_rfl
theorem info_shard : (Tryz.prog.info? 37).map (fun i => (i.zero, i.size, i.bytes)) = some (some (.agg #[.slice none 0 0]), 1, 24) := by kernel_rfl
/-- The lists of a run are small. -/
structure FewW (W : Wd) : Prop where
  ts : W.c.ts.length ≤ 12
  os : W.c.os.length ≤ 13
  ss : W.ss.length ≤ 3
  ms : W.ms.length ≤ 14
end Go.Proofs.YteaibflloeipaaaGreatDoor
namespace Go.Proofs.YteaibflloeipaaaGreatDoor
set_option maxRecDepth 100000
open Go.RowKit Go.ChangeShapes Go.WideShapes Go.Joins Wo Pu Rf Lk Sh

section
variable {H : Type} {enc : TypeId × Value → H} {w : World} {held : Bool}

/-- Sizes that memory can bear. -/
def WideL (ss : List (List Rec)) : Prop := ss.length ≤ maxLen ∧ ∀ rs ∈ ss, WideR rs
theorem read_shards {fuel : Nat} {cs : List Value} {x : DataW H × List MemPlace} (hf : DataW.trod enc Tryz.prog w 0 (fun _ => true) held fuel 52 cs = some x) :
    ∃ (A : Option Addr) (c : Nat) (ss : List (List Rec)), cs = [.slice A ss.length c] ∧ ShL w w.heap.size A ss ∧ WideL ss ∧ ss.length ≤ c := by
  rcases Deep.open_slice Tryz.underlying52 hf with ⟨hcs, _⟩ | ⟨a, len, cap, m, n, D, Pl, hcs, _, hl, hm, hmm, _, hel⟩
  · exact ⟨none, 0, [], hcs, .inl rfl, ⟨Nat.zero_le _, fun o ho => by cases ho⟩, Nat.zero_le _⟩
  · simp only [if_true] at hmm
    have one : ∀ i, i < len → ∃ rs : List Rec, (∃ (A' : Option Addr) (c : Nat), w.cell? (a.add i) = some (.slice A' rs.length c) ∧ rs.length ≤ c ∧ Recs w w.heap.size A' rs) ∧ WideR rs := fun i hi => by
      obtain ⟨cs', hc, ht⟩ := hel i (by omega)
      have hC : Tryz.prog.cellsOf 102 = 1 := by kernel_rfl
      rw [hC] at hc
      obtain ⟨_, hlen, hat⟩ := World.cells?_some hc
      match cs', hlen with
      | [c0], _ =>
        obtain ⟨y0, n', _, _, h0⟩ := trod_struct1 Tryz.underlying102 ht
        have k0 : Tryz.prog.cellsOf 100 = 1 := by kernel_rfl
        obtain ⟨A, c, rs, e0, hr, hw, hz⟩ := read_recs (show DataW.trod enc Tryz.prog w 0 (fun _ => true) held n' 100 [c0] = some y0 by simpa [k0] using h0)
        have q0 := hat 0 (by omega)
        have f0 : c0 = .slice A rs.length c := by simpa using e0
        subst f0
        exact ⟨rs, ⟨A, c, by rw [add_zero, Nat.mul_one] at q0; exact q0, hz, hr⟩, hw⟩
    have all : ∃ ss : List (List Rec), ss.length = len ∧ ∀ i (hi : i < ss.length), (∃ (A' : Option Addr) (c : Nat), w.cell? (a.add i) = some (.slice A' ss[i].length c) ∧ ss[i].length ≤ c ∧ Recs w w.heap.size A' ss[i]) ∧ WideR ss[i] := by
      refine ⟨(List.range len).map fun i => if h : i < len then (one i h).choose else [], by simp, fun i hi => ?_⟩
      have hi' : i < len := by simpa using hi
      simp only [List.getElem_map, List.getElem_range, hi', dite_true]
      exact (one i hi').choose_spec
    obtain ⟨ss, ho, hrs⟩ := all
    refine ⟨some a, cap, ss, by rw [ho]; exact hcs, ?_, ⟨by omega, fun o hmem => ?_⟩, by omega⟩
    · rcases Nat.eq_zero_or_pos ss.length with h0 | h0
      · exact .inl (List.eq_nil_of_length_eq_zero h0)
      · refine .inr ⟨a, rfl, ?_, fun i hi => (hrs i hi).1⟩
        obtain ⟨⟨A', c, q, -, -⟩, -⟩ := hrs 0 h0
        have := World.block_lt_of_cell? _ _ q
        rwa [add_block] at this
    · obtain ⟨i, hi, rfl⟩ := List.mem_iff_getElem.1 hmem
      exact (hrs i hi).2
/-- A list of shards. -/
theorem open_shards {base : Nat} {v : Value} {d : DataW H} {p : List MemPlace} (_hv : Value.okWide Tryz.prog w .any base 52 v) (h : DataW.Trod enc Tryz.prog w 0 (fun _ => true) held 52 v d p) :
    ∃ (A : Option Addr) (c : Nat) (ss : List (List Rec)), v = .slice A ss.length c ∧ ShL w w.heap.size A ss ∧ WideL ss := by
  obtain ⟨A0, n0, c0, rfl⟩ := okWide_slice Tryz.underlying52 _hv
  obtain ⟨fuel, hf⟩ := h
  obtain ⟨A, c, ss, e, hr, hw, -⟩ := read_shards hf
  exact ⟨A, c, ss, by simpa [Value.cells] using e, hr, hw⟩
end
end Go.Proofs.YteaibflloeipaaaGreatDoor
namespace Go.Proofs.YteaibflloeipaaaGreatDoor
open Go.RowKit Wo Pu Rf

/-- None of the first k of a names a ref of b. -/
def NoTo (a b : List Up) (k : Nat) : Prop := ∀ i (h : i < a.length), i < k → ∀ v ∈ b, a[i].r ≠ v.r
theorem NoTo.zero (a b : List Up) : NoTo a b 0 := fun _ _ h => absurd h (Nat.not_lt_zero _)
/-- x is the ref of none of the first k of b. -/
def NoIn (x : Int) (b : List Up) (k : Nat) : Prop := ∀ i (h : i < b.length), i < k → x ≠ b[i].r
theorem NoIn.zero (x : Int) (b : List Up) : NoIn x b 0 := fun _ _ h => absurd h (Nat.not_lt_zero _)
theorem NoIn.next {x : Int} {b : List Up} {k : Nat} (h : NoIn x b k) (hk : k < b.length) (e : x ≠ b[k].r) : NoIn x b (k + 1) := fun i hi hl => by
  by_cases e2 : i = k
  · subst e2; exact e
  · exact h i hi (by omega)
theorem NoTo.next {a b : List Up} {k : Nat} (h : NoTo a b k) (hk : k < a.length) (e : NoIn a[k].r b b.length) : NoTo a b (k + 1) := fun i hi hl v hv => by
  by_cases e2 : i = k
  · subst e2
    obtain ⟨j, hj, rfl⟩ := List.getElem_of_mem hv
    exact e j hj hj
  · exact h i hi (by omega) v hv
theorem NoTo.none {a b : List Up} (h : NoTo a b a.length) : ¬ Cross a b := fun ⟨_, _, u, hu, v, hv, e⟩ => by
  obtain ⟨i, hi, rfl⟩ := List.getElem_of_mem hu
  exact h i hi hi v hv e
end Go.Proofs.YteaibflloeipaaaGreatDoor
namespace Go.Proofs.YteaibflloeipaaaGreatDoor
open Go.RowKit Wo Pu Rf

/-- Block g is an array of the values vs. -/
def Arr4 (w : World) (g : Nat) (t : TypeId) (vs : List Value) : Prop := w.heap[g]? = some (.cells vs.toArray t (0, 0))
section
variable {w w' : World} {g : Nat} {t : TypeId} {vs : List Value}
theorem Arr4.new_ (w : World) (t : TypeId) (vs : List Value) : Arr4 (w.alloc (.cells vs.toArray t)) w.heap.size t vs := heap_alloc_new w _
theorem Arr4.lt (h : Arr4 w g t vs) : g < w.heap.size := by
  rcases Nat.lt_or_ge g w.heap.size with h1 | h1
  · exact h1
  · unfold Arr4 at h; rw [Array.getElem?_eq_none h1] at h; cases h
theorem Arr4.read (h : Arr4 w g t vs) {i : Nat} (hi : i < vs.length) : w.cell? ⟨g, i, none⟩ = some vs[i] := by
  unfold Arr4 at h
  simp [World.cell?, h, hi]
theorem Arr4.frozen (h : Arr4 w g t vs) (o : Nat) : w.frozen? ⟨g, o, none⟩ = false := by
  unfold Arr4 at h
  simp [World.frozen?, h]
theorem Arr4.below {C : Nat} (h : Arr4 w g t vs) (hb : Below C w w') (hC : g < C) : Arr4 w' g t vs := (hb.block g hC).trans h
theorem Arr4.far (h : Arr4 w g t vs) {p : Addr} (hp : g ≠ p.block) (u : Value) : Arr4 (w.setCell p u) g t vs := (Below.heap_setCell w p u g hp).trans h
theorem Arr4.set (h : Arr4 w g t vs) (i : Nat) (u : Value) : Arr4 (w.setCell ⟨g, i, none⟩ u) g t (vs.set i u) := by
  unfold Arr4 at h ⊢
  simp [World.setCell, Array.getElem?_modify, h]
theorem Arr4.row (h : Arr4 w g t vs) : Row w w.heap.size (some ⟨g, 0, none⟩) vs := by
  refine .inr ⟨_, rfl, h.lt, fun j v hj => ?_⟩
  have e : (⟨g, 0, none⟩ : Addr).add j = ⟨g, j, none⟩ := by unfold Addr.add; split <;> simp_all
  rw [e]
  unfold Arr4 at h
  simp [World.cell?, h, hj]
end
/-- The first k are zs's, the others 0. -/
def pad (zs : List Int) (k : Nat) : List Int := zs.take k ++ List.replicate (4 - k) 0
theorem pad_zero (zs : List Int) : pad zs 0 = [0, 0, 0, 0] := by simp [pad, List.replicate]
theorem pad_all {zs : List Int} (h : zs.length = 4) : pad zs 4 = zs := by simp [pad, List.take_of_length_le, h]
theorem pad_length {zs : List Int} {k : Nat} (h : zs.length = 4) (hk : k ≤ 4) : (pad zs k).length = 4 := by simp [pad]; omega
theorem pad_set {zs : List Int} {k : Nat} (h : zs.length = 4) (hk : k < 4) : (pad zs k).set k (zs[k]'(by omega)) = pad zs (k + 1) := by
  apply List.ext_getElem?
  intro i
  unfold pad
  rw [List.getElem?_set, List.length_append, List.length_take, List.length_replicate]
  have hk' : k < zs.length := by omega
  by_cases e : k = i
  · subst e
    rw [if_pos rfl, if_pos (by omega), List.getElem?_append_left (by simp; omega), List.getElem?_take, if_pos (by omega), List.getElem?_eq_getElem hk']
  · rw [if_neg e]
    by_cases hi : i < k
    · rw [List.getElem?_append_left (by simp; omega), List.getElem?_append_left (by simp; omega), List.getElem?_take, List.getElem?_take, if_pos hi, if_pos (by omega)]
    · rw [List.getElem?_append_right (by simp; omega), List.getElem?_append_right (by simp; omega), List.length_take, List.length_take, List.getElem?_replicate, List.getElem?_replicate]
      by_cases h4 : i < 4
      · rw [if_pos (by omega), if_pos (by omega)]
      · rw [if_neg (by omega), if_neg (by omega)]
/-- Which refs the first k of us name. -/
def named (us : List Up) (k : Nat) (i : Nat) : Bool := (us.take k).any (fun u => u.r.toNat == i)
def nameds (us : List Up) (k : Nat) : List Value := [.bool (named us k 0), .bool (named us k 1), .bool (named us k 2), .bool (named us k 3)]
theorem named_zero (us : List Up) (i : Nat) : named us 0 i = false := by simp [named]
theorem nameds_zero (us : List Up) : nameds us 0 = [.bool false, .bool false, .bool false, .bool false] := by simp [nameds, named_zero]
theorem named_next {us : List Up} {k : Nat} (hk : k < us.length) (i : Nat) : named us (k + 1) i = (named us k i || us[k].r.toNat == i) := by
  unfold named
  rw [List.take_succ_eq_append_getElem hk, List.any_append]
  simp
theorem nameds_next {us : List Up} {k : Nat} (hk : k < us.length) {m : Nat} (hm : us[k].r = (m : Int)) (h4 : m < 4) : (nameds us k).set m (.bool true) = nameds us (k + 1) := by
  unfold nameds
  simp only [named_next hk, hm, Int.toNat_natCast]
  match m, h4 with
  | 0, _ => simp
  | 1, _ => simp
  | 2, _ => simp
  | 3, _ => simp
theorem nameds_get (us : List Up) (k : Nat) {m : Nat} (h4 : m < 4) : (nameds us k)[m]'(by simpa [nameds] using h4) = .bool (named us k m) := by
  unfold nameds
  match m, h4 with
  | 0, _ => rfl
  | 1, _ => rfl
  | 2, _ => rfl
  | 3, _ => rfl
theorem named_iff (us : List Up) (i : Nat) : named us us.length i = true ↔ ∃ u ∈ us, u.r.toNat = i := by
  unfold named
  rw [List.take_length, List.any_eq_true]
  simp
/-- None of the first k of b names a ref of a. -/
def Apart (a b : List Up) (k : Nat) : Prop := ∀ i (h : i < b.length), i < k → named a a.length b[i].r.toNat = false
theorem Apart.zero (a b : List Up) : Apart a b 0 := fun _ _ h => absurd h (Nat.not_lt_zero _)
theorem Apart.next {a b : List Up} {k : Nat} (h : Apart a b k) (hk : k < b.length) (e : named a a.length b[k].r.toNat = false) : Apart a b (k + 1) := fun i hi hl => by
  by_cases e2 : i = k
  · subst e2; exact e
  · exact h i hi (by omega)
theorem Apart.none {a b : List Up} (h : Apart a b b.length) : ¬ Cross a b := fun ⟨_, _, u, hu, v, hv, e⟩ => by
  obtain ⟨i, hi, rfl⟩ := List.getElem_of_mem hv
  have h1 := h i hi hi
  have h2 := (named_iff a b[i].r.toNat).2 ⟨u, hu, by rw [e]⟩
  rw [h1] at h2
  cases h2
theorem cross_named {a b : List Up} (ha : UV a) (hb : UV b) {k : Nat} (hk : k < b.length) (e : named a a.length b[k].r.toNat = true) : Cross a b := by
  obtain ⟨u, hu, h⟩ := (named_iff a _).1 e
  have h1 := (ha.2.mem u hu).2.1
  have h2 := (hb.2.mem _ (List.getElem_mem hk)).2.1
  exact ⟨ha, hb, u, hu, _, List.getElem_mem hk, by omega⟩
/-- The ref of the last of the first k; -1 if there is none. -/
def lastR (us : List Up) (k : Nat) : Int := if h : 0 < k ∧ k - 1 < us.length then (us[k - 1]'h.2).r else -1
theorem lastR_zero (us : List Up) : lastR us 0 = -1 := by unfold lastR; rw [dif_neg (by omega)]
theorem lastR_next {us : List Up} {k : Nat} (hk : k < us.length) : lastR us (k + 1) = us[k].r := by
  unfold lastR
  rw [dif_pos (by omega)]
  rfl
theorem okU_iff {us : List Up} {k : Nat} (hk : k < us.length) : OkU us k hk ↔ Ok us[k] ∧ lastR us k < us[k].r := by
  unfold OkU lastR
  refine and_congr_right fun h => ?_
  by_cases e : k = 0
  · subst e
    rw [dif_neg (by omega)]
    exact ⟨fun _ => by have := h.1.1; omega, fun _ => .inl rfl⟩
  · rw [dif_pos ⟨by omega, by omega⟩]
    exact ⟨fun h2 => by rcases h2 with h2 | ⟨_, h2⟩; exact absurd h2 e; exact h2, fun h2 => .inr ⟨by omega, h2⟩⟩
end Go.Proofs.YteaibflloeipaaaGreatDoor
/- Laws on coordinators: a coordinator is boxed. -/
/- On to the world behind D. -/
/- An exact law begins: the argument's box, its size, a copy for the model. -/
/- The program's own copy of the argument is boxed. -/
/- The program's copy is as the argument; the region draws. -/
/- Laws on functions that answer numbers. -/
/- What the boxes hold is read again. -/
/- The coordinator with the slices P4 and P5 is boxed as P6, in block P7, behind it the world P3; ahead of region P1. -/
/- The draw, the program's answer, the model's, and that they are the same: behind it w5, all facts on it by way of dx. -/
/-
  Walks: the program's ids, updates and arrays of refs.
-/
namespace Go.Proofs.YteaibflloeipaaaGreatDoor
open Go.RowKit Wo Pu Rf

theorem refIdValid_is (b : Bool) (n : Int) (w : World) (hb : b = true ↔ Val n) : Calls Tryz.prog 152 #[.int .i64 n] w (Same (.bool b) w) := by
  have HB := hid hb
  clear hb
  by_cases h0 : n = -1
  · have F := hid (HB.out.2 ⟨by omega, by omega⟩)
    have e0 : (n == -1) = true := by rw [beq_iff_eq]; exact h0
    clear h0
    go_enter Tryz.func152, Tryz.ntmps152
    go_wp2
    go_ret
    rw [F.out]
    exact ⟨rfl, rfl⟩
  · have e0 : (n == -1) = false := by rw [beq_eq_false_iff_ne]; exact h0
    by_cases h1 : 0 ≤ n
    · have e1 : decide (0 ≤ n) = true := decide_eq_true h1
      by_cases h2 : n < 991
      · have F := hid (HB.out.2 ⟨by omega, by omega⟩)
        have e2 : decide (n < 991) = true := decide_eq_true h2
        clear h0 h1 h2
        go_enter Tryz.func152, Tryz.ntmps152
        go_wp2
        go_ret
        rw [F.out]
        exact ⟨rfl, rfl⟩
      · have F : Hid (b = false) := by
          show b = false
          rw [← Bool.not_eq_true]
          exact fun e => by have := (HB.out.1 e).2; omega
        have e2 : decide (n < 991) = false := decide_eq_false h2
        clear h0 h1 h2
        go_enter Tryz.func152, Tryz.ntmps152
        go_wp2
        go_ret
        rw [F.out]
        exact ⟨rfl, rfl⟩
    · have F : Hid (b = false) := by
        show b = false
        rw [← Bool.not_eq_true]
        exact fun e => by have := (HB.out.1 e).1; omega
      have e1 : decide (0 ≤ n) = false := decide_eq_false h1
      clear h0 h1
      go_enter Tryz.func152, Tryz.ntmps152
      go_wp2
      go_ret
      rw [F.out]
      exact ⟨rfl, rfl⟩

/-! ### Arrays of refs. -/
theorem ints_ones (zs : List Int) : (ints zs).toArray.all (·.oneCell') = true := by
  rw [Array.all_eq_true]
  intro i hi
  simp [ints, Value.oneCell']
theorem results_cell_slot {fn : Func} {p s : Tmp} {ty : TypeId} (h : fn.results = #[.cell p ty, .tmp s]) (tmps : Array Value) (w : World) (g : Nat) (t : TypeId) (cs : Array Value) (fr : Nat × Nat) (n : Nat) (el : TypeId) (v : Value)
    (hp : tmps.getD p undef = .pointer (some ⟨g, 0, none⟩)) (hs : tmps.getD s undef = v) (hg : w.heap[g]? = some (.cells cs t fr))
    (hu : Tryz.prog.underlying ty = some (.array n el)) (hi : (Tryz.prog.info? ty).map (·.size) = some cs.size) :
    (results fn tmps).run Tryz.prog w = .ok (.tuple #[.agg cs, v]) w := by
  have hp' : tmps[p]?.getD undef = .pointer (some ⟨g, 0, none⟩) := by simpa using hp
  have hs' : tmps[s]?.getD undef = v := by simpa using hs
  simp [results, h, hp', hs', asAddr, run_loadVar_row w g t ty cs fr _ hg hu rfl hi]

/-! ### Updates. -/
set_option maxHeartbeats 2000000 in
theorem valid_is (b : Bool) (u : Up) (w : World) (hb : b = true ↔ Ok u) : Calls Tryz.prog 136 #[upA u] w (Ret (.bool b) w) := by
  obtain ⟨bo, hbo⟩ := bool_of (Val u.o)
  obtain ⟨bn, hbn⟩ := bool_of (Val u.n)
  obtain ⟨b0, hb0⟩ := bool_of (0 ≤ u.r)
  obtain ⟨b1, hb1⟩ := bool_of (u.r < 4)
  obtain ⟨bd, hbd⟩ := bool_of (u.o ≠ u.n)
  have F : Hid (b = (b0 && b1 && bo && bn && bd)) := by
    show b = _
    rw [Bool.eq_iff_iff, hb]
    simp only [Bool.and_eq_true, hbo, hbn, hb0, hb1, hbd]
    unfold Ok
    constructor
    · rintro ⟨⟨h1, h2⟩, h3, h4, h5⟩; exact ⟨⟨⟨⟨h1, by omega⟩, h3⟩, h4⟩, h5⟩
    · rintro ⟨⟨⟨⟨h1, h2⟩, h3⟩, h4⟩, h5⟩; exact ⟨⟨h1, by omega⟩, h3, h4, h5⟩
  have CO : Hid (∀ x, Calls Tryz.prog 152 #[.int .i64 u.o] x (Same (.bool bo) x)) := fun x => refIdValid_is bo _ x hbo
  have CN : Hid (∀ x, Calls Tryz.prog 152 #[.int .i64 u.n] x (Same (.bool bn) x)) := fun x => refIdValid_is bn _ x hbn
  have e0 : decide (0 ≤ u.r) = b0 := by rw [Bool.eq_iff_iff, decide_eq_true_iff, hb0]
  have e1 : decide (u.r < 4) = b1 := by rw [Bool.eq_iff_iff, decide_eq_true_iff, hb1]
  have e2 : (u.o != u.n) = bd := by rw [Bool.eq_iff_iff, bne_iff_ne, hbd]
  have al := (Below.refl w.heap.size w).alloc (Nat.le_refl _) (.cells #[.int .i64 u.r, .int .i64 u.o, .int .i64 u.n] 164)
  clear hb hbo hbn hb0 hb1 hbd
  unfold upA
  cases b0 with
  | false =>
    go_enter Tryz.func136, Tryz.ntmps136
    go_wp2_with fail
    go_ret
    rw [F.out]
    exact .mk_ al
  | true =>
    cases b1 with
    | false =>
      go_enter Tryz.func136, Tryz.ntmps136
      go_wp2_with fail
      go_ret
      rw [F.out]
      exact .mk_ al
    | true =>
      cases bo with
      | false =>
        go_enter Tryz.func136, Tryz.ntmps136
        go_wp2_with fail
        refine (CO.out _).mono ?_
        rintro e w' ⟨rfl, rfl⟩
        go_wp2_with fail
        go_ret
        rw [F.out]
        exact .mk_ al
      | true =>
        cases bn with
        | false =>
          go_enter Tryz.func136, Tryz.ntmps136
          go_wp2_with fail
          refine (CO.out _).mono ?_
          rintro e w' ⟨rfl, rfl⟩
          go_wp2_with fail
          refine (CN.out _).mono ?_
          rintro e w' ⟨rfl, rfl⟩
          go_wp2_with fail
          go_ret
          rw [F.out]
          exact .mk_ al
        | true =>
          go_enter Tryz.func136, Tryz.ntmps136
          go_wp2_with fail
          refine (CO.out _).mono ?_
          rintro e w' ⟨rfl, rfl⟩
          go_wp2_with fail
          refine (CN.out _).mono ?_
          rintro e w' ⟨rfl, rfl⟩
          go_wp2_with fail
          go_ret
          rw [F.out]
          exact .mk_ al
end Go.Proofs.YteaibflloeipaaaGreatDoor
namespace Go.Proofs.YteaibflloeipaaaGreatDoor
open Go.RowKit Wo Pu Rf

/-- What updated answers. -/
def Updt (b : Bool) (zs : List Int) (us : List Up) (w : World) (e : Ending) (w' : World) : Prop := e = .returned (.tuple #[.agg (ints (if b then setR zs us else zs)).toArray, .bool b]) ∧ Below w.heap.size w w'
theorem Arr4.setRow {w : World} {g : Nat} {t : TypeId} {vs : List Value} (h : Arr4 w g t vs) (cs : List Value) : Arr4 (w.setRow g cs.toArray) g t cs := setRow_heap w g _ _ t _ h
theorem Arr4.farRow {w : World} {g g' : Nat} {t : TypeId} {vs : List Value} (h : Arr4 w g t vs) (hg : g ≠ g') (cs : Array Value) : Arr4 (w.setRow g' cs) g t vs := (setRow_other w g' g cs hg).trans h
theorem Arr4.alloc {w : World} {g : Nat} {t : TypeId} {vs : List Value} (h : Arr4 w g t vs) (o : Obj) : Arr4 (w.alloc o) g t vs := (heap_alloc_old w o h.lt).trans h
theorem info_refsJ : (Tryz.prog.info? 76).map (·.size) = some 4 := by kernel_rfl
set_option maxRecDepth 100000 in
set_option maxHeartbeats 4000000 in
theorem updated_is (b : Bool) (A : Option Addr) (c : Nat) (zs : List Int) (us : List Up) (w : World) (h4 : zs.length = 4) (hu : Row w w.heap.size A (upsV us)) (hr : Refs4 us) (hm : us.length ≤ 1048600) (hb : b = true ↔ Fits zs us) :
    Calls Tryz.prog 137 #[.agg (ints zs).toArray, .slice A us.length c] w (Updt b zs us w) := by
  have HB := hid hb
  have H4 := hid h4
  clear hb h4
  have hsz : (ints zs).toArray.size = 4 := by rw [List.size_toArray, ints_length, H4.out]
  have hsz' : (Tryz.prog.info? 76).map (·.size) = some (ints zs).toArray.size := by rw [hsz]; exact info_refsJ
  have HSZ := hid hsz
  have HSZ' := hid hsz'
  clear hsz hsz'
  go_enter Tryz.func137, Tryz.ntmps137
  have y0 := Arr4.new_ w 76 (ints zs)
  have b0 := (Below.refl w.heap.size w).alloc (Nat.le_refl _) (.cells (ints zs).toArray 76)
  obtain ⟨w1, hw1⟩ : ∃ w1, w.alloc (.cells (ints zs).toArray 76) = w1 := ⟨_, rfl⟩
  have z1 : w1.heap.size = w.heap.size + 1 := by rw [← hw1]; simp
  rw [hw1] at y0 b0
  have y1 := Arr4.new_ w1 76 (ints [0, 0, 0, 0])
  have y01 := y0.alloc (.cells (ints [0, 0, 0, 0]).toArray 76)
  have b1 := b0.alloc b0.size (.cells (ints [0, 0, 0, 0]).toArray 76)
  obtain ⟨w2, hw2⟩ : ∃ w2, w1.alloc (.cells (ints [0, 0, 0, 0]).toArray 76) = w2 := ⟨_, rfl⟩
  have z2 : w2.heap.size = w.heap.size + 1 + 1 := by rw [← hw2]; simp [z1]
  rw [hw2] at y1 y01 b1
  rw [z1] at y1
  have y2 := Arr4.new_ w2 76 (ints [0, 0, 0, 0])
  have y02 := y01.alloc (.cells (ints [0, 0, 0, 0]).toArray 76)
  have y12 := y1.alloc (.cells (ints [0, 0, 0, 0]).toArray 76)
  have b2 := b1.alloc b1.size (.cells (ints [0, 0, 0, 0]).toArray 76)
  obtain ⟨w3, hw3⟩ : ∃ w3, w2.alloc (.cells (ints [0, 0, 0, 0]).toArray 76) = w3 := ⟨_, rfl⟩
  have z3 : w3.heap.size = w.heap.size + 3 := by rw [← hw3]; simp [z2]
  rw [hw3] at y2 y02 y12 b2
  rw [z2] at y2
  have q2 := y2.setRow (ints zs)
  have q1 := y12.farRow (g' := w.heap.size + 1 + 1) (by omega) (ints zs).toArray
  have q0 := y02.farRow (g' := w.heap.size + 1 + 1) (by omega) (ints zs).toArray
  have b3 := below_setRow (g := w.heap.size + 1 + 1) b2 (by omega) (ints zs).toArray
  have hl : w2.heap[w.heap.size]? = some (.cells (ints zs).toArray 76 (0, 0)) := y01
  have hs : w3.heap[w.heap.size + 1 + 1]? = some (.cells (ints [0, 0, 0, 0]).toArray 76 (0, 0)) := y2
  subst hw1 hw2 hw3
  clear y0 y1 y01 y2 y02 y12 b0 b1 b2 z1 z2 z3
  go_wp2_with (first
    | (refine wpList_load_row rfl 76 _ rfl w.heap.size rfl 76 (ints zs).toArray (0, 0) _ hl Tryz.underlying76 rfl HSZ'.out ?_)
    | (refine wpList_store_rowTo rfl 76 _ _ rfl rfl (w.heap.size + 1 + 1) (ints zs).toArray rfl rfl 76 (ints [0, 0, 0, 0]).toArray hs HSZ'.out HSZ.out.symm (ints_ones _) ?_))
  clear hl hs
  go_loopw [12] (fun i wr => ∃ k : Nat, k ≤ us.length ∧ i = .int .i64 k ∧ Hid (FitTo zs us k) ∧ Arr4 wr (w.heap.size + 1 + 1) 76 (ints (setR zs (us.take k))) ∧ Arr4 wr (w.heap.size + 1) 76 (ints [0, 0, 0, 0]) ∧ Arr4 wr w.heap.size 76 (ints zs) ∧ Below w.heap.size w wr) (fun i _ => us.length - (intOf i).toNat)
  case atStart => exact ⟨0, Nat.zero_le _, rfl, .zero _ _, by rw [List.take_zero, setR_nil]; exact q2, q1, q0, b3⟩
  case round =>
    obtain ⟨k, hk, rfl, H, a2, a1, a0, hbr⟩ := hrel
    clear q2 q1 q0 b3
    have hz := hbr.size
    by_cases hlt : k < us.length
    · obtain ⟨o, ad, ho, rfl, ha1, g0, g1, g2⟩ := ((hu.below hbr (Nat.le_refl _)).more hbr.size).up_ hlt
      obtain ⟨r0, r1⟩ := hr _ (List.getElem_mem hlt)
      rw [ho] at r0 r1
      obtain ⟨m, hm0⟩ := Int.eq_ofNat_of_zero_le r0
      have hm4 : m < 4 := by omega
      have hmz : m < zs.length := by rw [H4.out]; exact hm4
      have hfit : fit1 zs us[k] ↔ zs[m] = o.o := by
        unfold fit1
        rw [ho, hm0, Int.toNat_natCast, List.getElem?_eq_getElem hmz]
        exact ⟨fun h => by injection h, fun h => by rw [h]⟩
      have HS : Hid (setR zs (us.take (k + 1)) = (setR zs (us.take k)).set m o.n) := by
        have := setR_take (zs := zs) hlt
        rwa [ho, hm0, Int.toNat_natCast] at this
      rw [hm0] at g0
      have hbW := hbr.alloc hz (.cells #[.int .i64 (m : Int), .int .i64 o.o, .int .i64 o.n] 164)
      have u1 := Blk.new_ wr 164 (.int .i64 (m : Int)) (.int .i64 o.o) (.int .i64 o.n)
      have c2 := a2.alloc (.cells #[.int .i64 (m : Int), .int .i64 o.o, .int .i64 o.n] 164)
      have c1 := a1.alloc (.cells #[.int .i64 (m : Int), .int .i64 o.o, .int .i64 o.n] 164)
      have c0 := a0.alloc (.cells #[.int .i64 (m : Int), .int .i64 o.o, .int .i64 o.n] 164)
      have k0 : (0 : Int) ≤ (k : Int) := by omega
      have k1 : (k : Int) < (us.length : Int) := by omega
      have k2 : (0 : Int) ≤ (m : Int) := by omega
      have k3 : (m : Int) < 4 := by omega
      clear ho hm0 r0 r1 a2 a1 a0
      go_wp2_with fail
      generalize wr.alloc (.cells #[.int .i64 (m : Int), .int .i64 o.o, .int .i64 o.n] 164) = W at *
      obtain ⟨z0, z1, z2, -⟩ := id u1.reads
      have hl4 : (ints (setR zs (us.take k))).length = 4 := by rw [ints_length, setR_length, H4.out]
      have y0 := c0.read (i := m) (by rw [ints_length]; exact hmz)
      rw [ints_get zs m hmz] at y0
      obtain ⟨yv, y2⟩ : ∃ v, W.cell? ⟨w.heap.size + 1 + 1, m, none⟩ = some v := ⟨_, c2.read (i := m) (by rw [hl4]; exact hm4)⟩
      have f2 := c2.frozen m
      have d2 := c2.set m (.int .i64 o.n)
      have d1 := c1.far (p := ⟨w.heap.size + 1 + 1, m, none⟩) (by show w.heap.size + 1 ≠ w.heap.size + 1 + 1; omega) (.int .i64 o.n)
      have d0 := c0.far (p := ⟨w.heap.size + 1 + 1, m, none⟩) (by show w.heap.size ≠ w.heap.size + 1 + 1; omega) (.int .i64 o.n)
      rw [ints_set, ← HS.out] at d2
      have e2 := hbW.setCell (p := ⟨w.heap.size + 1 + 1, m, none⟩) (by show w.heap.size ≤ w.heap.size + 1 + 1; omega) (.int .i64 o.n)
      obtain ⟨x, hx⟩ : ∃ x, zs[m] = x := ⟨_, rfl⟩
      rw [hx] at y0 hfit
      clear hx hl4 HS
      by_cases heq : x = o.o
      · have e0 : (x != o.o) = false := by rw [bne_eq_false_iff_eq]; exact heq
        have HN := hid (H.out.next hlt (hfit.2 heq))
        clear H hfit heq
        go_quiet (fail)
        go_wp2
        go_roundw
        case rel => exact ⟨k + 1, by omega, by go_num, HN, d2, d1, d0, (Wo.Below.drewN hbW _).setCell (p := ⟨w.heap.size + 1 + 1, m, none⟩) (by show w.heap.size ≤ w.heap.size + 1 + 1; omega) (.int .i64 o.n)⟩
        case measure => simp [intOf]; omega
      · have e0 : (x != o.o) = true := by rw [bne_iff_ne]; exact heq
        have F : Hid (b = false) := by
          show b = false
          rw [← Bool.not_eq_true]
          exact fun e => heq (hfit.1 (HB.out.1 e _ (List.getElem_mem hlt)))
        clear H hfit heq
        go_quiet (fail)
        have hl : (W.drewN nq).heap[w.heap.size]? = some (.cells (ints zs).toArray 76 (0, 0)) := c0
        have hs : (W.drewN nq).heap[w.heap.size + 1]? = some (.cells (ints [0, 0, 0, 0]).toArray 76 (0, 0)) := c1
        have hb9 := Wo.Below.drewN hbW nq
        go_wp2_with (first
          | (refine wpList_load_row rfl 76 _ rfl w.heap.size rfl 76 (ints zs).toArray (0, 0) _ hl Tryz.underlying76 rfl HSZ'.out ?_)
          | (refine wpList_store_rowTo rfl 76 _ _ rfl rfl (w.heap.size + 1) (ints zs).toArray rfl rfl 76 (ints [0, 0, 0, 0]).toArray hs HSZ'.out HSZ.out.symm (ints_ones _) ?_))
        have h2 : ((W.drewN nq).setRow (w.heap.size + 1) (ints zs).toArray).heap[w.heap.size + 1]? = some (.cells (ints zs).toArray 76 (0, 0)) := setRow_heap _ _ _ _ _ _ hs
        have hb2 := below_setRow hb9 (Nat.le_succ _) (ints zs).toArray
        rw [F.out]
        refine bodyPost_ret (v := .tuple #[.agg (ints zs).toArray, .bool false]) (results_cell_slot (p := 4) (s := 5) (by kernel_rfl) _ _ (w.heap.size + 1) 76 _ (0, 0) _ _ _ rfl rfl h2 Tryz.underlying76 HSZ'.out) rfl ⟨rfl, hb2⟩
    · have hk' : k = us.length := by omega
      subst hk'
      have F := hid (HB.out.2 H.out.all)
      rw [List.take_length] at a2
      clear H
      obtain ⟨ys, hys⟩ : ∃ ys, setR zs us = ys := ⟨_, rfl⟩
      have hyl : (ints ys).toArray.size = 4 := by rw [List.size_toArray, ints_length, ← hys, setR_length, H4.out]
      have hyl' : (Tryz.prog.info? 76).map (·.size) = some (ints ys).toArray.size := by rw [hyl]; exact info_refsJ
      have HYL := hid hyl
      have HYL' := hid hyl'
      have HY := hid hys
      rw [hys] at a2
      clear hyl hyl' hys
      have hl : wr.heap[w.heap.size + 1 + 1]? = some (.cells (ints ys).toArray 76 (0, 0)) := a2
      have hs : wr.heap[w.heap.size + 1]? = some (.cells (ints [0, 0, 0, 0]).toArray 76 (0, 0)) := a1
      go_wp2_with (first
        | (refine wpList_load_row rfl 76 _ rfl (w.heap.size + 1 + 1) rfl 76 (ints ys).toArray (0, 0) _ hl Tryz.underlying76 rfl HYL'.out ?_)
        | (refine wpList_store_rowTo rfl 76 _ _ rfl rfl (w.heap.size + 1) (ints ys).toArray rfl rfl 76 (ints [0, 0, 0, 0]).toArray hs HYL'.out HYL.out.symm (ints_ones _) ?_))
      have h2 : (wr.setRow (w.heap.size + 1) (ints ys).toArray).heap[w.heap.size + 1]? = some (.cells (ints ys).toArray 76 (0, 0)) := setRow_heap _ _ _ _ _ _ hs
      have hb2 := below_setRow hbr (Nat.le_succ _) (ints ys).toArray
      rw [F.out]
      refine bodyPost_ret (v := .tuple #[.agg (ints ys).toArray, .bool true]) (results_cell_slot (p := 4) (s := 5) (by kernel_rfl) _ _ (w.heap.size + 1) 76 _ (0, 0) _ _ _ rfl rfl h2 Tryz.underlying76 HYL'.out) rfl ⟨by rw [if_pos rfl, HY.out], hb2⟩

end Go.Proofs.YteaibflloeipaaaGreatDoor
/- Laws on coordinators: a coordinator is boxed. -/
/- On to the world behind D. -/
/- An exact law begins: the argument's box, its size, a copy for the model. -/
/- The program's own copy of the argument is boxed. -/
/- The program's copy is as the argument; the region draws. -/
/- Laws on functions that answer numbers. -/
/- What the boxes hold is read again. -/
/- The coordinator with the slices P4 and P5 is boxed as P6, in block P7, behind it the world P3; ahead of region P1. -/
/- The draw, the program's answer, the model's, and that they are the same: behind it w5, all facts on it by way of dx. -/
/-
  Walk: which updates are valid, by the program, where the seat has no more of the refs.
-/
namespace Go.Proofs.YteaibflloeipaaaGreatDoor
open Go.RowKit Wo Pu Rf

theorem row_here {w : World} {B : Nat} {A : Option Addr} {vs : List Value} (h : Row w B A vs) : Row w w.heap.size A vs := by
  rcases h with h | ⟨ad, e, hb, hc⟩
  · exact .inl h
  · cases vs with
    | nil => exact .inl rfl
    | cons v vs =>
      refine .inr ⟨ad, e, ?_, hc⟩
      have := hc 0 v rfl
      rw [add_zero] at this
      exact block_lt_of_cell this
set_option maxRecDepth 100000 in
set_option maxHeartbeats 8000000 in
theorem implUpdatesValid_is (b : Bool) (A : Option Addr) (c : Nat) (us : List Up) (w : World) (hr : Row w w.heap.size A (upsV us)) (hm : us.length ≤ 1048600) (hb : b = true ↔ UV us) :
    Calls Tryz.prog 110 #[.slice A us.length c] w (Ret (.bool b) w) := by
  have HB := hid hb
  clear hb
  go_enter Tryz.func110, Tryz.ntmps110
  go_wp2_with fail
  go_loopw [3, 8] (fun l i wr => ∃ (k : Nat) (x : Int), k ≤ us.length ∧ i = .int .i64 k ∧ l = .int .i64 x ∧ Hid (lastR us k = x) ∧ Hid (UpTo us k) ∧ Below w.heap.size w wr) (fun _ i _ => us.length - (intOf i).toNat)
  case atStart => exact ⟨0, -1, Nat.zero_le _, rfl, rfl, lastR_zero us, .zero us, Below.refl _ _⟩
  case round =>
    obtain ⟨k, x, hk, rfl, rfl, L, H, hbr⟩ := hrel
    have hz := hbr.size
    by_cases hlt : k < us.length
    · obtain ⟨o, ad, ho, rfl, ha1, g0, g1, g2⟩ := ((hr.below hbr (Nat.le_refl _)).more hz).up_ hlt
      have k0 : (0 : Int) ≤ (k : Int) := by omega
      have k1 : (k : Int) < (us.length : Int) := by omega
      obtain ⟨bv, hbv⟩ := bool_of (Ok o)
      have CV : Hid (∀ y, Calls Tryz.prog 136 #[.agg #[.int .i64 o.r, .int .i64 o.o, .int .i64 o.n]] y (Ret (.bool bv) y)) := fun y => valid_is bv o y hbv
      have hok := okU_iff hlt
      rw [ho, L.out] at hok
      have LN : Hid (lastR us (k + 1) = o.r) := by
        show _ = _
        rw [lastR_next hlt, ho]
      have HO := hid hok
      have HV := hid hbv
      have hbW := hbr.alloc hz (.cells #[.int .i64 o.r, .int .i64 o.o, .int .i64 o.n] 164)
      have u1 := Blk.new_ wr 164 (.int .i64 o.r) (.int .i64 o.o) (.int .i64 o.n)
      clear hok hbv ho L
      go_wp2_with fail
      refine (CV.out _).mono ?_
      rintro e w1 ⟨rfl, hb1⟩
      have b1 := hbW.trans (hb1.mono hbW.size)
      have v1 := u1.below hb1 u1.lt
      obtain ⟨z0, -, -, -⟩ := id v1.reads
      clear hb1 hbW u1 CV
      cases bv with
      | false =>
        have F := hid (uv_no HB.out hlt (fun h => by have := HV.out.2 (HO.out.1 h).1; cases this))
        clear H HO HV LN
        go_wp2_with fail
        go_ret
        rw [F.out]
        exact .mk_ b1
      | true =>
        by_cases hx : x < o.r
        · have e0 : decide (o.r ≤ x) = false := decide_eq_false (by omega)
          have HN := hid (H.out.next hlt (HO.out.2 ⟨HV.out.1 rfl, hx⟩))
          clear H HO HV hx
          go_wp2
          go_roundw
          case rel => exact ⟨k + 1, o.r, by omega, by go_num, rfl, LN, HN, b1⟩
          case measure => simp [intOf]; omega
        · have e0 : decide (o.r ≤ x) = true := decide_eq_true (by omega)
          have F := hid (uv_no HB.out hlt (fun h => hx (HO.out.1 h).2))
          clear H HO HV LN hx
          go_wp2
          go_ret
          rw [F.out]
          exact .mk_ b1
    · have hk' : k = us.length := by omega
      subst hk'
      by_cases h0 : us.length = 0
      · have F := hid (uv_none HB.out h0)
        have e0 : decide (0 < (us.length : Int)) = false := decide_eq_false (by omega)
        have e1 : decide (0 < us.length) = false := decide_eq_false (by omega)
        clear h0 H
        go_wp2
        go_ret
        rw [F.out]
        exact .mk_ hbr
      · have F := hid (uv_yes HB.out H.out h0)
        have e0 : decide (0 < (us.length : Int)) = true := decide_eq_true (by omega)
        have e1 : decide (0 < us.length) = true := decide_eq_true (by omega)
        clear h0 H
        go_wp2
        go_ret
        rw [F.out]
        exact .mk_ hbr

set_option maxHeartbeats 2000000 in
theorem copyNumbers_of (A : Option Addr) (c n : Nat) (zs : List Int) (w : World) (hr : Row w w.heap.size A (ints zs)) (hn : zs.length = n) (hm : n ≤ 1048576) :
    Calls Tryz.prog 43 #[.slice A n c] w (IntsOf zs w) := by
  obtain ⟨i0, hi, hz0, hz1, hz2⟩ := info_of info_int
  have al := (Below.refl w.heap.size w).alloc (Nat.le_refl _) (.cells #[] 3)
  have HN := hid hn
  clear hn
  go_enter Tryz.func43, Tryz.ntmps43
  go_wp2_with (at_builtin; go_must (refine wpList_append_row _ rfl _ _ 24 rfl w.heap.size 3 i0 (.int .i64 0) 1 8 Tryz.underlying24 hi hz0 hz1 hz2 rfl (by decide) _ 0 [] rfl (nil_own (Nat.le_refl _) _ _) w.heap.size A n c (ints zs) rfl (hr.below al (Nat.le_refl _)) (by rw [ints_length, HN.out]; omega) (by intro u hu; obtain ⟨x, _, rfl⟩ := List.mem_map.1 hu; rfl) (by unfold maxLen; omega) (by omega) (by simp) ?_); intro v4 w4 hown hg)
  have b4 : Below w.heap.size w w4 := al.grown hg (by simp) (fun j hj => by injection hj with hj; exact Nat.le_of_eq hj)
  have ho0 : OwnI w4 w.heap.size v4 zs := by
    unfold OwnI
    rw [Nat.zero_add, List.nil_append] at hown
    rw [HN.out]
    exact hown
  obtain ⟨A5, c5, rfl, -, -⟩ := ho0.form
  go_wp2
  go_ret
  exact ⟨A5, c5, rfl, ho0, b4⟩
end Go.Proofs.YteaibflloeipaaaGreatDoor
namespace Go.Proofs.YteaibflloeipaaaGreatDoor
open Go.RowKit Wo Pu Rf


end Go.Proofs.YteaibflloeipaaaGreatDoor
namespace Go.Proofs.YteaibflloeipaaaGreatDoor
open Go.RowKit Wo Pu Rf Lk

theorem l12Txn_is (b : Bool) (t : Int) (w : World) (hb : b = true ↔ TV t) : Calls Tryz.prog 101 #[.int .i64 t] w (Same (.bool b) w) := by
  have CB : Hid (∀ x, Calls Tryz.prog 44 #[.int .i64 t, .int .i64 0, .int .i64 11] x (Same (.bool b) x)) := fun x => l6In_is b t 0 11 x hb
  clear hb
  go_enter Tryz.func101, Tryz.ntmps101
  go_wp2_with fail
  refine (CB.out _).mono ?_
  rintro e w1 ⟨rfl, rfl⟩
  go_wp2
  go_ret
  exact ⟨rfl, rfl⟩
/-- The first k are transactions or none. -/
def OwnTo (zs : List Int) (k : Nat) : Prop := ∀ z ∈ zs.take k, Lk.Own z
theorem OwnTo.zero (zs : List Int) : OwnTo zs 0 := fun z h => by simp at h
theorem OwnTo.next {zs : List Int} {k : Nat} (h : OwnTo zs k) (hk : k < zs.length) (hv : Lk.Own zs[k]) : OwnTo zs (k + 1) := fun z hz => by
  rw [List.take_succ_eq_append_getElem hk] at hz
  rcases List.mem_append.1 hz with hz | hz
  · exact h z hz
  · rw [List.mem_singleton.1 hz]; exact hv
theorem OwnTo.all {zs : List Int} (h : OwnTo zs zs.length) : ∀ z ∈ zs, Lk.Own z := by unfold OwnTo at h; rwa [List.take_length] at h
end Go.Proofs.YteaibflloeipaaaGreatDoor
namespace Go.Proofs.YteaibflloeipaaaGreatDoor
open Go.RowKit Wo Pu Rf Lk

/-- Behind it: numbers of the call's own, and whether. -/
def Took (qs : List Int) (ok : Bool) (w : World) (e : Ending) (w' : World) : Prop := ∃ A c, e = .returned (.tuple #[.slice A qs.length c, .bool ok]) ∧ OwnI w' w.heap.size (.slice A qs.length c) qs ∧ Below w.heap.size w w'
/-- What l12Take answers. -/
def takes (zs : List Int) (t : Int) (us : List Up) (ok : Bool) : List Int := if ok then setR zs (lk t us) else zs
theorem lk_get {t : Int} {us : List Up} {k : Nat} (h : k < us.length) (h2 : k < (lk t us).length) : (lk t us)[k] = lk1 t us[k] := by
  have e : (lk t us)[k]? = some (lk1 t us[k]) := by
    unfold lk
    rw [List.getElem?_map, List.getElem?_eq_getElem h]
    rfl
  rw [List.getElem?_eq_getElem h2] at e
  injection e
set_option maxRecDepth 100000 in
set_option maxHeartbeats 8000000 in
theorem l12Take_any (ok : Bool) (A A2 : Option Addr) (c c2 : Nat) (zs : List Int) (t : Int) (us : List Up) (w : World) (hz : Row w w.heap.size A (ints zs)) (h4 : zs.length = 4) (hu : Row w w.heap.size A2 (upsV us)) (hr : Refs4 us) (hm : us.length ≤ 1048600) (hok : ok = true ↔ Fits zs (lk t us)) :
    Calls Tryz.prog 129 #[.slice A zs.length c, .int .i64 t, .slice A2 us.length c2] w (Took (takes zs t us ok) ok w) := by
  obtain ⟨i0, hi, hz0, hz1, hz2⟩ := info_of info_int
  have H4 := hid h4
  have HO := hid hok
  have al := (Below.refl w.heap.size w).alloc (Nat.le_refl _) (.cells #[] 3)
  have hzl : Hid (zs.length ≤ 10) := by show _ ≤ _; omega
  clear h4 hok
  go_enter Tryz.func129, Tryz.ntmps129
  go_wp2_with (at_builtin; go_must (refine wpList_append_row _ rfl _ _ 24 rfl w.heap.size 3 i0 (.int .i64 0) 1 8 Tryz.underlying24 hi hz0 hz1 hz2 rfl (by decide) _ 0 [] rfl (nil_own (Nat.le_refl _) _ _) w.heap.size A zs.length c (ints zs) rfl (hz.below al (Nat.le_refl _)) (by rw [ints_length]; omega) (by intro u hu; obtain ⟨x, _, rfl⟩ := List.mem_map.1 hu; rfl) (by have := hzl.out; unfold maxLen; omega) (by have := hzl.out; omega) (by simp) ?_); intro v4 w4 hown hg)
  have b4 : Below w.heap.size w w4 := al.grown hg (by simp) (fun j hj => by injection hj with hj; exact Nat.le_of_eq hj)
  have ho0 : OwnI w4 w.heap.size v4 zs := by
    unfold OwnI
    rw [Nat.zero_add, List.nil_append] at hown
    exact hown
  obtain ⟨g, c4, rfl, hg1, hg2⟩ := ho0.at (by rw [H4.out]; omega)
  clear hown hg al
  go_wp2_with fail
  go_loopw [9] (fun i wr => ∃ k : Nat, k ≤ us.length ∧ i = .int .i64 k ∧ OwnI wr w.heap.size (.slice (some ⟨g, 0, none⟩) zs.length c4) (setR zs (lk t (us.take k))) ∧ Hid (FitTo zs (lk t us) k) ∧ Below w.heap.size w wr) (fun i _ => us.length - (intOf i).toNat)
  case atStart => exact ⟨0, Nat.zero_le _, rfl, (by rw [List.take_zero]; exact ho0), FitTo.zero zs _, b4⟩
  case round =>
    obtain ⟨k, hk, rfl, ho, HF, hb⟩ := hrel
    clear ho0 b4
    by_cases hlt : k < us.length
    · obtain ⟨o, ad, ho1, rfl, ha1, g0, -, -⟩ := (hu.below hb (Nat.le_refl _)).up_ hlt
      obtain ⟨q0, q1⟩ := hr _ (List.getElem_mem hlt)
      rw [ho1] at q0 q1
      obtain ⟨m, hm0⟩ := Int.eq_ofNat_of_zero_le q0
      rw [hm0] at g0
      have hmz0 : m < zs.length := by rw [H4.out]; omega
      obtain ⟨adz, ez, hbz, cz⟩ := (hz.below hb (Nat.le_refl _)).int_ hmz0
      have hkl : k < (lk t us).length := by rw [lk_length]; exact hlt
      have hge : (lk t us)[k] = lk1 t o := by rw [← ho1]; exact lk_get hlt hkl
      have hfit : fit1 zs (lk t us)[k] ↔ zs[m] = -1 := by
        rw [hge]
        unfold fit1
        rw [show (lk1 t o).r = o.r from rfl, hm0, Int.toNat_natCast, List.getElem?_eq_getElem hmz0]
        exact ⟨fun h => by injection h, fun h => by rw [h]; rfl⟩
      have k0 : (0 : Int) ≤ (k : Int) := by omega
      have k1 : (k : Int) < (us.length : Int) := by omega
      have k2 : (0 : Int) ≤ (m : Int) := by omega
      have k3 : (m : Int) < (zs.length : Int) := by omega
      subst ez
      by_cases heq : zs[m] = -1
      · have e0 : (zs[m] != -1) = false := by rw [bne_eq_false_iff_eq]; exact heq
        have HN := hid (HF.out.next hkl (hfit.2 heq))
        have hsl := setR_length (lk t (us.take k)) zs
        have ho' : OwnI wr w.heap.size (.slice (some ⟨g, 0, none⟩) (setR zs (lk t (us.take k))).length c4) (setR zs (lk t (us.take k))) := by rw [hsl]; exact ho
        have hmz : m < (setR zs (lk t (us.take k))).length := by rw [hsl]; exact hmz0
        have y0 := ho'.cell hmz
        have f0 := World.ownsRow.frozenAt ho' m
        have ho2 := ho'.set m t
        have hb2 := hb.setCell (p := ⟨g, m, none⟩) hg1 (.int .i64 t)
        have hst : setR zs (lk t (us.take (k + 1))) = (setR zs (lk t (us.take k))).set m t := by
          rw [List.take_succ_eq_append_getElem hlt, ho1]
          unfold lk
          rw [List.map_append]
          show setR zs (_ ++ [lk1 t o]) = _
          rw [setR_snoc]
          show (setR zs _).set o.r.toNat t = _
          rw [hm0, Int.toNat_natCast]
        have hl2 : ((setR zs (lk t (us.take k))).set m t).length = zs.length := by rw [List.length_set, hsl]
        rw [← hst] at ho2 hl2
        rw [hl2] at ho2
        clear ho ho' hb hst hl2 hsl q0 q1 hm0 ho1 HF heq hfit hge
        go_wp2
        go_roundw
        case rel => exact ⟨k + 1, by omega, by go_num, ho2, HN, hb2⟩
        case measure => simp [intOf]; omega
      · have e0 : (zs[m] != -1) = true := by rw [bne_iff_ne]; exact heq
        have F : Hid (ok = false) := by
          show ok = false
          rw [← Bool.not_eq_true]
          exact fun e => heq (hfit.1 (HO.out.1 e _ (List.getElem_mem hkl)))
        have hzw := hb.size
        have rz3 := (hz.below hb (Nat.le_refl _)).more hzw
        have al := (Below.refl wr.heap.size wr).alloc (Nat.le_refl _) (.cells #[] 3)
        have b3a := hb.alloc hzw (.cells #[] 3)
        clear ho HF heq hfit hge q0 q1 hm0 ho1 hb
        go_wp2_with (at_builtin; go_must (refine wpList_append_row _ rfl _ _ 24 rfl w.heap.size 3 i0 (.int .i64 0) 1 8 Tryz.underlying24 hi hz0 hz1 hz2 rfl (by decide) _ 0 [] rfl (nil_own hzw _ _) wr.heap.size (some adz) zs.length c (ints zs) rfl (rz3.below al (Nat.le_refl _)) (by rw [ints_length]; omega) (by intro u hu; obtain ⟨x, _, rfl⟩ := List.mem_map.1 hu; rfl) (by have := hzl.out; unfold maxLen; omega) (by have := hzl.out; omega) (by simp; omega) ?_); intro v5 w5 hown hg)
        have b5 : Below w.heap.size w w5 := b3a.grown hg (by simp; omega) (fun j hj => by injection hj with hj; have e : wr.heap.size = j := hj; omega)
        have ho5 : OwnI w5 w.heap.size v5 zs := by
          unfold OwnI
          rw [Nat.zero_add, List.nil_append] at hown
          exact hown
        obtain ⟨A5, c5, rfl, -, -⟩ := ho5.form
        go_wp2_with fail
        go_ret2
        rw [F.out]
        exact ⟨A5, c5, rfl, ho5, b5⟩
    · have hk' : k = us.length := by omega
      subst hk'
      rw [List.take_length] at ho
      have F : Hid (ok = true) := by
        refine HO.out.2 (FitTo.all ?_)
        rw [lk_length]
        exact HF.out
      have HE := hid (setR_length (lk t us) zs)
      clear HF
      go_wp2
      go_ret2
      rw [F.out]
      refine ⟨some ⟨g, 0, none⟩, c4, ?_, ?_, hb⟩
      · show _ = Ending.returned (.tuple #[.slice _ (setR zs (lk t us)).length _, _])
        rw [HE.out]; rfl
      · show OwnI _ _ (.slice _ (setR zs (lk t us)).length _) (setR zs (lk t us))
        rw [HE.out]; exact ho
end Go.Proofs.YteaibflloeipaaaGreatDoor
/- Laws on coordinators: a coordinator is boxed. -/
/- On to the world behind D. -/
/- An exact law begins: the argument's box, its size, a copy for the model. -/
/- The program's own copy of the argument is boxed. -/
/- The program's copy is as the argument; the region draws. -/
/- Laws on functions that answer numbers. -/
/- What the boxes hold is read again. -/
/- The coordinator with the slices P4 and P5 is boxed as P6, in block P7, behind it the world P3; ahead of region P1. -/
/- The draw, the program's answer, the model's, and that they are the same: behind it w5, all facts on it by way of dx. -/
/-
  Walks: locks freed, and whose they are, by the model.
-/
namespace Go.Proofs.YteaibflloeipaaaGreatDoor
open Go.RowKit Wo Pu Rf Lk

theorem free_next {zs : List Int} {t : Int} {k : Nat} (h : k < zs.length) : freeL t (zs.take (k + 1)) = freeL t (zs.take k) ++ [free1 t zs[k]] := by
  unfold freeL
  rw [List.take_succ_eq_append_getElem h, List.map_append]
  rfl
set_option maxRecDepth 100000 in
set_option maxHeartbeats 4000000 in
theorem l12Free_any (A : Option Addr) (c : Nat) (zs : List Int) (t : Int) (w : World) (hz : Row w w.heap.size A (ints zs)) (hm : zs.length ≤ 1048600) :
    Calls Tryz.prog 130 #[.slice A zs.length c, .int .i64 t] w (IntsOf (freeL t zs) w) := by
  obtain ⟨i0, hi, hz0, hz1, hz2⟩ := info_of info_int
  have al := (Below.refl w.heap.size w).alloc (Nat.le_refl _) (.cells #[] 3)
  have on0 := OwnI.nil_new (w := w) (Nat.le_refl _)
  go_enter Tryz.func130, Tryz.ntmps130
  go_wp2_with fail
  go_loopw [5, 6] (fun q i wr => ∃ (k : Nat) (ys : List Int), k ≤ zs.length ∧ i = .int .i64 k ∧ Hid (ys.length = k) ∧ OwnI wr w.heap.size q ys ∧ Hid (freeL t (zs.take k) = ys) ∧ Below w.heap.size w wr) (fun _ i _ => zs.length - (intOf i).toNat)
  case atStart => exact ⟨0, [], Nat.zero_le _, rfl, rfl, on0, rfl, al⟩
  case round =>
    obtain ⟨k, ys, hk, rfl, HL, ho, H, hbr⟩ := hrel
    clear on0 al
    have hzw := hbr.size
    by_cases hlt : k < zs.length
    · obtain ⟨ad, rfl, hbl, hc⟩ := (hz.below hbr (Nat.le_refl _)).int_ hlt
      have q0 : (0 : Int) ≤ (k : Int) := by omega
      have q1 : (k : Int) < (zs.length : Int) := by omega
      have hnx := free_next (t := t) hlt
      rw [H.out] at hnx
      have HL1 : Hid (ys.length ≤ 1048600) := by show _ ≤ _; rw [HL.out]; omega
      have HL2 : Hid (∀ x : Int, (ys ++ [x]).length = k + 1) := fun x => by rw [List.length_append, HL.out]; rfl
      clear H
      by_cases hv : zs[k] = t
      · have e0 : (zs[k] == t) = true := by rw [beq_iff_eq]; exact hv
        have HN : Hid (freeL t (zs.take (k + 1)) = ys ++ [-1]) := by
          show _ = _
          rw [hnx]
          unfold free1
          rw [if_pos hv]
        clear hnx hv
        have oB : (wr.alloc (.cells #[.int .i64 (-1)] 3)).ownsRow w.heap.size 3 1 _ ys.length (ints ys) := World.ownsRow.alloc ho _
        have lt1 := World.ownsRow.lt oB
        go_wp2_with (at_builtin; go_must (refine wpList_append_own _ rfl _ _ 24 rfl w.heap.size 3 i0 (.int .i64 0) 1 8 Tryz.underlying24 hi hz0 hz1 hz2 rfl (by decide) _ ys.length (ints ys) rfl oB ⟨wr.heap.size, 0, none⟩ 1 1 [.int .i64 (-1)] rfl rfl (cell_one_new _ _ _) (one_int _) (by have := HL1.out; unfold maxLen; omega) (by have := HL1.out; omega) (by simp; omega) ?_); intro u9 w9 hown hg _)
        have o9 := OwnI.app hown
        have b9 : Below w.heap.size w w9 := hbr.trans (((Below.refl w.heap.size wr).alloc hzw _).grown hg (by simp; omega) (fun j hj => (lt1 j hj).1))
        clear hown hg oB lt1 ho hbr
        go_wp2
        go_roundw
        case rel => exact ⟨k + 1, ys ++ [(-1)], by omega, by go_num, HL2.out _, o9, HN, b9⟩
        case measure => simp [intOf]; omega
      · have e0 : (zs[k] == t) = false := by rw [beq_eq_false_iff_ne]; exact hv
        have HN : Hid (freeL t (zs.take (k + 1)) = ys ++ [zs[k]]) := by
          show _ = _
          rw [hnx]
          unfold free1
          rw [if_neg hv]
        obtain ⟨x, hx⟩ : ∃ x, zs[k] = x := ⟨_, rfl⟩
        rw [hx] at HN hc e0
        clear hnx hv hx
        have oB : (wr.alloc (.cells #[.int .i64 x] 3)).ownsRow w.heap.size 3 1 _ ys.length (ints ys) := World.ownsRow.alloc ho _
        have lt1 := World.ownsRow.lt oB
        go_wp2_with (at_builtin; go_must (refine wpList_append_own _ rfl _ _ 24 rfl w.heap.size 3 i0 (.int .i64 0) 1 8 Tryz.underlying24 hi hz0 hz1 hz2 rfl (by decide) _ ys.length (ints ys) rfl oB ⟨wr.heap.size, 0, none⟩ 1 1 [.int .i64 x] rfl rfl (cell_one_new _ _ _) (one_int _) (by have := HL1.out; unfold maxLen; omega) (by have := HL1.out; omega) (by simp; omega) ?_); intro u9 w9 hown hg _)
        have o9 := OwnI.app hown
        have b9 : Below w.heap.size w w9 := hbr.trans (((Below.refl w.heap.size wr).alloc hzw _).grown hg (by simp; omega) (fun j hj => (lt1 j hj).1))
        clear hown hg oB lt1 ho hbr
        go_wp2
        go_roundw
        case rel => exact ⟨k + 1, ys ++ [x], by omega, by go_num, HL2.out _, o9, HN, b9⟩
        case measure => simp [intOf]; omega
    · have hk' : k = zs.length := by omega
      subst hk'
      have HD : Hid (freeL t zs = ys) := by
        have := H.out
        rwa [List.take_length] at this
      clear H
      go_wp2
      go_ret
      rw [HD.out]
      exact .mk_ ho hbr
end Go.Proofs.YteaibflloeipaaaGreatDoor
namespace Go.Proofs.YteaibflloeipaaaGreatDoor
open Go.RowKit Wo Pu Rf Lk

end Go.Proofs.YteaibflloeipaaaGreatDoor
namespace Go.Proofs.YteaibflloeipaaaGreatDoor
open Go.RowKit Wo Pu Rf

/-- Drawn locks. -/
def LocksDrawn (R : Nat) (q : Int) (w : World) (e : Ending) (w' : World) : Prop := ∃ v zs, e = .returned v ∧ OwnI w' w.heap.size v zs ∧ zs.length ≤ 4 ∧ Rd w' R (q + 12) ∧ But R w w'
end Go.Proofs.YteaibflloeipaaaGreatDoor
namespace Go.Proofs.YteaibflloeipaaaGreatDoor
open Go.RowKit Wo Pu Rf

/-- Drawn locks and a transaction. -/
def LockTxn (w : World) (e : Ending) (w' : World) : Prop := ∃ A c zs t, e = .returned (.tuple #[.slice A zs.length c, .int .i64 t]) ∧ Row w' w'.heap.size A (ints zs) ∧ zs.length ≤ 4 ∧ -1 ≤ t ∧ t ≤ 12 ∧ Below w.heap.size w w'
/-- Drawn locks, a transaction and updates. -/
def LockUps (w : World) (e : Ending) (w' : World) : Prop := ∃ A c zs t A2 c2 us, e = .returned (.tuple #[.slice A zs.length c, .int .i64 t, .slice A2 us.length c2]) ∧ Row w' w'.heap.size A (ints zs) ∧ zs.length ≤ 4 ∧ -1 ≤ t ∧ t ≤ 12 ∧ Row w' w'.heap.size A2 (upsV us) ∧ us.length ≤ 4 ∧ Below w.heap.size w w'
theorem row_four (w : World) (t : TypeId) : Row (w.alloc (.cells #[.int .i64 (-1), .int .i64 (-1), .int .i64 (-1), .int .i64 (-1)] t)) (w.alloc (.cells #[.int .i64 (-1), .int .i64 (-1), .int .i64 (-1), .int .i64 (-1)] t)).heap.size (some ⟨w.heap.size, 0, none⟩) (ints [-1, -1, -1, -1]) := by
  refine .inr ⟨_, rfl, by simp, fun j u hu => ?_⟩
  rw [add_lit]
  have e := heap_alloc_new w (.cells #[.int .i64 (-1), .int .i64 (-1), .int .i64 (-1), .int .i64 (-1)] t)
  simp only [World.cell?, e]
  match j with
  | 0 => simp [ints] at hu; subst hu; simp
  | 1 => simp [ints] at hu; subst hu; simp
  | 2 => simp [ints] at hu; subst hu; simp
  | 3 => simp [ints] at hu; subst hu; simp
  | j + 4 => simp [ints] at hu
end Go.Proofs.YteaibflloeipaaaGreatDoor
namespace Go.Proofs.YteaibflloeipaaaGreatDoor
open Go.RowKit Wo Pu Rf Lk

theorem txnValid_is (b : Bool) (n : Int) (w : World) (hb : b = true ↔ TV n) : Calls Tryz.prog 41 #[.int .i64 n] w (Same (.bool b) w) := by
  have HB := hid hb
  clear hb
  by_cases h1 : 0 ≤ n
  · have e1 : decide (0 ≤ n) = true := decide_eq_true h1
    by_cases h2 : n < 12
    · have F := hid (HB.out.2 ⟨by omega, by omega⟩)
      have e2 : decide (n < 12) = true := decide_eq_true h2
      clear h1 h2
      go_enter Tryz.func41, Tryz.ntmps41
      go_wp2
      go_ret
      rw [F.out]
      exact ⟨rfl, rfl⟩
    · have F : Hid (b = false) := by
        show b = false
        rw [← Bool.not_eq_true]
        exact fun e => by have := (HB.out.1 e).2; omega
      have e2 : decide (n < 12) = false := decide_eq_false h2
      clear h1 h2
      go_enter Tryz.func41, Tryz.ntmps41
      go_wp2
      go_ret
      rw [F.out]
      exact ⟨rfl, rfl⟩
  · have F : Hid (b = false) := by
      show b = false
      rw [← Bool.not_eq_true]
      exact fun e => by have := (HB.out.1 e).1; omega
    have e1 : decide (0 ≤ n) = false := decide_eq_false h1
    clear h1
    go_enter Tryz.func41, Tryz.ntmps41
    go_wp2
    go_ret
    rw [F.out]
    exact ⟨rfl, rfl⟩
set_option maxHeartbeats 4000000 in
theorem implLocksValid_same (b : Bool) (A : Option Addr) (c : Nat) (zs : List Int) (w : World) (B : Nat) (hr : Row w B A (ints zs)) (hm : zs.length ≤ 1048600) (hb : b = true ↔ LV zs) :
    Calls Tryz.prog 161 #[.slice A zs.length c] w (Same (.bool b) w) := by
  have HB := hid hb
  clear hb
  by_cases h4 : zs.length = 4
  · have H4 := hid h4
    have e0 : ((zs.length : Int) != 4) = false := by rw [bne_eq_false_iff_eq]; omega
    clear h4
    go_enter Tryz.func161, Tryz.ntmps161
    go_wp2_with fail
    go_loop [10] (fun i => ∃ k : Nat, k ≤ zs.length ∧ i = .int .i64 k ∧ Hid (OwnTo zs k)) (fun i => zs.length - (intOf i).toNat)
    case atStart => exact ⟨0, Nat.zero_le _, rfl, .zero zs⟩
    case round =>
      obtain ⟨k, hk, rfl, H⟩ := hrel
      by_cases hlt : k < zs.length
      · obtain ⟨ad, rfl, hbl, hc⟩ := hr.int_ hlt
        have q0 : (0 : Int) ≤ (k : Int) := by omega
        have q1 : (k : Int) < (zs.length : Int) := by omega
        by_cases hv : zs[k] = -1
        · have e1 : (zs[k] != -1) = false := by rw [bne_eq_false_iff_eq]; exact hv
          have HN := hid (H.out.next hlt (by rw [hv]; unfold Lk.Own; omega))
          clear H hv
          go_wp2_with fail
          go_round
          case rel => exact ⟨k + 1, by omega, by go_num, HN⟩
          case measure => simp [intOf]; omega
        · have e1 : (zs[k] != -1) = true := by rw [bne_iff_ne]; exact hv
          obtain ⟨v, hv2⟩ := bool_of (TV zs[k])
          have CV : Hid (∀ x, Calls Tryz.prog 41 #[.int .i64 zs[k]] x (Same (.bool v) x)) := fun x => txnValid_is v _ x hv2
          cases v with
          | true =>
            have HN := hid (H.out.next hlt (by have := hv2.1 rfl; unfold TV at this; unfold Lk.Own; omega))
            clear H hv hv2
            go_wp2_with (go_at_call 41; refine (CV.out _).mono ?_; rintro e w' ⟨rfl, rfl⟩)
            go_round
            case rel => exact ⟨k + 1, by omega, by go_num, HN⟩
            case measure => simp [intOf]; omega
          | false =>
            have F : Hid (b = false) := by
              show b = false
              rw [← Bool.not_eq_true]
              intro e
              have h1 := (HB.out.1 e).2 _ (List.getElem_mem hlt)
              unfold Lk.Own at h1
              have h2 := hv2.2 ⟨by omega, by omega⟩
              cases h2
            clear H hv hv2
            go_wp2_with (go_at_call 41; refine (CV.out _).mono ?_; rintro e w' ⟨rfl, rfl⟩)
            go_ret
            rw [F.out]
            exact ⟨rfl, rfl⟩
      · have hk' : k = zs.length := by omega
        subst hk'
        have F := hid (HB.out.2 ⟨H4.out, H.out.all⟩)
        clear H
        go_wp2
        go_ret
        rw [F.out]
        exact ⟨rfl, rfl⟩
  · have F : Hid (b = false) := by
      show b = false
      rw [← Bool.not_eq_true]
      exact fun e => h4 (HB.out.1 e).1
    have e0 : ((zs.length : Int) != 4) = true := by rw [bne_iff_ne]; omega
    clear h4
    go_enter Tryz.func161, Tryz.ntmps161
    go_wp2
    go_ret
    rw [F.out]
    exact ⟨rfl, rfl⟩
theorem implLocksValid_is (b : Bool) (A : Option Addr) (c : Nat) (zs : List Int) (w : World) (B : Nat) (hr : Row w B A (ints zs)) (hm : zs.length ≤ 1048600) (hb : b = true ↔ LV zs) :
    Calls Tryz.prog 161 #[.slice A zs.length c] w (Ret (.bool b) w) :=
  (implLocksValid_same b A c zs w B hr hm hb).mono fun _ _ ⟨he, hw⟩ => by subst hw; exact ⟨he, Below.refl _ _⟩

/-! ### Whose. -/
theorem of_next' {zs : List Int} {t : Int} {k : Nat} (h : k < zs.length) : ofL 0 t (zs.take (k + 1)) = ofL 0 t (zs.take k) ++ (if zs[k] = t then [(k : Int)] else []) := by
  rw [List.take_succ_eq_append_getElem h, ofL_snoc, List.length_take, Nat.min_eq_left (Nat.le_of_lt h), Int.zero_add]
set_option maxRecDepth 100000 in
set_option maxHeartbeats 4000000 in
theorem lockedRefs_is (A : Option Addr) (c : Nat) (zs : List Int) (t : Int) (w : World) (hz : Row w w.heap.size A (ints zs)) (h4 : zs.length = 4) :
    Calls Tryz.prog 164 #[.slice A zs.length c, .int .i64 t] w (IntsOf (ofL 0 t zs) w) := by
  obtain ⟨i0, hi, hz0, hz1, hz2⟩ := info_of info_int
  have al := (Below.refl w.heap.size w).alloc (Nat.le_refl _) (.cells #[] 3)
  have on0 := OwnI.nil_new (w := w) (Nat.le_refl _)
  have H4 := hid h4
  have hm : zs.length ≤ 1048600 := by omega
  clear h4
  go_enter Tryz.func164, Tryz.ntmps164
  go_wp2_with fail
  go_loopw [5, 11] (fun q i wr => ∃ (k : Nat) (ys : List Int), k ≤ zs.length ∧ i = .int .i64 k ∧ Hid (ys.length ≤ k) ∧ OwnI wr w.heap.size q ys ∧ Hid (ofL 0 t (zs.take k) = ys) ∧ Below w.heap.size w wr) (fun _ i _ => zs.length - (intOf i).toNat)
  case atStart => exact ⟨0, [], Nat.zero_le _, rfl, Nat.le_refl _, on0, rfl, al⟩
  case round =>
    obtain ⟨k, ys, hk, rfl, HL, ho, H, hbr⟩ := hrel
    clear on0 al
    have hzw := hbr.size
    have rz := (hz.below hbr (Nat.le_refl _)).more hzw
    have HL1 : Hid (ys.length ≤ 10) := by show _ ≤ _; have := HL.out; have := H4.out; omega
    by_cases hlt : k < zs.length
    · obtain ⟨ad, rfl, hbl, hc⟩ := rz.int_ hlt
      have q0 : (0 : Int) ≤ (k : Int) := by omega
      have q1 : (k : Int) < (zs.length : Int) := by omega
      have hnx := of_next' (t := t) hlt
      rw [H.out] at hnx
      clear H
      by_cases hv : zs[k] = t
      · have e0 : (zs[k] == t) = true := by rw [beq_iff_eq]; exact hv
        rw [if_pos hv] at hnx
        have HN := hid hnx
        have HL2 : Hid ((ys ++ [(k : Int)]).length ≤ k + 1) := by show _ ≤ _; rw [List.length_append]; have := HL.out; simp; omega
        clear hnx hv HL
        have oB : (wr.alloc (.cells #[.int .i64 (k : Int)] 3)).ownsRow w.heap.size 3 1 _ ys.length (ints ys) := World.ownsRow.alloc ho _
        have lt1 := World.ownsRow.lt oB
        go_wp2_with (at_builtin; go_must (refine wpList_append_own _ rfl _ _ 24 rfl w.heap.size 3 i0 (.int .i64 0) 1 8 Tryz.underlying24 hi hz0 hz1 hz2 rfl (by decide) _ ys.length (ints ys) rfl oB ⟨wr.heap.size, 0, none⟩ 1 1 [.int .i64 (k : Int)] rfl rfl (cell_one_new _ _ _) (one_int _) (by have := HL1.out; unfold maxLen; omega) (by have := HL1.out; omega) (by simp; omega) ?_); intro u9 w9 hown hg _)
        have o9 := OwnI.app hown
        have b9 : Below w.heap.size w w9 := hbr.trans (((Below.refl w.heap.size wr).alloc hzw _).grown hg (by simp; omega) (fun j hj => (lt1 j hj).1))
        clear hown hg oB lt1 ho hbr
        go_wp2
        go_roundw
        case rel => exact ⟨k + 1, ys ++ [(k : Int)], by omega, by go_num, HL2, o9, HN, b9⟩
        case measure => simp [intOf]; omega
      · have e0 : (zs[k] == t) = false := by rw [beq_eq_false_iff_ne]; exact hv
        rw [if_neg hv, List.append_nil] at hnx
        have HN := hid hnx
        have HL2 : Hid (ys.length ≤ k + 1) := by show _ ≤ _; have := HL.out; omega
        clear hnx hv HL
        go_wp2_with fail
        go_roundw
        case rel => exact ⟨k + 1, ys, by omega, by go_num, HL2, ho, HN, hbr⟩
        case measure => simp [intOf]; omega
    · have hk' : k = zs.length := by omega
      subst hk'
      have HD : Hid (ofL 0 t zs = ys) := by
        have := H.out
        rwa [List.take_length] at this
      clear H
      go_wp2
      go_ret
      rw [HD.out]
      exact .mk_ ho hbr
/-! ### Freed. -/
/-- -1 at each of hs. -/
def setM (zs : List Int) (hs : List Int) : List Int := hs.foldl (fun z r => z.set r.toNat (-1)) zs
theorem setM_length (hs : List Int) : ∀ zs, (setM zs hs).length = zs.length := by
  induction hs with
  | nil => intro zs; rfl
  | cons h hs ih => intro zs; exact (ih (zs.set h.toNat (-1))).trans (List.length_set ..)
theorem setM_snoc (zs hs : List Int) (r : Int) : setM zs (hs ++ [r]) = (setM zs hs).set r.toNat (-1) := by unfold setM; rw [List.foldl_append]; rfl
theorem setM_get (hs : List Int) : ∀ (zs : List Int) (i : Nat), (setM zs hs)[i]? = if ∃ r ∈ hs, r.toNat = i then zs[i]?.map (fun _ => -1) else zs[i]? := by
  induction hs with
  | nil => intro zs i; simp [setM]
  | cons h hs ih =>
    intro zs i
    show (setM (zs.set h.toNat (-1)) hs)[i]? = _
    rw [ih, List.getElem?_set]
    by_cases e : h.toNat = i
    · subst e
      rw [if_pos rfl, if_pos (c := ∃ r ∈ h :: hs, r.toNat = h.toNat) ⟨h, List.mem_cons_self .., rfl⟩]
      by_cases hl : h.toNat < zs.length
      · simp [hl]
      · simp [hl]
    · rw [if_neg e]
      by_cases hx : ∃ r ∈ hs, r.toNat = i
      · obtain ⟨r, hr, er⟩ := hx
        rw [if_pos ⟨r, hr, er⟩, if_pos ⟨r, List.mem_cons_of_mem _ hr, er⟩]
      · rw [if_neg hx, if_neg]
        rintro ⟨r, hr, er⟩
        rcases List.mem_cons.1 hr with rfl | hr
        · exact e er
        · exact hx ⟨r, hr, er⟩
theorem setM_free (zs : List Int) (t : Int) : setM zs (ofL 0 t zs) = freeL t zs := by
  apply List.ext_getElem?
  intro i
  rw [setM_get]
  unfold freeL
  rw [List.getElem?_map]
  by_cases hi : i < zs.length
  · rw [List.getElem?_eq_getElem hi]
    simp only [Option.map_some]
    by_cases e : zs[i] = t
    · rw [if_pos ⟨(i : Int), (ofL_at hi).2 e, by simp⟩]
      unfold free1
      rw [if_pos e]
    · rw [if_neg]
      · unfold free1
        rw [if_neg e]
      · rintro ⟨r, hr, er⟩
        obtain ⟨j, hj, hj2⟩ := (ofL_mem t r zs 0).1 hr
        obtain rfl : j = i := by omega
        rw [List.getElem?_eq_getElem hi] at hj2
        injection hj2 with hj2
        exact e hj2
  · rw [List.getElem?_eq_none (by omega)]
    simp
theorem ofL_range {t : Int} {zs : List Int} {r : Int} (h : r ∈ ofL 0 t zs) : ∃ m : Nat, r = m ∧ m < zs.length := by
  obtain ⟨j, hj, hj2⟩ := (ofL_mem t r zs 0).1 h
  refine ⟨j, by omega, ?_⟩
  rcases Nat.lt_or_ge j zs.length with h1 | h1
  · exact h1
  · rw [List.getElem?_eq_none h1] at hj2; cases hj2
set_option maxRecDepth 100000 in
set_option maxHeartbeats 8000000 in
theorem implLocksFree_is (v b : Bool) (qs : List Int) (A : Option Addr) (c : Nat) (zs : List Int) (t : Int) (w : World) (hz : Row w w.heap.size A (ints zs)) (hm : zs.length ≤ 1048600) (hv : v = true ↔ LV zs ∧ TV t) (hb : b = true ↔ v = true ∧ t ∈ zs) (hq : freed v zs t = qs) :
    Calls Tryz.prog 155 #[.slice A zs.length c, .int .i64 t] w (Took qs b w) := by
  obtain ⟨vz, hvz⟩ := bool_of (LV zs)
  obtain ⟨vt, hvt⟩ := bool_of (TV t)
  have CZ : Hid (∀ x, Row x x.heap.size A (ints zs) → Calls Tryz.prog 161 #[.slice A zs.length c] x (Same (.bool vz) x)) := fun x h => implLocksValid_same vz A c zs x _ h hm hvz
  have CT : Hid (∀ x, Calls Tryz.prog 41 #[.int .i64 t] x (Same (.bool vt) x)) := fun x => txnValid_is vt t x hvt
  have hvv : v = (vz && vt) := by rw [Bool.eq_iff_iff, hv, Bool.and_eq_true, hvz, hvt]
  have no : (vz && vt) = false → b = false ∧ qs = [] := fun e => by
    rw [e] at hvv
    subst hvv
    refine ⟨?_, by rw [← hq]; rfl⟩
    rw [← Bool.not_eq_true]
    exact fun e2 => by have := (hb.1 e2).1; cases this
  cases vz with
  | false =>
    obtain ⟨rfl, rfl⟩ := no rfl
    clear hvz hvt hv hb hq hvv no
    go_enter Tryz.func155, Tryz.ntmps155
    go_wp2_with fail
    refine (CZ.out _ hz).mono ?_
    rintro e w1 ⟨rfl, rfl⟩
    go_wp2_with fail
    go_ret2
    exact ⟨_, _, rfl, OwnI.nil_new (Nat.le_refl _), (Below.refl _ _).alloc (Nat.le_refl _) _⟩
  | true =>
    cases vt with
    | false =>
      obtain ⟨rfl, rfl⟩ := no rfl
      clear hvz hvt hv hb hq hvv no
      go_enter Tryz.func155, Tryz.ntmps155
      go_wp2_with fail
      refine (CZ.out _ hz).mono ?_
      rintro e w1 ⟨rfl, rfl⟩
      go_wp2_with fail
      refine (CT.out _).mono ?_
      rintro e w1 ⟨rfl, rfl⟩
      go_wp2_with fail
      go_ret2
      exact ⟨_, _, rfl, OwnI.nil_new (Nat.le_refl _), (Below.refl _ _).alloc (Nat.le_refl _) _⟩
    | true =>
      obtain rfl : v = true := hvv
      have h4 := (hvz.1 rfl).1
      obtain ⟨hs, hhs⟩ : ∃ hs, ofL 0 t zs = hs := ⟨_, rfl⟩
      have HM : Hid (setM zs hs = qs) := by
        show _ = _
        rw [← hhs, setM_free, ← hq]
        rfl
      have HQL : Hid (qs.length = zs.length) := by show _ = _; rw [← HM.out]; exact setM_length _ _
      have HHL : Hid (hs.length ≤ 4) := by show _ ≤ _; rw [← hhs, ← h4]; exact ofL_le t zs 0
      have HR : Hid (∀ r ∈ hs, ∃ m : Nat, r = m ∧ m < zs.length) := fun r h => ofL_range (by rw [hhs]; exact h)
      have HBB : Hid (b = true ↔ 0 < hs.length) := by
        show _ ↔ _
        rw [hb]
        have := ofL_none t zs
        rw [hhs] at this
        constructor
        · rintro ⟨-, e⟩
          rcases Nat.eq_zero_or_pos hs.length with h0 | h0
          · exact absurd e (this.1 h0)
          · exact h0
        · intro e
          refine ⟨rfl, ?_⟩
          rcases Classical.em (t ∈ zs) with h0 | h0
          · exact h0
          · have := this.2 h0; omega
      have CL : Hid (∀ x, Row x x.heap.size A (ints zs) → Calls Tryz.prog 164 #[.slice A zs.length c, .int .i64 t] x (IntsOf hs x)) := fun x h => by
        rw [← hhs]
        exact lockedRefs_is A c zs t x h h4
      have CN : Hid (∀ x, Row x x.heap.size A (ints zs) → Calls Tryz.prog 43 #[.slice A zs.length c] x (IntsOf zs x)) := fun x h => copyNumbers_of A c zs.length zs x h rfl (by omega)
      have H4 := hid h4
      have hhl : hs.length ≤ 1048600 := by have := HHL.out; omega
      clear hvz hvt hv hb hq no hhs h4
      go_enter Tryz.func155, Tryz.ntmps155
      go_wp2_with fail
      refine (CZ.out _ hz).mono ?_
      rintro e w1 ⟨rfl, rfl⟩
      go_wp2_with fail
      refine (CT.out _).mono ?_
      rintro e w1 ⟨rfl, rfl⟩
      go_wp2_with fail
      refine (CN.out _ hz).mono ?_
      rintro e w2 ⟨A2, c2, rfl, o2, b2⟩
      obtain ⟨g, c4, hgc, hg1, hg2⟩ := o2.at (by rw [H4.out]; omega)
      injection hgc with e1 e2 e3
      subst e1
      subst e3
      clear e2
      have r2 := (hz.below b2 (Nat.le_refl _)).more b2.size
      clear CZ CT CN
      go_wp2_with fail
      refine (CL.out _ r2).mono ?_
      rintro e w3 ⟨A3, c3, rfl, o3, b3⟩
      have b33 := b2.trans (b3.mono b2.size)
      have o23 := o2.below b3 (Nat.le_refl _)
      have z2 := b2.size
      clear CL r2 b3 o2
      go_wp2_with fail
      go_loopw [26] (fun i wr => ∃ k : Nat, k ≤ hs.length ∧ i = .int .i64 k ∧ OwnI wr w.heap.size (.slice (some ⟨g, 0, none⟩) zs.length c2) (setM zs (hs.take k)) ∧ OwnI wr w2.heap.size (.slice A3 hs.length c3) hs ∧ Below w.heap.size w wr) (fun i _ => hs.length - (intOf i).toNat)
      case atStart => exact ⟨0, Nat.zero_le _, rfl, (by rw [List.take_zero]; exact o23), o3, b33⟩
      case round =>
        obtain ⟨k, hk, rfl, ho, hh, hbr⟩ := hrel
        clear o23 o3 b33
        by_cases hlt : k < hs.length
        · obtain ⟨ad, rfl, hbl, hc⟩ := hh.row.int_ hlt
          have q0 : (0 : Int) ≤ (k : Int) := by omega
          have q1 : (k : Int) < (hs.length : Int) := by omega
          obtain ⟨m, hm0, hmz⟩ := HR.out _ (List.getElem_mem hlt)
          rw [hm0] at hc
          have k2 : (0 : Int) ≤ (m : Int) := by omega
          have k3 : (m : Int) < (zs.length : Int) := by omega
          have hsl := setM_length (hs.take k) zs
          have ho' : OwnI wr w.heap.size (.slice (some ⟨g, 0, none⟩) (setM zs (hs.take k)).length c2) (setM zs (hs.take k)) := by rw [hsl]; exact ho
          have hmz' : m < (setM zs (hs.take k)).length := by rw [hsl]; exact hmz
          have y0 := ho'.cell hmz'
          have f0 := World.ownsRow.frozenAt ho' m
          have ho2 := ho'.set m (-1)
          have hb2 := hbr.setCell (p := ⟨g, m, none⟩) hg1 (.int .i64 (-1))
          have hh2 := hh.but (but_set wr g m (.int .i64 (-1))) hg2
          have hst : setM zs (hs.take (k + 1)) = (setM zs (hs.take k)).set m (-1) := by
            rw [List.take_succ_eq_append_getElem hlt, setM_snoc, hm0, Int.toNat_natCast]
          have hl2 : ((setM zs (hs.take k)).set m (-1)).length = zs.length := by rw [List.length_set, hsl]
          rw [← hst] at ho2 hl2
          rw [hl2] at ho2
          clear ho ho' hbr hst hl2 hsl hm0 hh
          go_wp2
          go_roundw
          case rel => exact ⟨k + 1, by omega, by go_num, ho2, hh2, hb2⟩
          case measure => simp [intOf]; omega
        · have hk' : k = hs.length := by omega
          subst hk'
          rw [List.take_length, HM.out] at ho
          by_cases h0 : 0 < hs.length
          · have F := hid (HBB.out.2 h0)
            have e0 : decide (0 < (hs.length : Int)) = true := decide_eq_true (by omega)
            have e1 : decide (0 < hs.length) = true := decide_eq_true h0
            go_wp2
            go_ret2
            rw [F.out]
            exact ⟨_, _, by rw [HQL.out]; rfl, by rw [HQL.out]; exact ho, hbr⟩
          · have F : Hid (b = false) := by
              show b = false
              rw [← Bool.not_eq_true]
              exact fun e => h0 (HBB.out.1 e)
            have e0 : decide (0 < (hs.length : Int)) = false := decide_eq_false (by omega)
            have e1 : decide (0 < hs.length) = false := decide_eq_false h0
            clear h0
            go_wp2
            go_ret2
            rw [F.out]
            exact ⟨_, _, by rw [HQL.out]; rfl, by rw [HQL.out]; exact ho, hbr⟩
end Go.Proofs.YteaibflloeipaaaGreatDoor
namespace Go.Proofs.YteaibflloeipaaaGreatDoor
section
open Go.RowKit Go.Extern.Stop Go.Stop Go.Extern

theorem is_TypeOf (v : Value) (w : World) : (Extern.ReflectliteType.typeOf #[.iface 248 v]).run Tryz.prog w = .ok (.iface 238 (.agg #[.pointer (some ⟨2, 248, none⟩)])) w := by kernel_rfl
theorem is_Comparable (w : World) : ((Extern.ReflectliteType.method fun t => do Extern.Rtype.noPackHeld "Comparable" t; pure (.bool (← typeInfo t).comparable)) #[.agg #[.pointer (some ⟨2, 248, none⟩)]]).run Tryz.prog w = .ok (.bool true) w := by kernel_rfl
theorem is_callComparable (w : World) : (callFunc 190 #[.agg #[.pointer (some ⟨2, 248, none⟩)]]).run Tryz.prog w = .ok (.value (.bool true)) w := by
  have h := @run_callFunc_extern Tryz.prog 190 _ (Extern.ReflectliteType.method fun t => do Extern.Rtype.noPackHeld "Comparable" t; pure (.bool (← typeInfo t).comparable)) Tryz.func190 (by kernel_rfl) (by kernel_rfl) (by kernel_rfl) (by kernel_rfl)
  rw [h, is_Comparable]
  rfl
theorem is_MethodComparable (v : Value) (w : World) : (Go.method 387 238 v "Comparable").run Tryz.prog w = .ok (190, v) w := by kernel_rfl
theorem is_Comp : (Tryz.prog.info? 248).map (·.comparable) = some true := by kernel_rfl
theorem is_Size : (Tryz.prog.info? 275).map (·.size) = some 1 := by kernel_rfl
theorem is_noIs (v : Value) (xT : TypeId) (w : World) : (Instr.typeAssert (.iface 248 v) xT 240 true).run Tryz.prog w = .ok (.tuple #[.nilIface, .bool false]) w := run_typeAssert_lacksB Tryz.underlying240 (by kernel_rfl) (by kernel_rfl) v xT w
theorem is_noUnwrap (v : Value) (xT : TypeId) (w : World) : (Instr.typeAssert (.iface 248 v) xT 243 true).run Tryz.prog w = .ok (.tuple #[.nilIface, .bool false]) w := run_typeAssert_lacksB Tryz.underlying243 (by kernel_rfl) (by kernel_rfl) v xT w
theorem is_noUnwraps (v : Value) (xT : TypeId) (w : World) : (Instr.typeAssert (.iface 248 v) xT 245 true).run Tryz.prog w = .ok (.tuple #[.nilIface, .bool false]) w := run_typeAssert_lacksB Tryz.underlying245 (by kernel_rfl) (by kernel_rfl) v xT w

theorem is_same (a : Addr) (w : World) :
    Calls Tryz.prog 154 #[.iface 248 (.pointer (some a)), .iface 248 (.pointer (some a))] w fun e w' => e = .returned (.bool true) ∧ w' = w := by
  obtain ⟨i, hi, hcmp⟩ := Option.map_eq_some_iff.1 is_Comp
  obtain ⟨j, hj, hjs⟩ := Option.map_eq_some_iff.1 is_Size
  have h8 := @run_callFunc_extern Tryz.prog 162 _ Extern.ReflectliteType.typeOf Tryz.func162 (by kernel_rfl) (by kernel_rfl) (by kernel_rfl) (by kernel_rfl)
  have h32 := is_callComparable
  have tT := is_TypeOf
  have mR := is_MethodComparable
  have heq := run_eql_iface_ptr_same (P := Tryz.prog) w a Tryz.underlying222 Tryz.underlying248 hi hcmp hj
  go_enter Tryz.func154, Tryz.ntmps154
  go_wp2
  refine wp_loop_rounds 1 ?_
  rw [rounds_succ]
  go_wp2
  go_ret
  exact ⟨rfl, rfl⟩

theorem is_nil (b : Addr) (w : World) :
    Calls Tryz.prog 154 #[.nilIface, .iface 248 (.pointer (some b))] w fun e w' => e = .returned (.bool false) ∧ w' = w := by
  have hn := run_eql_iface_nil_left (P := Tryz.prog) w 248 (.pointer (some b)) Tryz.underlying222
  go_enter Tryz.func154, Tryz.ntmps154
  go_wp2
  go_ret
  exact ⟨rfl, rfl⟩

theorem is_other (a b : Addr) (ca cb : Array Value) (ta tb : TypeId) (w : World) (hne : a ≠ b) (ha : w.heap[a.block]? = some (.cells ca ta (0, 0))) (hb : w.heap[b.block]? = some (.cells cb tb (0, 0))) :
    Calls Tryz.prog 154 #[.iface 248 (.pointer (some a)), .iface 248 (.pointer (some b))] w fun e w' => e = .returned (.bool false) ∧ w' = w := by
  obtain ⟨i, hi, hcmp⟩ := Option.map_eq_some_iff.1 is_Comp
  obtain ⟨j, hj, hjs⟩ := Option.map_eq_some_iff.1 is_Size
  have h8 := @run_callFunc_extern Tryz.prog 162 _ Extern.ReflectliteType.typeOf Tryz.func162 (by kernel_rfl) (by kernel_rfl) (by kernel_rfl) (by kernel_rfl)
  have h32 := is_callComparable
  have tT := is_TypeOf
  have mR := is_MethodComparable
  have nE := is_noIs
  have uE := is_noUnwrap
  have vE := is_noUnwraps
  have heq := run_eql_iface_ptr_other (P := Tryz.prog) w Tryz.underlying222 Tryz.underlying248 hi hcmp hj (by rw [hjs]; decide) hne ha hb
  go_enter Tryz.func154, Tryz.ntmps154
  go_wp2
  refine wp_loop_rounds 1 ?_
  rw [rounds_succ]
  go_wp2
  go_ret
  exact ⟨rfl, rfl⟩
end
end Go.Proofs.YteaibflloeipaaaGreatDoor
namespace Go.Proofs.YteaibflloeipaaaGreatDoor
open Go.RowKit Wo Pu Rf Lk

/-- The two error values lie as they were laid: a0 that of a locked ref, a1 that of invalid arguments. -/
structure Errs (a0 a1 : Addr) (w : World) : Prop where
  locked : w.cell? ⟨0, 0, none⟩ = some (.iface 248 (.pointer (some a0)))
  invalid : w.cell? ⟨1, 0, none⟩ = some (.iface 248 (.pointer (some a1)))
  ne : a0 ≠ a1
  row0 : ∃ c t, w.heap[a0.block]? = some (.cells c t (0, 0))
  row1 : ∃ c t, w.heap[a1.block]? = some (.cells c t (0, 0))
theorem lt_of_heap {w : World} {k : Nat} {o : Obj} (h : w.heap[k]? = some o) : k < w.heap.size := by
  rcases Nat.lt_or_ge k w.heap.size with h1 | h1
  · exact h1
  · rw [Array.getElem?_eq_none h1] at h; cases h
theorem Errs.below {a0 a1 : Addr} {w w' : World} (h : Errs a0 a1 w) (hb : Below w.heap.size w w') : Errs a0 a1 w' := by
  obtain ⟨h1, h2, h3, ⟨c0, t0, h4⟩, ⟨c1, t1, h5⟩⟩ := h
  refine ⟨?_, ?_, h3, ⟨c0, t0, (hb.block _ (lt_of_heap h4)).trans h4⟩, ⟨c1, t1, (hb.block _ (lt_of_heap h5)).trans h5⟩⟩
  · exact (hb.cell (block_lt_of_cell h1)).trans h1
  · exact (hb.cell (block_lt_of_cell h2)).trans h2

/-- What takeLocks answers. -/
def TakeAns (a0 a1 : Addr) (zs : List Int) (t : Int) (us : List Up) (y : RWay) (w : World) (e : Ending) (w' : World) : Prop :=
  Below w.heap.size w w' ∧ match y with
  | .bad => e = .returned (.tuple #[.slice none 0 0, .iface 248 (.pointer (some a1))])
  | .no => e = .returned (.tuple #[.slice none 0 0, .iface 248 (.pointer (some a0))])
  | .yes => ∃ A c, e = .returned (.tuple #[.slice A zs.length c, .nilIface]) ∧ OwnI w' w.heap.size (.slice A zs.length c) (setR zs (lk t us))
set_option maxRecDepth 100000 in
set_option maxHeartbeats 8000000 in
theorem takeLocks_is (y : RWay) (a0 a1 : Addr) (A A2 : Option Addr) (c c2 : Nat) (zs : List Int) (t : Int) (us : List Up) (w : World) (hE : Errs a0 a1 w) (hz : Row w w.heap.size A (ints zs)) (hu : Row w w.heap.size A2 (upsV us)) (hmz : zs.length ≤ 1048600) (hm : us.length ≤ 1048600) (hy : IsLWay zs t us y) :
    Calls Tryz.prog 153 #[.slice A zs.length c, .int .i64 t, .slice A2 us.length c2] w (TakeAns a0 a1 zs t us y w) := by
  obtain ⟨vz, hvz⟩ := bool_of (LV zs)
  obtain ⟨vt, hvt⟩ := bool_of (TV t)
  obtain ⟨vu, hvu⟩ := bool_of (UV us)
  have CZ : Hid (∀ x, Row x x.heap.size A (ints zs) → Calls Tryz.prog 161 #[.slice A zs.length c] x (Same (.bool vz) x)) := fun x h => implLocksValid_same vz A c zs x _ h hmz hvz
  have CT : Hid (∀ x, Calls Tryz.prog 41 #[.int .i64 t] x (Same (.bool vt) x)) := fun x => txnValid_is vt t x hvt
  have CU : Hid (∀ x, Row x x.heap.size A2 (upsV us) → Calls Tryz.prog 110 #[.slice A2 us.length c2] x (Ret (.bool vu) x)) := fun x h => implUpdatesValid_is vu A2 c2 us x h hm hvu
  have bad : (vz && vt && vu) = false → y = .bad := fun e => by
    have nn : ¬ (LV zs ∧ TV t ∧ UV us) := by
      rintro ⟨g1, g2, g3⟩
      rw [hvz.2 g1, hvt.2 g2, hvu.2 g3] at e
      cases e
    cases y with
    | bad => rfl
    | no => exact absurd ⟨hy.1, hy.2.1, hy.2.2.1⟩ nn
    | yes => exact absurd ⟨hy.1, hy.2.1, hy.2.2.1⟩ nn
  have ye := hE.invalid
  cases vz with
  | false =>
    obtain rfl := bad rfl
    clear hvz hvt hvu hy bad hE
    go_enter Tryz.func153, Tryz.ntmps153
    go_wp2_with fail
    refine (CZ.out _ hz).mono ?_
    rintro e w1 ⟨rfl, rfl⟩
    go_wp2_with fail
    go_quiet (fail)
    go_wp2
    go_ret2
    exact ⟨Wo.Below.drewN (Below.refl _ _) _, rfl⟩
  | true =>
    cases vt with
    | false =>
      obtain rfl := bad rfl
      clear hvz hvt hvu hy bad hE
      go_enter Tryz.func153, Tryz.ntmps153
      go_wp2_with fail
      refine (CZ.out _ hz).mono ?_
      rintro e w1 ⟨rfl, rfl⟩
      go_wp2_with fail
      refine (CT.out _).mono ?_
      rintro e w1 ⟨rfl, rfl⟩
      go_wp2_with fail
      go_quiet (fail)
      go_wp2
      go_ret2
      exact ⟨Wo.Below.drewN (Below.refl _ _) _, rfl⟩
    | true =>
      cases vu with
      | false =>
        obtain rfl := bad rfl
        clear hvz hvt hvu hy bad ye
        go_enter Tryz.func153, Tryz.ntmps153
        go_wp2_with fail
        refine (CZ.out _ hz).mono ?_
        rintro e w1 ⟨rfl, rfl⟩
        go_wp2_with fail
        refine (CT.out _).mono ?_
        rintro e w1 ⟨rfl, rfl⟩
        go_wp2_with fail
        refine (CU.out _ hu).mono ?_
        rintro e w2 ⟨rfl, b2⟩
        have ye := (hE.below b2).invalid
        clear hE
        go_wp2_with fail
        go_quiet (fail)
        go_wp2
        go_ret2
        exact ⟨Wo.Below.drewN b2 _, rfl⟩
      | true =>
        have lv := hvz.1 rfl
        have tv := hvt.1 rfl
        have uv := hvu.1 rfl
        have hr := refs4_of uv
        have H4 := hid lv.1
        have HF : Hid (Fits zs (lk t us) ↔ y = .yes) := by
          show _ ↔ _
          cases y with
          | bad => exact absurd ⟨lv, tv, uv⟩ hy
          | no => exact ⟨fun e => absurd e hy.2.2.2, fun e => by cases e⟩
          | yes => exact ⟨fun _ => rfl, fun _ => hy.2.2.2⟩
        have HNB : Hid (y ≠ .bad) := by
          show _ ≠ _
          rintro rfl
          exact hy ⟨lv, tv, uv⟩
        have CN : Hid (∀ x, Row x x.heap.size A (ints zs) → Calls Tryz.prog 43 #[.slice A zs.length c] x (IntsOf zs x)) := fun x h => copyNumbers_of A c zs.length zs x h rfl (by have := H4.out; omega)
        clear hvz hvt hvu hy bad lv tv uv ye
        go_enter Tryz.func153, Tryz.ntmps153
        go_wp2_with fail
        refine (CZ.out _ hz).mono ?_
        rintro e w1 ⟨rfl, rfl⟩
        go_wp2_with fail
        refine (CT.out _).mono ?_
        rintro e w1 ⟨rfl, rfl⟩
        go_wp2_with fail
        refine (CU.out _ hu).mono ?_
        rintro e w2 ⟨rfl, b2⟩
        have HE0 := hid hE
        have r2 := (hz.below b2 (Nat.le_refl _)).more b2.size
        clear hE
        go_wp2_with fail
        refine (CN.out _ r2).mono ?_
        rintro e w4 ⟨A4, c4, rfl, o4, b4'⟩
        have b4 := b2.trans (b4'.mono b2.size)
        have o4' := o4.base (B' := w.heap.size) b2.size
        obtain ⟨g, c5, hgc, hg1, hg2⟩ := o4'.at (by rw [H4.out]; omega)
        injection hgc with e1 e2 e3
        subst e1
        subst e3
        clear e2 b2 r2 b4' o4 CZ CT CU CN
        go_wp2_with fail
        go_loopw [29] (fun i wr => ∃ k : Nat, k ≤ us.length ∧ i = .int .i64 k ∧ OwnI wr w.heap.size (.slice (some ⟨g, 0, none⟩) zs.length c4) (setR zs (lk t (us.take k))) ∧ Hid (FitTo zs (lk t us) k) ∧ Below w.heap.size w wr) (fun i _ => us.length - (intOf i).toNat)
        case atStart => exact ⟨0, Nat.zero_le _, rfl, (by rw [List.take_zero]; exact o4'), FitTo.zero zs _, b4⟩
        case round =>
          obtain ⟨k, hk, rfl, ho, HFT, hb⟩ := hrel
          clear o4' b4
          by_cases hlt : k < us.length
          · obtain ⟨o, ad, ho1, rfl, ha1, g0, g1, g2⟩ := (hu.below hb (Nat.le_refl _)).up_ hlt
            obtain ⟨q0, q1⟩ := hr _ (List.getElem_mem hlt)
            rw [ho1] at q0 q1
            obtain ⟨m, hm0⟩ := Int.eq_ofNat_of_zero_le q0
            rw [hm0] at g0
            have hmz0 : m < zs.length := by rw [H4.out]; omega
            obtain ⟨adz, ez, hbz, cz⟩ := (hz.below hb (Nat.le_refl _)).int_ hmz0
            have hkl : k < (lk t us).length := by rw [lk_length]; exact hlt
            have hge : (lk t us)[k] = lk1 t o := by rw [← ho1]; exact lk_get hlt hkl
            have hfit : fit1 zs (lk t us)[k] ↔ zs[m] = -1 := by
              rw [hge]
              unfold fit1
              rw [show (lk1 t o).r = o.r from rfl, hm0, Int.toNat_natCast, List.getElem?_eq_getElem hmz0]
              exact ⟨fun h => by injection h, fun h => by rw [h]; rfl⟩
            have k0 : (0 : Int) ≤ (k : Int) := by omega
            have k1 : (k : Int) < (us.length : Int) := by omega
            have k2 : (0 : Int) ≤ (m : Int) := by omega
            have k3 : (m : Int) < (zs.length : Int) := by omega
            subst ez
            have hzw := hb.size
            have u1 := Blk.new_ wr 164 (.int .i64 (m : Int)) (.int .i64 o.o) (.int .i64 o.n)
            have bb := (Below.refl wr.heap.size wr).alloc (Nat.le_refl _) (.cells #[.int .i64 (m : Int), .int .i64 o.o, .int .i64 o.n] 164)
            obtain ⟨W1, hW1⟩ : ∃ W1, wr.alloc (.cells #[.int .i64 (m : Int), .int .i64 o.o, .int .i64 o.n] 164) = W1 := ⟨_, rfl⟩
            rw [hW1] at u1 bb
            have hb1 := hb.trans (bb.mono hzw)
            have ho1' := ho.below bb (Nat.le_refl _)
            have cz1 : W1.cell? (adz.add m) = some (.int .i64 zs[m]) := (bb.cell (by rw [add_block]; exact Nat.lt_of_lt_of_le hbz hzw)).trans cz
            obtain ⟨z0, -, -, -⟩ := id u1.reads
            clear cz ho hb bb
            by_cases heq : zs[m] = -1
            · have e0 : (zs[m] != -1) = false := by rw [bne_eq_false_iff_eq]; exact heq
              have HN := hid (HFT.out.next hkl (hfit.2 heq))
              have hsl := setR_length (lk t (us.take k)) zs
              have ho' : OwnI W1 w.heap.size (.slice (some ⟨g, 0, none⟩) (setR zs (lk t (us.take k))).length c4) (setR zs (lk t (us.take k))) := by rw [hsl]; exact ho1'
              have hmz : m < (setR zs (lk t (us.take k))).length := by rw [hsl]; exact hmz0
              have y0 := ho'.cell hmz
              have f0 := World.ownsRow.frozenAt ho' m
              have ho2 := ho'.set m t
              have hb2 := hb1.setCell (p := ⟨g, m, none⟩) hg1 (.int .i64 t)
              have hst : setR zs (lk t (us.take (k + 1))) = (setR zs (lk t (us.take k))).set m t := by
                rw [List.take_succ_eq_append_getElem hlt, ho1]
                unfold lk
                rw [List.map_append]
                show setR zs (_ ++ [lk1 t o]) = _
                rw [setR_snoc]
                show (setR zs _).set o.r.toNat t = _
                rw [hm0, Int.toNat_natCast]
              have hl2 : ((setR zs (lk t (us.take k))).set m t).length = zs.length := by rw [List.length_set, hsl]
              rw [← hst] at ho2 hl2
              rw [hl2] at ho2
              clear ho1' ho' hb1 hst hl2 hsl q0 q1 hm0 ho1 HFT heq hfit hge
              go_wp2
              go_roundw
              case rel => exact ⟨k + 1, by omega, by go_num, ho2, HN, hb2⟩
              case measure => simp [intOf]; omega
            · have e0 : (zs[m] != -1) = true := by rw [bne_iff_ne]; exact heq
              have F : Hid (y = .no) := by
                show y = .no
                cases y with
                | bad => exact absurd rfl HNB.out
                | no => rfl
                | yes => exact absurd (hfit.1 (HF.out.2 rfl _ (List.getElem_mem hkl))) heq
              have ye := (HE0.out.below hb1).locked
              clear ho1' HFT heq hfit hge q0 q1 hm0 ho1
              go_wp2_with fail
              go_quiet (fail)
              go_wp2
              go_ret2
              rw [F.out]
              exact ⟨Wo.Below.drewN hb1 _, rfl⟩
          · have hk' : k = us.length := by omega
            subst hk'
            rw [List.take_length] at ho
            have F : Hid (y = .yes) := by
              refine HF.out.1 (FitTo.all ?_)
              rw [lk_length]
              exact HFT.out
            clear HFT
            go_wp2
            go_ret2
            rw [F.out]
            exact ⟨hb, _, _, rfl, ho⟩
set_option maxRecDepth 100000 in
set_option maxHeartbeats 8000000 in
theorem implLocksTake_is (y : RWay) (a0 a1 : Addr) (A A2 : Option Addr) (c c2 : Nat) (zs : List Int) (t : Int) (us : List Up) (w : World) (hE : Errs a0 a1 w) (hz : Row w w.heap.size A (ints zs)) (hu : Row w w.heap.size A2 (upsV us)) (hmz : zs.length ≤ 1048600) (hm : us.length ≤ 1048600) (hy : IsLWay zs t us y) :
    Calls Tryz.prog 138 #[.slice A zs.length c, .int .i64 t, .slice A2 us.length c2] w (Took (applied zs (lk t us) y) y.ok w) := by
  have CT := hid (takeLocks_is y a0 a1 A A2 c c2 zs t us w hE hz hu hmz hm hy)
  have HE := hid hE
  obtain ⟨c0, t0, r0⟩ := hE.row0
  obtain ⟨c1, t1, r1⟩ := hE.row1
  have R0 := hid r0
  have R1 := hid r1
  have HNE := hid hE.ne
  clear r0 r1 hE
  cases y with
  | bad =>
    clear hy hm hmz hu hz
    go_enter Tryz.func138, Tryz.ntmps138
    go_wp2_with fail
    refine (CT.out).mono ?_
    rintro e w1 ⟨b1, rfl⟩
    have hE1 := HE.out.below b1
    have ye := hE1.locked
    have CI : Hid (∀ x, Below w1.heap.size w1 x → Calls Tryz.prog 154 #[.iface 248 (.pointer (some a1)), .iface 248 (.pointer (some a0))] x fun e w' => e = .returned (.bool false) ∧ w' = x) := fun x hx => by
      obtain ⟨c0, t0, r0⟩ := (hE1.below hx).row0
      obtain ⟨c1, t1, r1⟩ := (hE1.below hx).row1
      exact is_other a1 a0 c1 c0 t1 t0 x hE1.ne.symm r1 r0
    have al := (b1.alloc b1.size (.cells #[] 3))
    clear hE1 CT
    go_wp2_with fail
    refine (CI.out _ (Below.refl _ _)).mono ?_
    rintro e w2 ⟨rfl, rfl⟩
    go_wp2_with fail
    go_ret2
    exact ⟨_, _, rfl, OwnI.nil_new b1.size, al⟩
  | no =>
    have h4 := hy.1.1
    have CN : Hid (∀ x, Row x x.heap.size A (ints zs) → Calls Tryz.prog 43 #[.slice A zs.length c] x (IntsOf zs x)) := fun x h => copyNumbers_of A c zs.length zs x h rfl (by omega)
    clear hy hm hmz hu h4
    go_enter Tryz.func138, Tryz.ntmps138
    go_wp2_with fail
    refine (CT.out).mono ?_
    rintro e w1 ⟨b1, rfl⟩
    have ye := (HE.out.below b1).locked
    have r2 := (hz.below b1 (Nat.le_refl _)).more b1.size
    go_wp2_with fail
    refine (is_same a0 _).mono ?_
    rintro e w2 ⟨rfl, rfl⟩
    go_wp2_with fail
    refine (CN.out _ r2).mono ?_
    rintro e w3 ⟨A3, c3, rfl, o3, b3⟩
    have b4 := b1.trans (b3.mono b1.size)
    have o4 := o3.base b1.size
    go_wp2_with fail
    go_ret2
    exact ⟨A3, c3, rfl, o4, b4⟩
  | yes =>
    have HL := hid (setR_length (lk t us) zs)
    clear hy hm hmz hu hz
    go_enter Tryz.func138, Tryz.ntmps138
    go_wp2_with fail
    refine (CT.out).mono ?_
    rintro e w1 ⟨b1, A3, c3, rfl, o3⟩
    have ye := (HE.out.below b1).locked
    go_wp2_with fail
    refine (is_nil a0 _).mono ?_
    rintro e w2 ⟨rfl, rfl⟩
    go_wp2_with fail
    go_ret2
    exact ⟨A3, c3, (by show _ = Ending.returned (.tuple #[.slice A3 (setR zs (lk t us)).length c3, .bool true]); rw [HL.out]; rfl), by show OwnI _ _ (.slice A3 (setR zs (lk t us)).length c3) _; rw [HL.out]; exact o3, b1⟩
end Go.Proofs.YteaibflloeipaaaGreatDoor
namespace Go.Proofs.YteaibflloeipaaaGreatDoor
theorem lk_gI : Tryz.prog.globalNamed "loop.example/atomicpush/impl.errLocksInvalid" = some 1 := by kernel_rfl
theorem lk_gR : Tryz.prog.globalNamed "loop.example/atomicpush/impl.errRefLocked" = some 0 := by kernel_rfl
theorem lk_gIT : (Tryz.prog.globals[1]?).map (·.type) = some 222 := by kernel_rfl
theorem lk_gRT : (Tryz.prog.globals[0]?).map (·.type) = some 222 := by kernel_rfl
theorem lk_cells1 : Tryz.prog.cellsOf 275 = 1 := by kernel_rfl
theorem lk_cells2 : Tryz.prog.cellsOf 9 = 1 := by kernel_rfl
theorem lk_star : "*" ++ "errors.errorString" = "*errors.errorString" := by decide
theorem lk_row (u : TypeId) (h : Tryz.prog.typeName? 3 u = some "*errors.errorString") : u = 248 :=
  typeName_ptr_named (nm := "errors.errorString") (by rw [lk_star]; kernel_rfl) (by kernel_rfl) (by decide) u (by rw [lk_star]; exact h)
def laidErrs : List (String × DataW Unit) := [("loop.example/atomicpush/impl.errLocksInvalid", Rows.laid_loop_example_atomicpush_impl_errLocksInvalid), ("loop.example/atomicpush/impl.errRefLocked", Rows.laid_loop_example_atomicpush_impl_errRefLocked)]
theorem errs_of_laid {W : World} (h : laidMetH Tryz.prog laidErrs W) : ∃ a0 a1, Errs a0 a1 W := by
  rw [MakeChecks.laidMetH_plain _ _ _ (by kernel_rfl)] at h
  obtain ⟨x0, x1, s0, s1, c0, c1, t0, t1, hv0, hv1, -, -, -, -, -, -, hne, hb0, hb1⟩ := laid_sentinels2 h lk_gI lk_gIT lk_gR lk_gRT Tryz.underlying222 lk_row Tryz.underlying248 Tryz.underlying275 rfl rfl Tryz.underlying9 lk_cells1 lk_cells2
  exact ⟨x1, x0, by simpa using World.var?_cell lk_gR hv1 0, by simpa using World.var?_cell lk_gI hv0 0, hne.symm, ⟨c1, t1, hb1⟩, ⟨c0, t0, hb0⟩⟩
end Go.Proofs.YteaibflloeipaaaGreatDoor
namespace Go.Proofs.YteaibflloeipaaaGreatDoor
open Go.RowKit Wo Pu Rf Lk Sh

def Ap2R (v u : Value) : Prop := ∀ g, v.ownBlock = some g → u.ownBlock ≠ some g
theorem Ap2R.symm {v u : Value} (h : Ap2R v u) : Ap2R u v := fun g h1 h2 => h g h2 h1
/-- The updates of the first n records lie apart. -/
def AptR (xs : List Value) (n : Nat) : Prop := ∀ i j v u, i < n → j < n → i ≠ j → xs[i * 3 + 2]? = some v → xs[j * 3 + 2]? = some u → Ap2R v u
/-- The slice v, of the call's own, holds the records rs; their updates lie apart. -/
def OwnRecF (w : World) (B : Nat) (v : Value) (rs : List Rec) : Prop :=
  ∃ xs, w.ownsRow B 128 3 v rs.length xs ∧ (∀ j (hj : j < rs.length), RecIs w B xs j rs[j]) ∧ AptR xs rs.length
section
variable {w w' : World} {B : Nat} {v : Value} {rs : List Rec}
theorem OwnRecF.own (h : OwnRecF w B v rs) : OwnRecs w B v rs := by
  obtain ⟨xs, h1, h2, _⟩ := h
  exact ⟨xs, h1, h2⟩
theorem OwnRecF.below (h : OwnRecF w B v rs) (hb : Below w.heap.size w w') : OwnRecF w' B v rs := by
  obtain ⟨xs, h1, h2, h3⟩ := h
  refine ⟨xs, own_below h1 hb (Nat.le_refl _), fun j hj => ?_, h3⟩
  obtain ⟨A, c, q0, q1, q2, q3, q4⟩ := h2 j hj
  exact ⟨A, c, q0, q1, q2, q3, q4.below hb⟩
theorem rowB_base_again {w : World} {B B' n sz : Nat} {e : TypeId} {v : Value} {xs : List Value} (h : w.ownsRow B e sz v n xs) (hB : B' ≤ B) : w.ownsRow B' e sz v n xs := by
  obtain ⟨h1, h2⟩ := h
  refine ⟨h1, ?_⟩
  rcases h2 with h2 | ⟨g', cap, cur, hv, hb, hr⟩
  · exact .inl h2
  · exact .inr ⟨g', cap, cur, hv, by omega, hr⟩
theorem OwnRecF.base {B' : Nat} (h : OwnRecF w B v rs) (hB : B' ≤ B) : OwnRecF w B' v rs := by
  obtain ⟨xs, h1, h2, h3⟩ := h
  refine ⟨xs, rowB_base h1 hB, fun j hj => ?_, h3⟩
  obtain ⟨A, c, q0, q1, q2, q3, q4⟩ := h2 j hj
  exact ⟨A, c, q0, q1, q2, q3, q4.base hB⟩
theorem OwnRecF.nil_new (hB : B ≤ w.heap.size) : OwnRecF (w.alloc (.cells #[] 128)) B (.slice (some ⟨w.heap.size, 0, none⟩) 0 0) [] :=
  ⟨[], nil_own hB _ _, (fun j hj => by simp at hj), fun i _ _ _ hi => absurd hi (by simp)⟩
theorem OwnRecF.nil_none (w : World) (B : Nat) : OwnRecF w B (.slice none 0 0) [] := ⟨[], ⟨rfl, .inl ⟨rfl, rfl⟩⟩, (fun j hj => by simp at hj), fun i _ _ _ hi => absurd hi (by simp)⟩
theorem OwnRecF.keptT {T : TypeId} {row : Option Nat} (h : OwnRecF w B v rs) (t1 : 128 ≠ T) (t2 : 164 ≠ T) (hg : w.grownBy w' row) (hr : ∀ g, row = some g → ∃ cur fr, w.heap[g]? = some (.cells cur T fr)) : OwnRecF w' B v rs := by
  obtain ⟨xs, h1, h2, h3⟩ := h
  refine ⟨xs, row_far_type h1 t1 hg hr, fun j hj => ?_, h3⟩
  obtain ⟨A, c, q0, q1, q2, q3, q4⟩ := h2 j hj
  exact ⟨A, c, q0, q1, q2, q3, q4.keptT t2 hg hr⟩
/-- One record more, whose updates lie above all others. -/
theorem OwnRecF.app {w1 : World} {c N : Nat} {A : Option Addr} {v' : Value} {r : Rec} {ys : List Value} (hos : ∀ j (hj : j < rs.length), RecIs w B ys j rs[j]) (hap : AptR ys rs.length) (hold : ∀ j u g, j < rs.length → ys[j * 3 + 2]? = some u → u.ownBlock = some g → g < N)
    (hnew : ∀ g, (Value.slice A r.us.length c).ownBlock = some g → N ≤ g) (hc : r.us.length ≤ c)
    (hups : OwnUps w B (.slice A r.us.length c) r.us) (hrow : w.ownsRow B 128 3 v rs.length ys)
    (hown : w1.ownsRow B 128 3 v' (rs.length + 1) (ys ++ [.int .i64 r.k, .int .i64 r.t, .slice A r.us.length c]))
    (hg : (w.alloc (.cells #[.int .i64 r.k, .int .i64 r.t, .slice A r.us.length c] 128)).grownBy w1 v.ownBlock) : OwnRecF w1 B v' (rs ++ [r]) := by
  have hlen : ys.length = rs.length * 3 := hrow.1
  have al := (Below.refl w.heap.size w).alloc (Nat.le_refl _) (.cells #[.int .i64 r.k, .int .i64 r.t, .slice A r.us.length c] 128)
  have keep : ∀ {u : Value} {us : List Up}, OwnUps w B u us → OwnUps w1 B u us := fun {u us} h =>
    (h.below al).keptT (by decide) hg fun g e => row_typed (World.ownsRow.alloc hrow _) g e
  have at2 : ∀ j, j < rs.length → (ys ++ [Value.int .i64 r.k, .int .i64 r.t, .slice A r.us.length c])[j * 3 + 2]? = ys[j * 3 + 2]? := fun j hj => List.getElem?_append_left (by omega)
  have atn : (ys ++ [Value.int .i64 r.k, .int .i64 r.t, .slice A r.us.length c])[rs.length * 3 + 2]? = some (.slice A r.us.length c) := by
    rw [List.getElem?_append_right (by omega), hlen, show rs.length * 3 + 2 - rs.length * 3 = 2 from by omega]; rfl
  refine ⟨_, by simpa using hown, fun j hj => ?_, fun i j a b hi hj hij ha hb => ?_⟩
  · by_cases e : j < rs.length
    · obtain ⟨A', c', q0, q1, q2, q3, q4⟩ := hos j e
      rw [List.getElem_append_left e]
      exact ⟨A', c', by rw [List.getElem?_append_left (by omega)]; exact q0, by rw [List.getElem?_append_left (by omega)]; exact q1, by rw [List.getElem?_append_left (by omega)]; exact q2, q3, keep q4⟩
    · have ej : j = rs.length := by simp at hj; omega
      subst ej
      have eo : (rs ++ [r])[rs.length]'(by simp) = r := by simp
      rw [eo]
      refine ⟨A, c, ?_, ?_, atn, hc, keep hups⟩
      · rw [List.getElem?_append_right (by omega), hlen]; simp
      · rw [List.getElem?_append_right (by omega), hlen, show rs.length * 3 + 1 - rs.length * 3 = 1 from by omega]; rfl
  · simp only [List.length_append, List.length_cons, List.length_nil] at hi hj
    have low : ∀ k x, k < rs.length → ys[k * 3 + 2]? = some x → Ap2R x (.slice A r.us.length c) := fun k x hk hx g h1 h2 => by
      have := hold k x g hk hx h1
      have := hnew g h2
      omega
    by_cases i1 : i < rs.length
    · rw [at2 i i1] at ha
      by_cases j1 : j < rs.length
      · rw [at2 j j1] at hb
        exact hap i j a b i1 j1 hij ha hb
      · have ej : j = rs.length := by omega
        subst ej
        rw [atn] at hb
        injection hb with hb
        subst hb
        exact low i a i1 ha
    · have ei : i = rs.length := by omega
      subst ei
      rw [atn] at ha
      injection ha with ha
      subst ha
      have j1 : j < rs.length := by omega
      rw [at2 j j1] at hb
      exact (low j b j1 hb).symm
/-- Their blocks lie below the heap's end. -/
theorem RecIs.lt {xs : List Value} {j : Nat} {r : Rec} (h : RecIs w B xs j r) : ∀ u g, xs[j * 3 + 2]? = some u → u.ownBlock = some g → B ≤ g ∧ g < w.heap.size := fun u g hu hg => by
  obtain ⟨A, c, q0, q1, q2, q3, q4⟩ := h
  rw [q2] at hu
  injection hu with hu
  subst hu
  exact World.ownsRow.lt q4 g hg
end
/-- A shard of the call's own, all lists of which lie apart. -/
def OwnShF (w : World) (B : Nat) (v : Value) (rs : List Rec) : Prop := ∃ A c, v = shV A rs.length c ∧ OwnRecF w B (.slice A rs.length c) rs ∧ rs.length ≤ c
theorem OwnShF.own {w : World} {B : Nat} {v : Value} {rs : List Rec} (h : OwnShF w B v rs) : OwnSh w B v rs := by
  obtain ⟨A, c, e, h1, h2⟩ := h
  exact ⟨A, c, e, h1.own, h2⟩
theorem OwnShF.mk_ {w : World} {B : Nat} {u : Value} {rs : List Rec} (h : OwnRecF w B u rs) : OwnShF w B (.agg #[u]) rs := by
  obtain ⟨A, c, rfl, _, hc⟩ := h.own.form
  exact ⟨A, c, rfl, h, hc⟩
theorem OwnShF.base {w : World} {B B' : Nat} {v : Value} {rs : List Rec} (h : OwnShF w B v rs) (hB : B' ≤ B) : OwnShF w B' v rs := by
  obtain ⟨A, c, e, h1, h2⟩ := h
  exact ⟨A, c, e, h1.base hB, h2⟩
theorem OwnShF.below {w w' : World} {B : Nat} {v : Value} {rs : List Rec} (h : OwnShF w B v rs) (hb : Below w.heap.size w w') : OwnShF w' B v rs := by
  obtain ⟨A, c, e, h1, h2⟩ := h
  exact ⟨A, c, e, h1.below hb, h2⟩
/-- Behind it: such a shard. -/
def NewShF (rs : List Rec) (w : World) (e : Ending) (w' : World) : Prop := ∃ v, e = .returned v ∧ OwnShF w' w.heap.size v rs ∧ Below w.heap.size w w'
def NewShFB (rs : List Rec) (b : Bool) (w : World) (e : Ending) (w' : World) : Prop := ∃ v, e = .returned (.tuple #[v, .bool b]) ∧ OwnShF w' w.heap.size v rs ∧ Below w.heap.size w w'
theorem NewShFB.weak {rs : List Rec} {b : Bool} {w w' : World} {e : Ending} (h : NewShFB rs b w e w') : NewShB rs b w e w' := by
  obtain ⟨v, h1, h2, h3⟩ := h
  exact ⟨v, h1, h2.own, h3⟩
end Go.Proofs.YteaibflloeipaaaGreatDoor
