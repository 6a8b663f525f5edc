/- The coordinator with the slices $SA and $SB is stored as the answer, with the word $BB. -/
/- Laws on coordinators: a coordinator is boxed. -/
/- On to the world behind D. -/
/- An exact law begins: the argument's box, its size, a copy for the model. -/
/- The program's own copy of the argument is boxed. -/
/- The program's copy is as the argument; the region draws. -/
/- Laws on functions that answer numbers. -/
/- What the boxes hold is read again. -/
/- The coordinator with the slices P4 and P5 is boxed as P6, in block P7, behind it the world P3; ahead of region P1. -/
/- The draw, the program's answer, the model's, and that they are the same: behind it w5, all facts on it by way of dx. -/
/-
  Walk: which updates are valid, by the model.
-/
import Derived.Test.YtjplondblkkpmaaRefS
namespace Go.Proofs.Ytjplondblkkpmaa
open Go.RowKit Wo Pu Rf

theorem Same.ret {v : Value} {w : World} {e : Ending} {w' : World} (h : Same v w e w') : Ret v w e w' := ⟨h.1, by rw [← h.2]; exact Below.refl _ _⟩
/-- The update at k may stand there. -/
def OkU (us : List Up) (k : Nat) (h : k < us.length) : Prop := Ok us[k] ∧ (k = 0 ∨ ∃ h' : 0 < k, (us[k - 1]'(by omega)).r < us[k].r)
def UpTo (us : List Up) (k : Nat) : Prop := ∀ j (h : j < us.length), j < k → OkU us j h
theorem UpTo.zero (us : List Up) : UpTo us 0 := fun _ _ h => absurd h (Nat.not_lt_zero _)
theorem UpTo.next {us : List Up} {k : Nat} (h : UpTo us k) (hk : k < us.length) (ho : OkU us k hk) : UpTo us (k + 1) := fun j hj hl => by
  by_cases e : j = k
  · subst e; exact ho
  · exact h j hj (by omega)
theorem uv_iff (us : List Up) : UV us ↔ us.length ≠ 0 ∧ ∀ k (h : k < us.length), OkU us k h := by
  unfold UV
  rw [asc_iff]
  refine and_congr ⟨fun h e => h (List.eq_nil_of_length_eq_zero e), fun h e => h (by rw [e]; rfl)⟩ ⟨fun h k hk => ?_, fun h k hk => ?_⟩
  · obtain ⟨h1, h2⟩ := h k hk
    refine ⟨h1, ?_⟩
    by_cases e : k = 0
    · exact .inl e
    · rw [dif_neg e] at h2
      exact .inr ⟨by omega, h2⟩
  · obtain ⟨h1, h2⟩ := h k hk
    refine ⟨h1, ?_⟩
    by_cases e : k = 0
    · rw [dif_pos e]; have := h1.1.1; omega
    · rw [dif_neg e]
      rcases h2 with h2 | ⟨_, h2⟩
      · exact absurd h2 e
      · exact h2
theorem uv_yes {us : List Up} {b : Bool} (hb : b = true ↔ UV us) (h : UpTo us us.length) (h0 : us.length ≠ 0) : b = true := hb.2 ((uv_iff us).2 ⟨h0, fun k hk => h k hk hk⟩)
theorem uv_no {us : List Up} {b : Bool} (hb : b = true ↔ UV us) {k : Nat} (hk : k < us.length) (h : ¬ OkU us k hk) : b = false := by
  rw [← Bool.not_eq_true]
  exact fun e => h (((uv_iff us).1 (hb.1 e)).2 k hk)
theorem uv_none {us : List Up} {b : Bool} (hb : b = true ↔ UV us) (h : us.length = 0) : b = false := by
  rw [← Bool.not_eq_true]
  exact fun e => ((uv_iff us).1 (hb.1 e)).1 h
theorem l6In_is (b : Bool) (n lo hi : Int) (w : World) (hb : b = true ↔ lo ≤ n ∧ n ≤ hi) : Calls Try.prog 40 #[.int .i64 n, .int .i64 lo, .int .i64 hi] w (Same (.bool b) w) := by
  cases b with
  | true => obtain ⟨h1, h2⟩ := hb.1 rfl; exact l6In_yes n lo hi w h1 h2
  | false =>
    refine l6In_no n lo hi w ?_
    by_cases h : lo ≤ n
    · exact .inr (by have : ¬ (n ≤ hi) := fun e => by have := hb.2 ⟨h, e⟩; cases this
                     omega)
    · exact .inl (by omega)

set_option maxRecDepth 100000 in
set_option maxHeartbeats 8000000 in
theorem specUpdatesValid_is (b : Bool) (A : Option Addr) (c : Nat) (us : List Up) (w : World) (hr : Row w w.heap.size A (upsV us)) (hm : us.length ≤ 1048600) (hb : b = true ↔ UV us) :
    Calls Try.prog 85 #[.slice A us.length c] w (Ret (.bool b) w) := by
  have HB := hid hb
  clear hb
  go_enter Try.func85, Try.ntmps85
  go_wp2_with fail
  go_loopw [3] (fun i wr => ∃ k : Nat, k ≤ us.length ∧ i = .int .i64 k ∧ Hid (UpTo us k) ∧ Below w.heap.size w wr) (fun i _ => us.length - (intOf i).toNat)
  case atStart => exact ⟨0, Nat.zero_le _, rfl, .zero us, Below.refl _ _⟩
  case round =>
    obtain ⟨k, hk, rfl, H, hbr⟩ := hrel
    by_cases hlt : k < us.length
    · have hrr := (hr.below hbr (Nat.le_refl _)).more hbr.size
      obtain ⟨o, ad, ho, rfl, ha1, g0, g1, g2⟩ := hrr.up_ hlt
      have k0 : (0 : Int) ≤ (k : Int) := by omega
      have k1 : (k : Int) < (us.length : Int) := by omega
      have hbW := hbr.alloc hbr.size (.cells #[.int .i64 o.r, .int .i64 o.o, .int .i64 o.n] 38)
      have u1 := Blk.new_ wr 38 (.int .i64 o.r) (.int .i64 o.o) (.int .i64 o.n)
      have rW := hrr.alloc (Nat.le_refl _) (.cells #[.int .i64 o.r, .int .i64 o.o, .int .i64 o.n] 38)
      go_wp2_with fail
      generalize wr.alloc (.cells #[.int .i64 o.r, .int .i64 o.o, .int .i64 o.n] 38) = W at *
      have hzW := hbW.size
      obtain ⟨z0, z1, z2, -⟩ := id u1.reads
      have L0 := Later.cell z0 u1.lt
      have L1 := Later.cell z1 u1.lt
      have L2 := Later.cell z2 u1.lt
      obtain ⟨br, hr3⟩ := bool_of (0 ≤ o.r ∧ o.r ≤ 3)
      obtain ⟨bo, ho3⟩ := bool_of (Val o.o)
      obtain ⟨bn, hn3⟩ := bool_of (Val o.n)
      have CR : Hid (∀ x, Calls Try.prog 40 #[.int .i64 o.r, .int .i64 0, .int .i64 3] x (Ret (.bool br) x)) := fun x => (l6In_is br _ _ _ x hr3).mono fun _ _ h => h.ret
      have CO : Hid (∀ x, Calls Try.prog 86 #[.int .i64 o.o] x (Ret (.bool bo) x)) := fun x => (l11Value_is bo _ x ho3).mono fun _ _ h => h.ret
      have CN : Hid (∀ x, Calls Try.prog 86 #[.int .i64 o.n] x (Ret (.bool bn) x)) := fun x => (l11Value_is bn _ x hn3).mono fun _ _ h => h.ret
      clear hbr hrr g0 g1 g2 z0 z1 z2
      cases br with
      | false =>
        have F := hid (uv_no HB.out hlt (fun h => by have := hr3.2 (ho ▸ h.1.1); cases this))
        clear H hr3 ho3 hn3 ho
        refine wp_region_later W.heap.size (by kernel_rfl) (by kernel_rfl) ?_
        repeat (go_big_quiet_step ((first | (go_at_call 40; exact Later.call (Nat.le_refl _) _ (CR.out _)) | (go_at_call 86; first | exact Later.call (Nat.le_refl _) _ (CO.out _) | exact Later.call (Nat.le_refl _) _ (CN.out _)))))
        refine wpQuiet_nil ?_
        intro _ hw'
        obtain ⟨xx, hxx⟩ := hw'
        have hbx := xx.b
        subst hxx
        go_wp2
        go_ret
        rw [F.out]
        exact .mk_ (hbW.trans (hbx.mono hzW))
      | true =>
        cases bo with
        | false =>
          have F := hid (uv_no HB.out hlt (fun h => by have := ho3.2 (ho ▸ h.1.2.1); cases this))
          clear H hr3 ho3 hn3 ho
          refine wp_region_later W.heap.size (by kernel_rfl) (by kernel_rfl) ?_
          repeat (go_big_quiet_step ((first | (go_at_call 40; exact Later.call (Nat.le_refl _) _ (CR.out _)) | (go_at_call 86; first | exact Later.call (Nat.le_refl _) _ (CO.out _) | exact Later.call (Nat.le_refl _) _ (CN.out _)))))
          refine wpQuiet_nil ?_
          intro _ hw'
          obtain ⟨xx, hxx⟩ := hw'
          have hbx := xx.b
          subst hxx
          go_wp2
          go_ret
          rw [F.out]
          exact .mk_ (hbW.trans (hbx.mono hzW))
        | true =>
          cases bn with
          | false =>
            have F := hid (uv_no HB.out hlt (fun h => by have := hn3.2 (ho ▸ h.1.2.2.1); cases this))
            clear H hr3 ho3 hn3 ho
            refine wp_region_later W.heap.size (by kernel_rfl) (by kernel_rfl) ?_
            repeat (go_big_quiet_step ((first | (go_at_call 40; exact Later.call (Nat.le_refl _) _ (CR.out _)) | (go_at_call 86; first | exact Later.call (Nat.le_refl _) _ (CO.out _) | exact Later.call (Nat.le_refl _) _ (CN.out _)))))
            refine wpQuiet_nil ?_
            intro _ hw'
            obtain ⟨xx, hxx⟩ := hw'
            have hbx := xx.b
            subst hxx
            go_wp2
            go_ret
            rw [F.out]
            exact .mk_ (hbW.trans (hbx.mono hzW))
          | true =>
            by_cases hon : o.o = o.n
            · have e4 : (o.o == o.n) = true := by rw [beq_iff_eq]; exact hon
              have F := hid (uv_no HB.out hlt (fun h => by have := h.1.2.2.2; rw [ho] at this; exact this hon))
              clear H hr3 ho3 hn3 ho hon
              refine wp_region_later W.heap.size (by kernel_rfl) (by kernel_rfl) ?_
              repeat (go_big_quiet_step ((first | (go_at_call 40; exact Later.call (Nat.le_refl _) _ (CR.out _)) | (go_at_call 86; first | exact Later.call (Nat.le_refl _) _ (CO.out _) | exact Later.call (Nat.le_refl _) _ (CN.out _)))))
              refine wpQuiet_nil ?_
              intro _ hw'
              obtain ⟨xx, hxx⟩ := hw'
              have hbx := xx.b
              subst hxx
              go_wp2
              go_ret
              rw [F.out]
              exact .mk_ (hbW.trans (hbx.mono hzW))
            · have e4 : (o.o == o.n) = false := by rw [beq_eq_false_iff_ne]; exact hon
              have hok : Ok us[k] := by rw [ho]; exact ⟨hr3.1 rfl, ho3.1 rfl, hn3.1 rfl, hon⟩
              by_cases hk0 : k = 0
              · have e5 : decide ((0 : Int) < (k : Int)) = false := decide_eq_false (by omega)
                have e6 : decide (0 < k) = false := decide_eq_false (by omega)
                have HN := hid (H.out.next hlt ⟨hok, .inl hk0⟩)
                clear H hr3 ho3 hn3 ho hon hok hk0
                refine wp_region_later W.heap.size (by kernel_rfl) (by kernel_rfl) ?_
                repeat (go_big_quiet_step ((first | (go_at_call 40; exact Later.call (Nat.le_refl _) _ (CR.out _)) | (go_at_call 86; first | exact Later.call (Nat.le_refl _) _ (CO.out _) | exact Later.call (Nat.le_refl _) _ (CN.out _)))))
                refine wpQuiet_nil ?_
                intro _ hw'
                obtain ⟨xx, hxx⟩ := hw'
                have hbx := xx.b
                subst hxx
                go_wp2
                go_roundw
                case rel => exact ⟨k + 1, by omega, by go_num, HN, hbW.trans (hbx.mono hzW)⟩
                case measure => simp [intOf]; omega
              · obtain ⟨m, rfl⟩ : ∃ m, k = m + 1 := ⟨k - 1, by omega⟩
                obtain ⟨o', ad', ho', e', ha', p0, -, -⟩ := rW.up_ (k := m) (by omega)
                injection e' with e'
                subst e'
                have LP := Later.cell p0 (Nat.lt_trans ha' u1.lt)
                have e5 : decide ((0 : Int) < ((m + 1 : Nat) : Int)) = true := decide_eq_true (by omega)
                have q1 : IntKind.i64.wrap (((m + 1 : Nat) : Int) - 1) = (m : Int) := by rw [IntWalk.i64_in _ (by omega)]; omega
                have q2 : ((m + 1 : Nat) : Int) - 1 = (m : Int) := by omega
                have q3 : (m : Int) < (us.length : Int) := by omega
                have q4 : (0 : Int) ≤ (m : Int) := by omega
                by_cases hord : o'.r < o.r
                · have e6 : decide (o.r ≤ o'.r) = false := decide_eq_false (by omega)
                  have HN := hid (H.out.next hlt ⟨hok, .inr ⟨by omega, by
                    have : m + 1 - 1 = m := by omega
                    simp only [this]
                    rw [ho', ho]
                    exact hord⟩⟩)
                  clear H hr3 ho3 hn3 ho ho' hon hok hk0 p0
                  refine wp_region_later W.heap.size (by kernel_rfl) (by kernel_rfl) ?_
                  repeat (go_big_quiet_step ((first | (go_at_call 40; exact Later.call (Nat.le_refl _) _ (CR.out _)) | (go_at_call 86; first | exact Later.call (Nat.le_refl _) _ (CO.out _) | exact Later.call (Nat.le_refl _) _ (CN.out _)))))
                  refine wpQuiet_nil ?_
                  intro _ hw'
                  obtain ⟨xx, hxx⟩ := hw'
                  have hbx := xx.b
                  subst hxx
                  go_wp2
                  go_roundw
                  case rel => exact ⟨m + 1 + 1, by omega, by go_num, HN, hbW.trans (hbx.mono hzW)⟩
                  case measure => simp [intOf]; omega
                · have e6 : decide (o.r ≤ o'.r) = true := decide_eq_true (by omega)
                  have F := hid (uv_no HB.out hlt (fun h => by
                    rcases h.2 with h | ⟨_, h⟩
                    · omega
                    · have e : m + 1 - 1 = m := by omega
                      simp only [e] at h
                      rw [ho', ho] at h
                      exact hord h))
                  clear H hr3 ho3 hn3 ho ho' hon hok hk0 p0
                  refine wp_region_later W.heap.size (by kernel_rfl) (by kernel_rfl) ?_
                  repeat (go_big_quiet_step ((first | (go_at_call 40; exact Later.call (Nat.le_refl _) _ (CR.out _)) | (go_at_call 86; first | exact Later.call (Nat.le_refl _) _ (CO.out _) | exact Later.call (Nat.le_refl _) _ (CN.out _)))))
                  refine wpQuiet_nil ?_
                  intro _ hw'
                  obtain ⟨xx, hxx⟩ := hw'
                  have hbx := xx.b
                  subst hxx
                  go_wp2
                  go_ret
                  rw [F.out]
                  exact .mk_ (hbW.trans (hbx.mono hzW))
    · have hk' : k = us.length := by omega
      subst hk'
      by_cases h0 : us.length = 0
      · have F := hid (uv_none HB.out h0)
        have e0 : decide (0 < (us.length : Int)) = false := decide_eq_false (by omega)
        have e1 : decide (0 < us.length) = false := decide_eq_false (by omega)
        clear h0 H
        go_wp2
        go_ret
        rw [F.out]
        exact .mk_ hbr
      · have F := hid (uv_yes HB.out H.out h0)
        have e0 : decide (0 < (us.length : Int)) = true := decide_eq_true (by omega)
        have e1 : decide (0 < us.length) = true := decide_eq_true (by omega)
        clear h0 H
        go_wp2
        go_ret
        rw [F.out]
        exact .mk_ hbr
end Go.Proofs.Ytjplondblkkpmaa
