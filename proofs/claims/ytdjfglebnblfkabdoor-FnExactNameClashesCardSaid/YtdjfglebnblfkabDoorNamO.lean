/-
  Walk: which names a pattern matches, by the program.
-/
import Derived.Test.YtdjfglebnblfkabDoorNamN
namespace Go.Proofs.YtdjfglebnblfkabDoor
open Go.RowKit Wo Pu Nm

set_option maxRecDepth 100000 in
set_option maxHeartbeats 8000000 in
theorem implNameMatches_is (b : Bool) (p s : ByteArray) (w : World) (hb0 : b = true ↔ Mat (bl p) (bl s)) (hp : p.size ≤ 1048600) (hs : s.size ≤ 1048600) : Calls Tryd.prog 23 #[.string p, .string s] w (Ret (.bool b) w) := by
  have HB := hid (hb0.trans (mat_iff p s))
  clear hb0
  by_cases hv : Name (bl s)
  · have CV : Hid (∀ x, Calls Tryd.prog 28 #[.string s] x (SplitYes (cutB s) x)) := fun x => splitName_yes s x hv
    by_cases h12 : p.size ≤ 12
    · have e0 : decide ((12 : Int) < (p.size : Int)) = false := decide_eq_false (by omega)
      have e1 : decide (12 < p.size) = false := decide_eq_false (by omega)
      have CP : Hid (∀ x, Calls Tryd.prog 33 #[.string p, .string ⟨#[47]⟩] x (fun e w' => ∃ g n, e = .returned (.slice (some ⟨g, 0, none⟩) n n) ∧ n = (cutB p).length ∧ OwnT w' x.heap.size (.slice (some ⟨g, 0, none⟩) n n) (cutB p) ∧ Below x.heap.size x w')) := fun x => split_any p x hp
      have HM : Hid (b = true ↔ ManyB (cutB p) (cutB s) ∧ EachB (cutB p) (cutB s) (cutB p).length) := by
        show _ ↔ _
        rw [HB.out]
        exact ⟨fun h => h.2.2, fun h => ⟨hv, h12, h⟩⟩
      have hpf := cutB_few p
      have hpp := cutB_pos p
      have hsf := cutB_few s
      clear HB hv
      generalize cutB p = ps at *
      generalize cutB s = xs at *
      go_enter Tryd.func23, Tryd.ntmps23
      go_wp2_with fail
      refine (CV.out _).mono ?_
      rintro e w1 ⟨g, rfl, hg1, ho1, b1⟩
      clear CV
      go_wp2_with fail
      refine (CP.out _).mono ?_
      rintro e w2 ⟨g2, n, rfl, rfl, ho2, b2⟩
      have o2 := ho1.below b2 (Nat.le_refl _)
      have b2' := b1.trans (b2.mono b1.size)
      have c2 := fun k (hk : k < ps.length) => ho2.cell hk
      obtain ⟨m, hm⟩ := bool_of (ManyB ps xs)
      have CM : Hid (∀ c, Calls Tryd.prog 34 #[.slice (some ⟨g2, 0, none⟩) ps.length c, .int .i64 (xs.length : Nat)] w2 (Same (.bool m) w2)) := fun c => countMatches_is m g2 c xs.length ps w2 c2 hpp (by omega) hm
      have hlt2 := (World.ownsRow.lt ho2 g2 rfl).2
      have CF : Hid (∀ c, Calls Tryd.prog 35 #[.slice (some ⟨g2, 0, none⟩) ps.length c] w2 (fun e w' => ∃ A cc fs, e = .returned (.slice A ps.length cc) ∧ fs.length = ps.length ∧ Row w' w'.heap.size A fs ∧ MFns w' fs ps ∧ Below w2.heap.size w2 w')) := fun c => partMatchers_any g2 c ps w2 hlt2 c2 (by omega)
      clear CP ho1 b1 b2 c2 ho2
      cases m with
      | false =>
        have F : Hid (b = false) := by
          show b = false
          rw [← Bool.not_eq_true]
          intro e
          exact absurd (hm.2 (HM.out.1 e).1) (by simp)
        clear hm HM CF
        go_wp2_with (go_at_call 34; refine (CM.out _).mono ?_; rintro e w' ⟨rfl, rfl⟩)
        go_ret
        rw [F.out]
        exact .mk_ b2'
      | true =>
        have hmy := hm.1 rfl
        have hle : ps.length ≤ xs.length := by rcases hmy with h | h <;> omega
        have HY := hid hmy
        clear hm hmy
        go_wp2_with (first | (go_at_call 34; refine (CM.out _).mono ?_; rintro e w' ⟨rfl, rfl⟩) | fail)
        refine (CF.out _).mono ?_
        rintro e w3 ⟨A, cc, fs, rfl, hfl, hr, hms, b3⟩
        have o3 := o2.below b3 (Nat.le_refl _)
        have b3' := b2'.trans (b3.mono b2'.size)
        have HF := hid hfl
        have HMs := hid hms
        clear CM CF o2 b2' b3 hfl hms
        go_wp2_with fail
        go_loop [32] (fun i => ∃ k : Nat, k ≤ ps.length ∧ i = .int .i64 k ∧ Hid (EachB ps xs k)) (fun i => ps.length - (intOf i).toNat)
        case atStart => exact ⟨0, Nat.zero_le _, rfl, .zero ps xs⟩
        case round =>
          obtain ⟨k, hk, rfl, H⟩ := hrel
          by_cases hlk : k < ps.length
          · have hlx : k < xs.length := by omega
            have hlf : k < fs.length := by rw [HF.out]; exact hlk
            obtain ⟨ad, rfl, had, hc⟩ := hr.get hlf
            have hcx := o3.cell hlx
            have q0 : (0 : Int) ≤ (k : Int) := by omega
            have q1 : (k : Int) < (ps.length : Int) := by omega
            have q2 : (k : Int) < (xs.length : Int) := by omega
            rcases HMs.out.2 k hlf hlk with ⟨h1, h2⟩ | ⟨h1, gb, h2, hbx⟩
            · have HN := hid (H.out.next (.inl (by rw [List.getElem?_eq_getElem hlk, h1])))
              rw [h2] at hc
              clear H h1 h2
              go_wp2_with (go_at_call 48; refine (clo1_any _ _).mono ?_; rintro e w' ⟨rfl, rfl⟩)
              go_round
              case rel => exact ⟨k + 1, by omega, by go_num, HN⟩
              case measure => simp [intOf]; omega
            · rw [h2] at hc
              by_cases hsame : xs[k] = ps[k]
              · have HN := hid (H.out.next (.inr (by rw [List.getElem?_eq_getElem hlk, List.getElem?_eq_getElem hlx, hsame])))
                have CC : Hid (Calls Tryd.prog 49 #[.string xs[k], .pointer (some ⟨gb, 0, none⟩)] w3 (Same (.bool true) w3)) := clo2_any true _ _ gb w3 hbx (by simp [hsame])
                clear H h1 h2 hsame hbx
                go_wp2_with (go_at_call 49; refine CC.out.mono ?_; rintro e w' ⟨rfl, rfl⟩)
                go_round
                case rel => exact ⟨k + 1, by omega, by go_num, HN⟩
                case measure => simp [intOf]; omega
              · have CC : Hid (Calls Tryd.prog 49 #[.string xs[k], .pointer (some ⟨gb, 0, none⟩)] w3 (Same (.bool false) w3)) := clo2_any false _ _ gb w3 hbx (by simp [hsame])
                have F : Hid (b = false) := by
                  show b = false
                  rw [← Bool.not_eq_true]
                  intro e
                  rcases (HM.out.1 e).2 k hlk with h | h
                  · rw [List.getElem?_eq_getElem hlk] at h; injection h with h; exact h1 h
                  · rw [List.getElem?_eq_getElem hlk, List.getElem?_eq_getElem hlx] at h; injection h with h; exact hsame h.symm
                clear H h1 h2 hsame hbx
                go_wp2_with (go_at_call 49; refine CC.out.mono ?_; rintro e w' ⟨rfl, rfl⟩)
                go_ret
                rw [F.out]
                exact .mk_ b3'
          · have hk' : k = ps.length := by omega
            subst hk'
            have F := hid (HM.out.2 ⟨HY.out, H.out⟩)
            clear H
            go_wp2
            go_ret
            rw [F.out]
            exact .mk_ b3'
    · have e0 : decide ((12 : Int) < (p.size : Int)) = true := decide_eq_true (by omega)
      have e1 : decide (12 < p.size) = true := decide_eq_true (by omega)
      have F : Hid (b = false) := by
        show b = false
        rw [← Bool.not_eq_true]
        intro e
        exact h12 (HB.out.1 e).2.1
      clear HB hv h12
      generalize cutB s = xs at *
      go_enter Tryd.func23, Tryd.ntmps23
      go_wp2_with fail
      refine (CV.out _).mono ?_
      rintro e w1 ⟨g, rfl, hg1, ho1, b1⟩
      go_wp2_with fail
      go_ret
      rw [F.out]
      exact .mk_ b1
  · have F : Hid (b = false) := by
      show b = false
      rw [← Bool.not_eq_true]
      intro e
      exact hv (HB.out.1 e).1
    have HV := hid hv
    clear HB hv
    go_enter Tryd.func23, Tryd.ntmps23
    go_wp2_with fail
    refine (splitName_no s _ HV.out (by unfold maxLen; omega)).mono ?_
    rintro e w1 ⟨rfl, b1⟩
    go_wp2_with fail
    go_ret
    rw [F.out]
    exact .mk_ b1
end Go.Proofs.YtdjfglebnblfkabDoor
