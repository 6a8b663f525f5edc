/-
  Walks: which names a pattern matches, by the program and by the model.
-/
import Derived.Test.YtdjfglebnblfkabDoorNamV
import Derived.BigQuiet
namespace Go.Proofs.YtdjfglebnblfkabDoor
open Go.RowKit Wo Pu Nm

/-! ### In words of texts. -/
def starB : ByteArray := ⟨#[42]⟩
theorem bl_starB : bl starB = star := rfl
theorem star_iff (t : ByteArray) : bl t = star ↔ t = starB := ⟨fun h => bl_inj h, fun h => by rw [h]; rfl⟩
def ManyB (ps xs : List ByteArray) : Prop := ps.length = xs.length ∨ (ps.length < xs.length ∧ ps.getLast? = some starB)
def EachB (ps xs : List ByteArray) (n : Nat) : Prop := ∀ i, i < n → ps[i]? = some starB ∨ ps[i]? = xs[i]?
theorem map_some_iff (ps : List ByteArray) (i : Nat) (t : ByteArray) : (ps.map bl)[i]? = some (bl t) ↔ ps[i]? = some t := by
  rw [List.getElem?_map]
  cases ps[i]? with
  | none => simp
  | some u => simp only [Option.map_some, Option.some.injEq]; exact ⟨fun h => bl_inj h, fun h => by rw [h]⟩
theorem map_same_iff (ps xs : List ByteArray) (i : Nat) : (ps.map bl)[i]? = (xs.map bl)[i]? ↔ ps[i]? = xs[i]? := by
  rw [List.getElem?_map, List.getElem?_map]
  cases ps[i]? <;> cases xs[i]? <;> simp only [Option.map_some, Option.map_none, Option.some.injEq, reduceCtorEq]
  exact ⟨fun h => bl_inj h, fun h => by rw [h]⟩
theorem mat_iff (p s : ByteArray) : Mat (bl p) (bl s) ↔ Name (bl s) ∧ p.size ≤ 12 ∧ ManyB (cutB p) (cutB s) ∧ EachB (cutB p) (cutB s) (cutB p).length := by
  unfold Mat Many ManyB EachB
  rw [bl_size, ← bl_cutB, ← bl_cutB]
  simp only [List.length_map, List.getLast?_eq_getElem?, ← bl_starB, map_some_iff, map_same_iff]
theorem EachB.zero (ps xs : List ByteArray) : EachB ps xs 0 := fun _ h => absurd h (Nat.not_lt_zero _)
theorem EachB.next {ps xs : List ByteArray} {k : Nat} (h : EachB ps xs k) (hk : ps[k]? = some starB ∨ ps[k]? = xs[k]?) : EachB ps xs (k + 1) := fun i hi => by
  by_cases e : i = k
  · subst e; exact hk
  · exact h i (by omega)
theorem eq_toList (s t : ByteArray) : (s.toList == t.toList) = true ↔ s = t := by
  rw [Lib.toList_data, Lib.toList_data, beq_iff_eq]
  exact ⟨fun h => bl_inj h, fun h => by rw [h]⟩
theorem ne_toList (s t : ByteArray) : (s.toList == t.toList) = false ↔ s ≠ t := by
  rw [← Bool.not_eq_true, eq_toList]
theorem starB_list : starB.toList = [42] := by rw [Lib.toList_data]; rfl
theorem eq_star (s : ByteArray) : (s.toList == [42]) = true ↔ s = starB := by have h := eq_toList s starB; rwa [starB_list] at h
theorem ne_star (s : ByteArray) : (s.toList == [42]) = false ↔ s ≠ starB := by have h := ne_toList s starB; rwa [starB_list] at h

/-! ### The model. -/
set_option maxRecDepth 100000 in
set_option maxHeartbeats 8000000 in
theorem specNameMatches_is (b : Bool) (p s : ByteArray) (w : World) (hb0 : b = true ↔ Mat (bl p) (bl s)) (hp : p.size ≤ 1048600) (hs : s.size ≤ 1048600) : Calls Tryd.prog 22 #[.string p, .string s] w (Ret (.bool b) w) := by
  have HB := hid (hb0.trans (mat_iff p s))
  clear hb0
  obtain ⟨v, hv⟩ := bool_of (Name (bl s))
  have CV : Hid (∀ x, Calls Tryd.prog 17 #[.string s] x (Ret (.bool v) x)) := fun x => specNameValid_is v s x hv hs
  cases v with
  | false =>
    have F : Hid (b = false) := by
      show b = false
      rw [← Bool.not_eq_true]
      exact fun e => absurd (hv.2 (HB.out.1 e).1) (by simp)
    clear hv HB
    go_enter Tryd.func22, Tryd.ntmps22
    go_wp2_with fail
    refine (CV.out _).mono ?_
    rintro e w1 ⟨rfl, b1⟩
    go_wp2_with fail
    go_ret
    rw [F.out]
    exact .mk_ b1
  | true =>
    have hn := hid (hv.1 rfl)
    clear hv
    by_cases h12 : p.size ≤ 12
    · have e0 : decide ((12 : Int) < (p.size : Int)) = false := decide_eq_false (by omega)
      have e1 : decide (12 < p.size) = false := decide_eq_false (by omega)
      have CP : Hid (∀ x, Calls Tryd.prog 30 #[.string p] x (TextsOf (cutB p) x)) := fun x => l5Cut_any p x (by omega)
      have CX : Hid (∀ x, Calls Tryd.prog 30 #[.string s] x (TextsOf (cutB s) x)) := fun x => l5Cut_any s x (by omega)
      have HM : Hid (b = true ↔ ManyB (cutB p) (cutB s) ∧ EachB (cutB p) (cutB s) (cutB p).length) := by
        show _ ↔ _
        rw [HB.out]
        exact ⟨fun h => h.2.2, fun h => ⟨hn.out, h12, h⟩⟩
      have hpf := cutB_few p
      have hpp := cutB_pos p
      have hsf := cutB_few s
      clear HB hn h12
      generalize cutB p = ps at *
      generalize cutB s = xs at *
      go_enter Tryd.func22, Tryd.ntmps22
      go_wp2_with fail
      refine (CV.out _).mono ?_
      rintro e w1 ⟨rfl, b1⟩
      clear CV
      go_wp2_with fail
      refine (CP.out _).mono ?_
      rintro e w2 ⟨A, c, rfl, ho2, b2⟩
      have r2 : Row w2 w2.heap.size A (txts ps) := by obtain ⟨A', c', e, h⟩ := ho2.form; injection e with e1; subst e1; exact h
      have b2' := b1.trans (b2.mono b1.size)
      clear CP ho2 b1 b2
      go_wp2_with fail
      refine (CX.out _).mono ?_
      rintro e w3 ⟨A3, c3, rfl, ho3, b3⟩
      have r3 : Row w3 w3.heap.size A3 (txts xs) := by obtain ⟨A', c', e, h⟩ := ho3.form; injection e with e1; subst e1; exact h
      have q3 := (r2.below b3 (Nat.le_refl _)).more b3.size
      have b3' := b2'.trans (b3.mono b2'.size)
      clear CX ho3 b2' b3 r2
      go_wp2_with fail
      go_loopw [7] (fun i wr => ∃ k : Nat, k ≤ ps.length ∧ i = .int .i64 k ∧ Hid (EachB ps xs k) ∧ k ≤ xs.length ∧ Row wr wr.heap.size A (txts ps) ∧ Row wr wr.heap.size A3 (txts xs) ∧ Below w.heap.size w wr) (fun i _ => ps.length - (intOf i).toNat)
      case atStart => exact ⟨0, Nat.zero_le _, rfl, .zero ps xs, Nat.zero_le _, q3, r3, b3'⟩
      case round =>
        obtain ⟨k, hk, rfl, H, hkx, rp, rx, hb⟩ := hrel
        clear q3 r3 b3'
        by_cases hlk : k < ps.length
        · by_cases hlx : k < xs.length
          · obtain ⟨ad, rfl, had, hc⟩ := rp.str_ hlk
            obtain ⟨ad', rfl, had', hc'⟩ := rx.str_ hlx
            have q0 : (0 : Int) ≤ (k : Int) := by omega
            have q1 : (k : Int) < (ps.length : Int) := by omega
            have q2 : (k : Int) < (xs.length : Int) := by omega
            have e2 : ((k : Int) == (xs.length : Int)) = false := by rw [beq_eq_false_iff_ne]; omega
            by_cases h42 : ps[k] = starB
            · have HN := hid (H.out.next (.inl (by rw [List.getElem?_eq_getElem hlk, h42])))
              have f1 : (ps[k].toList == [42]) = true := (eq_star _).2 h42
              have f2 : (ps[k].toList != [42]) = false := by rw [bne, f1]; rfl
              clear H h42
              go_wp2
              go_quiet (fail)
              go_wp2
              go_roundw
              case rel => exact ⟨k + 1, by omega, by go_num, HN, by omega, rp, rx, Wo.Below.drewN hb _⟩
              case measure => simp [intOf]; omega
            · have f1 : (ps[k].toList == [42]) = false := (ne_star _).2 h42
              have f2 : (ps[k].toList != [42]) = true := by rw [bne, f1]; rfl
              by_cases hsame : ps[k] = xs[k]
              · have HN := hid (H.out.next (.inr (by rw [List.getElem?_eq_getElem hlk, List.getElem?_eq_getElem hlx, hsame])))
                have f3 : (ps[k].toList == xs[k].toList) = true := (eq_toList _ _).2 hsame
                have f4 : (ps[k].toList != xs[k].toList) = false := by rw [bne, f3]; rfl
                clear H h42 hsame
                go_wp2
                go_quiet (fail)
                go_wp2
                go_roundw
                case rel => exact ⟨k + 1, by omega, by go_num, HN, by omega, rp, rx, Wo.Below.drewN hb _⟩
                case measure => simp [intOf]; omega
              · have f3 : (ps[k].toList == xs[k].toList) = false := (ne_toList _ _).2 hsame
                have f4 : (ps[k].toList != xs[k].toList) = true := by rw [bne, f3]; rfl
                have F : Hid (b = false) := by
                  show b = false
                  rw [← Bool.not_eq_true]
                  intro e
                  rcases (HM.out.1 e).2 k hlk with h | h
                  · rw [List.getElem?_eq_getElem hlk] at h; injection h with h; exact h42 h
                  · rw [List.getElem?_eq_getElem hlk, List.getElem?_eq_getElem hlx] at h; injection h with h; exact hsame h
                clear H h42 hsame
                go_wp2
                go_quiet (fail)
                go_wp2
                go_ret
                rw [F.out]
                exact .mk_ (Wo.Below.drewN hb _)
          · have e2 : ((k : Int) == (xs.length : Int)) = true := by rw [beq_iff_eq]; omega
            have F : Hid (b = false) := by
              show b = false
              rw [← Bool.not_eq_true]
              intro e
              rcases (HM.out.1 e).1 with h | h <;> omega
            clear H
            go_wp2
            go_ret
            rw [F.out]
            exact .mk_ hb
        · have hk' : k = ps.length := by omega
          subst hk'
          by_cases hle : ps.length = xs.length
          · have F := hid (HM.out.2 ⟨.inl hle, H.out⟩)
            have e2 : ((ps.length : Int) == (xs.length : Int)) = true := by rw [beq_iff_eq]; omega
            clear H
            clear hle
            go_wp2
            go_ret
            rw [F.out]
            exact .mk_ hb
          · have e2 : ((ps.length : Int) == (xs.length : Int)) = false := by rw [beq_eq_false_iff_ne]; omega
            obtain ⟨n, hn⟩ : ∃ n, ps.length = n + 1 := ⟨ps.length - 1, by omega⟩
            obtain ⟨ad, rfl, had, hc⟩ := rp.str_ (k := n) (by omega)
            have q1 : IntKind.i64.wrap ((ps.length : Int) - 1) = (n : Int) := by rw [IntWalk.i64_in _ (by omega)]; omega
            have q2 : (ps.length : Int) - 1 = (n : Int) := by omega
            have q3 : (n : Int) < (ps.length : Int) := by omega
            have hlast : ps.getLast? = some (ps[n]'(by omega)) := by rw [List.getLast?_eq_getElem?, show ps.length - 1 = n from by omega, List.getElem?_eq_getElem]
            obtain ⟨t, ht⟩ : ∃ t, ps[n]'(by omega) = t := ⟨_, rfl⟩
            rw [ht] at hc hlast
            by_cases h42 : t = starB
            · have F := hid (HM.out.2 ⟨.inr ⟨by omega, by rw [hlast, h42]⟩, H.out⟩)
              have f1 : (t.toList == [42]) = true := (eq_star _).2 h42
              clear H h42 hlast hle ht hn
              go_wp2
              go_ret
              rw [F.out]
              exact .mk_ hb
            · have f1 : (t.toList == [42]) = false := (ne_star _).2 h42
              have F : Hid (b = false) := by
                show b = false
                rw [← Bool.not_eq_true]
                intro e
                rcases (HM.out.1 e).1 with h | ⟨_, h⟩
                · exact hle h
                · rw [hlast] at h; injection h with h; exact h42 h
              clear H h42 hlast hle ht hn
              go_wp2
              go_ret
              rw [F.out]
              exact .mk_ hb
    · have e0 : decide ((12 : Int) < (p.size : Int)) = true := decide_eq_true (by omega)
      have e1 : decide (12 < p.size) = true := decide_eq_true (by omega)
      have F : Hid (b = false) := by
        show b = false
        rw [← Bool.not_eq_true]
        exact fun e => h12 (HB.out.1 e).2.1
      clear HB h12
      go_enter Tryd.func22, Tryd.ntmps22
      go_wp2_with fail
      refine (CV.out _).mono ?_
      rintro e w1 ⟨rfl, b1⟩
      go_wp2_with fail
      go_ret
      rw [F.out]
      exact .mk_ b1
end Go.Proofs.YtdjfglebnblfkabDoor
