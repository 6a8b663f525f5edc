/-
  Walks: which names clash, by the program and by the model.
-/
import Derived.Test.YtdjfglebnblfkabDoorNamM
namespace Go.Proofs.YtdjfglebnblfkabDoor
open Go.RowKit Wo Pu Nm

theorem app_slash (d : ByteArray) : bl (d ++ (⟨#[47]⟩ : ByteArray)) = bl d ++ [47] := by rw [bl_append]; rfl
theorem under_iff (s d : ByteArray) : Under (bl s) (bl d) ↔ ∃ h : d.size < s.size, s.extract 0 d.size = d ∧ s[d.size] = 47 := by
  have hd := bl_size d
  have hs := bl_size s
  constructor
  · rintro ⟨t, ht⟩
    have hl := congrArg List.length ht
    simp only [List.length_append, List.length_singleton] at hl
    have hlt : d.size < s.size := by omega
    refine ⟨hlt, ?_, ?_⟩
    · apply bl_inj
      rw [bl_extract, ← ht, List.append_assoc, ← hd]
      simp
    · have h1 : (bl s)[d.size]? = some 47 := by
        rw [← ht, List.append_assoc, List.getElem?_append_right (by omega), hd]
        simp
      rw [List.getElem?_eq_getElem (by omega)] at h1
      injection h1
  · rintro ⟨hlt, h1, h2⟩
    have e := ext_split s (a := 0) (Nat.zero_le _) hlt
    rw [ext_all, h1, h2] at e
    exact ⟨_, by rw [e, List.append_assoc]; rfl⟩
theorem isBelow_is (b : Bool) (s d : ByteArray) (w : World) (hb : b = true ↔ Under (bl s) (bl d)) (hd : d.size ≤ 12) : Calls Tryd.prog 27 #[.string s, .string d] w (Same (.bool b) w) := by
  have hz : (d ++ (⟨#[47]⟩ : ByteArray)).size = d.size + 1 := ByteArray.size_append
  have CP : Hid (∀ x, Calls Tryd.prog 37 #[.string s, .string (d ++ (⟨#[47]⟩ : ByteArray))] x (Same (.bool b) x)) := fun x => hasPrefix_val b s _ x (by
    rw [Bool.eq_iff_iff, hb, app_slash]
    unfold Lib.hasPrefix Under
    rw [List.isPrefixOf_iff_prefix])
  clear hb
  go_enter Tryd.func27, Tryd.ntmps27
  go_wp2_with (go_at_call 37; refine (CP.out _).mono ?_; rintro e w' ⟨rfl, rfl⟩)
  go_ret
  exact ⟨rfl, rfl⟩
theorem clash_val {b va vb u1 u2 : Bool} {a c : List UInt8} (hb : b = true ↔ Cla a c) (h1 : va = true ↔ Name a) (h2 : vb = true ↔ Name c) (h3 : u1 = true ↔ Under a c) (h4 : u2 = true ↔ Under c a) : b = (va && (vb && (u1 || u2))) := by
  rw [Bool.eq_iff_iff, hb]
  unfold Cla
  simp only [Bool.and_eq_true, Bool.or_eq_true, h1, h2, h3, h4]

set_option maxRecDepth 100000 in
set_option maxHeartbeats 4000000 in
theorem implNameClashes_is (b : Bool) (s t : ByteArray) (w : World) (hb : b = true ↔ Cla (bl s) (bl t)) (hs : s.size ≤ maxLen) (ht : t.size ≤ maxLen) : Calls Tryd.prog 11 #[.string s, .string t] w (Ret (.bool b) w) := by
  obtain ⟨va, h1⟩ := bool_of (Name (bl s))
  obtain ⟨vb, h2⟩ := bool_of (Name (bl t))
  obtain ⟨u1, h3⟩ := bool_of (Under (bl s) (bl t))
  obtain ⟨u2, h4⟩ := bool_of (Under (bl t) (bl s))
  have F := hid (clash_val hb h1 h2 h3 h4)
  have CA : Hid (∀ x, Calls Tryd.prog 18 #[.string s] x (Ret (.bool va) x)) := fun x => implNameValid_is va s x h1 hs
  have CB : Hid (∀ x, Calls Tryd.prog 18 #[.string t] x (Ret (.bool vb) x)) := fun x => implNameValid_is vb t x h2 ht
  have ha12 := hid (fun h : va = true => by have := (h1.1 h).1; rwa [bl_size] at this : va = true → s.size ≤ 12)
  have hb12 := hid (fun h : vb = true => by have := (h2.1 h).1; rwa [bl_size] at this : vb = true → t.size ≤ 12)
  have H3 := hid h3
  have H4 := hid h4
  clear hb h1 h2 h3 h4
  cases va with
  | false =>
    go_enter Tryd.func11, Tryd.ntmps11
    go_wp2_with fail
    refine (CA.out _).mono ?_
    rintro e w1 ⟨rfl, b1⟩
    go_wp2_with fail
    go_ret
    rw [F.out]
    exact .mk_ b1
  | true =>
    have zs := ha12.out rfl
    cases vb with
    | false =>
      go_enter Tryd.func11, Tryd.ntmps11
      go_wp2_with fail
      refine (CA.out _).mono ?_
      rintro e w1 ⟨rfl, b1⟩
      go_wp2_with fail
      refine (CB.out _).mono ?_
      rintro e w2 ⟨rfl, b2⟩
      have b3 := b1.trans (b2.mono b1.size)
      go_wp2_with fail
      go_ret
      rw [F.out]
      exact .mk_ b3
    | true =>
      have zt := hb12.out rfl
      have U1 : Hid (∀ x, Calls Tryd.prog 27 #[.string s, .string t] x (Same (.bool u1) x)) := fun x => isBelow_is u1 s t x H3.out zt
      have U2 : Hid (∀ x, Calls Tryd.prog 27 #[.string t, .string s] x (Same (.bool u2) x)) := fun x => isBelow_is u2 t s x H4.out zs
      clear H3 H4
      cases u1 with
      | true =>
        go_enter Tryd.func11, Tryd.ntmps11
        go_wp2_with fail
        refine (CA.out _).mono ?_
        rintro e w1 ⟨rfl, b1⟩
        go_wp2_with fail
        refine (CB.out _).mono ?_
        rintro e w2 ⟨rfl, b2⟩
        have b3 := b1.trans (b2.mono b1.size)
        go_wp2_with (go_at_call 27; refine (U1.out _).mono ?_; rintro e w' ⟨rfl, rfl⟩)
        go_ret
        rw [F.out]
        exact .mk_ b3
      | false =>
        go_enter Tryd.func11, Tryd.ntmps11
        go_wp2_with fail
        refine (CA.out _).mono ?_
        rintro e w1 ⟨rfl, b1⟩
        go_wp2_with fail
        refine (CB.out _).mono ?_
        rintro e w2 ⟨rfl, b2⟩
        have b3 := b1.trans (b2.mono b1.size)
        go_wp2_with fail
        refine (U1.out _).mono ?_
        rintro e w3 ⟨rfl, rfl⟩
        go_wp2_with fail
        refine (U2.out _).mono ?_
        rintro e w3 ⟨rfl, rfl⟩
        go_wp2_with fail
        go_ret
        rw [F.out]
        exact .mk_ b3
theorem not_under {s t : ByteArray} {u : Bool} (h : u = true ↔ Under (bl s) (bl t)) (hl : ¬ t.size < s.size) : u = false := by
  rw [← Bool.not_eq_true]
  intro e
  obtain ⟨h1, _⟩ := (under_iff s t).1 (h.1 e)
  exact hl h1
set_option maxRecDepth 100000 in
set_option maxHeartbeats 4000000 in
theorem specNameClashes_is (b : Bool) (s t : ByteArray) (w : World) (hb : b = true ↔ Cla (bl s) (bl t)) (hs : s.size ≤ 1048600) (ht : t.size ≤ 1048600) : Calls Tryd.prog 12 #[.string s, .string t] w (Ret (.bool b) w) := by
  obtain ⟨va, h1⟩ := bool_of (Name (bl s))
  obtain ⟨vb, h2⟩ := bool_of (Name (bl t))
  obtain ⟨u1, h3⟩ := bool_of (Under (bl s) (bl t))
  obtain ⟨u2, h4⟩ := bool_of (Under (bl t) (bl s))
  have F := hid (clash_val hb h1 h2 h3 h4)
  have CA : Hid (∀ x, Calls Tryd.prog 17 #[.string s] x (Ret (.bool va) x)) := fun x => specNameValid_is va s x h1 hs
  have CB : Hid (∀ x, Calls Tryd.prog 17 #[.string t] x (Ret (.bool vb) x)) := fun x => specNameValid_is vb t x h2 ht
  clear hb h1 h2
  cases va with
  | false =>
    clear h3 h4
    go_enter Tryd.func12, Tryd.ntmps12
    go_wp2_with fail
    refine (CA.out _).mono ?_
    rintro e w1 ⟨rfl, b1⟩
    go_wp2_with fail
    go_ret
    rw [F.out]
    exact .mk_ b1
  | true =>
    cases vb with
    | false =>
      clear h3 h4
      go_enter Tryd.func12, Tryd.ntmps12
      go_wp2_with fail
      refine (CA.out _).mono ?_
      rintro e w1 ⟨rfl, b1⟩
      go_wp2_with fail
      refine (CB.out _).mono ?_
      rintro e w2 ⟨rfl, b2⟩
      have b3 := b1.trans (b2.mono b1.size)
      go_wp2_with fail
      go_ret
      rw [F.out]
      exact .mk_ b3
    | true =>
      by_cases hlt : t.size < s.size
      · have hn := not_under h4 (by omega)
        have e0 : decide ((t.size : Int) < (s.size : Int)) = true := decide_eq_true (by omega)
        have e1 : decide (t.size < s.size) = true := decide_eq_true hlt
        have hu := h3.trans (under_iff s t)
        have q0 : (0 : Int) ≤ (t.size : Int) := by omega
        have q1 : (t.size : Int) < (s.size : Int) := by omega
        have q2 : (t.size : Int) ≤ (s.size : Int) := by omega
        subst hn
        clear h3 h4
        by_cases heq : s.extract 0 t.size = t
        · have f1 : ((s.extract 0 t.size).toList == t.toList) = true := (eq_toList _ _).2 heq
          by_cases h47 : s[t.size] = 47
          · have f2 : (((s[t.size]).toNat : Int) == 47) = true := by rw [h47]; rfl
            have hy : u1 = true := hu.2 ⟨hlt, heq, h47⟩
            subst hy
            clear hu h47 heq
            go_enter Tryd.func12, Tryd.ntmps12
            go_wp2_with fail
            refine (CA.out _).mono ?_
            rintro e w1 ⟨rfl, b1⟩
            go_wp2_with fail
            refine (CB.out _).mono ?_
            rintro e w2 ⟨rfl, b2⟩
            have b3 := b1.trans (b2.mono b1.size)
            go_wp2_with fail
            go_ret
            rw [F.out]
            exact .mk_ b3
          · have f2 : (((s[t.size]).toNat : Int) == 47) = false := by
              rw [beq_eq_false_iff_ne]
              intro e
              exact h47 (UInt8.toNat_inj.1 (by rw [show (47 : UInt8).toNat = 47 from rfl]; omega))
            have hy : u1 = false := by
              rw [← Bool.not_eq_true]
              intro e
              obtain ⟨_, _, h⟩ := hu.1 e
              exact h47 h
            subst hy
            clear hu h47 heq
            go_enter Tryd.func12, Tryd.ntmps12
            go_wp2_with fail
            refine (CA.out _).mono ?_
            rintro e w1 ⟨rfl, b1⟩
            go_wp2_with fail
            refine (CB.out _).mono ?_
            rintro e w2 ⟨rfl, b2⟩
            have b3 := b1.trans (b2.mono b1.size)
            go_wp2_with fail
            go_ret
            rw [F.out]
            exact .mk_ b3
        · have f1 : ((s.extract 0 t.size).toList == t.toList) = false := (ne_toList _ _).2 heq
          have hy : u1 = false := by
            rw [← Bool.not_eq_true]
            intro e
            obtain ⟨_, h, _⟩ := hu.1 e
            exact heq h
          subst hy
          clear hu heq
          go_enter Tryd.func12, Tryd.ntmps12
          go_wp2_with fail
          refine (CA.out _).mono ?_
          rintro e w1 ⟨rfl, b1⟩
          go_wp2_with fail
          refine (CB.out _).mono ?_
          rintro e w2 ⟨rfl, b2⟩
          have b3 := b1.trans (b2.mono b1.size)
          go_wp2_with fail
          go_ret
          rw [F.out]
          exact .mk_ b3
      · have hn := not_under h3 hlt
        have e0 : decide ((t.size : Int) < (s.size : Int)) = false := decide_eq_false (by omega)
        have e1 : decide (t.size < s.size) = false := decide_eq_false hlt
        have hu := h4.trans (under_iff t s)
        subst hn
        clear h3 h4
        by_cases hl2 : s.size < t.size
        · have e2 : decide ((s.size : Int) < (t.size : Int)) = true := decide_eq_true (by omega)
          have e3 : decide (s.size < t.size) = true := decide_eq_true hl2
          have q0 : (0 : Int) ≤ (s.size : Int) := by omega
          have q1 : (s.size : Int) < (t.size : Int) := by omega
          have q2 : (s.size : Int) ≤ (t.size : Int) := by omega
          by_cases heq : t.extract 0 s.size = s
          · have f1 : ((t.extract 0 s.size).toList == s.toList) = true := (eq_toList _ _).2 heq
            by_cases h47 : t[s.size] = 47
            · have f2 : (((t[s.size]).toNat : Int) == 47) = true := by rw [h47]; rfl
              have hy : u2 = true := hu.2 ⟨hl2, heq, h47⟩
              subst hy
              clear hu h47 heq
              go_enter Tryd.func12, Tryd.ntmps12
              go_wp2_with fail
              refine (CA.out _).mono ?_
              rintro e w1 ⟨rfl, b1⟩
              go_wp2_with fail
              refine (CB.out _).mono ?_
              rintro e w2 ⟨rfl, b2⟩
              have b3 := b1.trans (b2.mono b1.size)
              go_wp2_with fail
              go_ret
              rw [F.out]
              exact .mk_ b3
            · have f2 : (((t[s.size]).toNat : Int) == 47) = false := by
                rw [beq_eq_false_iff_ne]
                intro e
                exact h47 (UInt8.toNat_inj.1 (by rw [show (47 : UInt8).toNat = 47 from rfl]; omega))
              have hy : u2 = false := by
                rw [← Bool.not_eq_true]
                intro e
                obtain ⟨_, _, h⟩ := hu.1 e
                exact h47 h
              subst hy
              clear hu h47 heq
              go_enter Tryd.func12, Tryd.ntmps12
              go_wp2_with fail
              refine (CA.out _).mono ?_
              rintro e w1 ⟨rfl, b1⟩
              go_wp2_with fail
              refine (CB.out _).mono ?_
              rintro e w2 ⟨rfl, b2⟩
              have b3 := b1.trans (b2.mono b1.size)
              go_wp2_with fail
              go_ret
              rw [F.out]
              exact .mk_ b3
          · have f1 : ((t.extract 0 s.size).toList == s.toList) = false := (ne_toList _ _).2 heq
            have hy : u2 = false := by
              rw [← Bool.not_eq_true]
              intro e
              obtain ⟨_, h, _⟩ := hu.1 e
              exact heq h
            subst hy
            clear hu heq
            go_enter Tryd.func12, Tryd.ntmps12
            go_wp2_with fail
            refine (CA.out _).mono ?_
            rintro e w1 ⟨rfl, b1⟩
            go_wp2_with fail
            refine (CB.out _).mono ?_
            rintro e w2 ⟨rfl, b2⟩
            have b3 := b1.trans (b2.mono b1.size)
            go_wp2_with fail
            go_ret
            rw [F.out]
            exact .mk_ b3
        · have e2 : decide ((s.size : Int) < (t.size : Int)) = false := decide_eq_false (by omega)
          have e3 : decide (s.size < t.size) = false := decide_eq_false hl2
          have hy : u2 = false := by
            rw [← Bool.not_eq_true]
            intro e
            obtain ⟨h, _⟩ := hu.1 e
            exact hl2 h
          subst hy
          clear hu
          go_enter Tryd.func12, Tryd.ntmps12
          go_wp2_with fail
          refine (CA.out _).mono ?_
          rintro e w1 ⟨rfl, b1⟩
          go_wp2_with fail
          refine (CB.out _).mono ?_
          rintro e w2 ⟨rfl, b2⟩
          have b3 := b1.trans (b2.mono b1.size)
          go_wp2_with fail
          go_ret
          rw [F.out]
          exact .mk_ b3
end Go.Proofs.YtdjfglebnblfkabDoor
