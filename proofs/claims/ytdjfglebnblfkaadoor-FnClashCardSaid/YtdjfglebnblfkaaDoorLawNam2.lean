/-
  Walks of the laws on the parts of names: joined, counted, matched by a star.
-/
import Derived.Test.YtdjfglebnblfkaaDoorLawNam1
namespace Go.Proofs.YtdjfglebnblfkaaDoor
open Go.RowKit Wo Pu Nm

/-- A list of texts: what the laws read of it. -/
def RowsOf (ts : List ByteArray) (w : World) (e : Ending) (w' : World) : Prop := ∃ A c, e = .returned (.slice A ts.length c) ∧ Row w' w'.heap.size A (txts ts) ∧ ts.length ≤ c ∧ Below w.heap.size w w'
theorem TextsOf.rows {ts : List ByteArray} {w w' : World} {e : Ending} (h : TextsOf ts w e w') : RowsOf ts w e w' := by
  obtain ⟨A, c, rfl, ho, hb⟩ := h
  obtain ⟨A', c', e, hr, hc⟩ := ho.form2
  injection e with e1 e2 e3
  subst e1
  subst e3
  exact ⟨_, _, rfl, hr, hc, hb⟩
theorem partsOf_few (s : ByteArray) (v : Bool) (hs : s.size ≤ 23) : (partsOf s v).length ≤ 24 := by
  cases v
  · simp [partsOf]
  · have := cutB_few s
    rw [partsOf_true]
    omega
/-- The first k of ts, joined by slashes, are x. -/
def Joined (ts : List ByteArray) (k : Nat) (x : ByteArray) : Prop := bl x = join ((ts.map bl).take k)
theorem Joined.one {ts : List ByteArray} (h : 0 < ts.length) : Joined ts 1 ts[0] := by
  unfold Joined
  obtain ⟨t, r, e⟩ : ∃ t r, ts = t :: r := by
    cases ts with
    | nil => simp at h
    | cons t r => exact ⟨t, r, rfl⟩
  subst e
  rfl
theorem Joined.next {ts : List ByteArray} {k : Nat} {x : ByteArray} (h : Joined ts k x) (h0 : 1 ≤ k) (hk : k < ts.length) : Joined ts (k + 1) (x ++ (⟨#[47]⟩ : ByteArray) ++ ts[k]) := by
  unfold Joined at h ⊢
  have hl : k < (ts.map bl).length := by rw [List.length_map]; exact hk
  rw [List.take_succ_eq_append_getElem hl, join_append (by intro e; have := congrArg List.length e; rw [List.length_take, List.length_nil, List.length_map] at this; omega) (by simp), ← h, join_one, bl_append, app_slash, List.append_assoc, List.getElem_map]
  rfl
theorem Joined.all {s x : ByteArray} (h : Joined (cutB s) (cutB s).length x) : x = s := by
  unfold Joined at h
  rw [List.take_of_length_le (by simp), bl_cutB, join_cut] at h
  exact bl_inj h
theorem FnNameParts_no (A : Option Addr) (c : Nat) (bs : List Int) (w : World) (h : Code_ w A c bs) (hl : ¬ bs.length ≤ 1048576) :
    Calls Tryd.prog 3 #[.slice A bs.length c] w (Ret (.bool true) w) := by
  have hc := h.2.1
  have hm := h.2.2.1
  unfold maxLen at hm
  go_enter Tryd.func3, Tryd.ntmps3
  go_wp2
  go_ret
  exact .mk_ (Below.refl _ _)
set_option maxRecDepth 100000 in
set_option maxHeartbeats 4000000 in
theorem FnNameParts_yes (A : Option Addr) (c : Nat) (bs : List Int) (w : World) (h : Code_ w A c bs) (hl : bs.length ≤ 1048576) :
    Calls Tryd.prog 3 #[.slice A bs.length c] w (Ret (.bool true) w) := by
  go_enter Tryd.func3, Tryd.ntmps3
  go_wp2_with fail
  refine (DrawNameParts_any A c bs _ h).mono ?_
  rintro e w1 ⟨s, rfl, hs, b1⟩
  obtain ⟨v, hv⟩ := bool_of (Name (bl s))
  obtain ⟨ts, hts⟩ : ∃ ts, partsOf s v = ts := ⟨_, rfl⟩
  have hfew : ts.length ≤ 24 := by rw [← hts]; exact partsOf_few s v hs
  have IM : Hid (∀ x, Calls Tryd.prog 12 #[.string s] x (RowsOf ts x)) := fun x => by subst hts; exact (implNameParts_is v s x hv (by unfold maxLen; omega)).mono fun _ _ h => h.rows
  have SM : Hid (∀ x, Calls Tryd.prog 13 #[.string s] x (RowsOf ts x)) := fun x => by subst hts; exact (specNameParts_is v s x hv (by omega)).mono fun _ _ h => h.rows
  have HV := hid hv
  have HT := hid hts
  clear hv hts
  go_wp2_with fail
  refine (IM.out _).mono ?_
  rintro e w2 ⟨A2, c2, rfl, r2, k2, hb2⟩
  have b2 := b1.trans (hb2.mono b1.size)
  clear IM hb2 b1
  go_wp2_with fail
  refine (SM.out _).mono ?_
  rintro e w3 ⟨A3, c3, rfl, r3, k3, hb3⟩
  have b3 := b2.trans (hb3.mono b2.size)
  have q2 := (r2.below hb3 (Nat.le_refl _)).more hb3.size
  clear SM hb3 b2 r2
  go_wp2_with fail
  refine (sameTexts_ret A2 A3 c2 c3 ts w3 q2 r3 (by unfold maxLen; omega)).mono ?_
  rintro e w4 ⟨rfl, hb4⟩
  have b4 := b3.trans (hb4.mono b3.size)
  have r4 := (q2.below hb4 (Nat.le_refl _)).more hb4.size
  have q4 := (r3.below hb4 (Nat.le_refl _)).more hb4.size
  clear hb4 b3 q2 r3
  by_cases h0 : ts.length = 0
  · have e0 : ((ts.length : Int) == 0) = true := by rw [beq_iff_eq]; omega
    clear h0
    go_wp2_with fail
    refine (sameTexts_ret A2 A3 c2 c3 ts _ r4 q4 (by unfold maxLen; omega)).mono ?_
    rintro e w5 ⟨rfl, hb5⟩
    go_wp2_with fail
    go_ret
    exact .mk_ (b4.trans (hb5.mono b4.size))
  · have e0 : ((ts.length : Int) == 0) = false := by rw [beq_eq_false_iff_ne]; omega
    have hv : v = true := by
      cases v with
      | true => rfl
      | false =>
        have := HT.out
        rw [partsOf_false] at this
        exact absurd (by rw [← this]; rfl) h0
    subst hv
    have hn := HV.out.1 rfl
    have hcut : cutB s = ts := HT.out
    have hall := ((name_iff s).1 hn).2
    have HP : Hid (∀ t ∈ ts, Name (bl t) ∧ t.size ≤ 12) := fun t ht => by
      rw [← hcut] at ht
      have h1 := hn.part (p := bl t) (by rw [← bl_cutB]; exact List.mem_map_of_mem ht)
      exact ⟨h1, by have := h1.1; rwa [bl_size] at this⟩
    have HJ : Hid (∀ x, Joined ts ts.length x → x = s) := fun x hx => by rw [← hcut] at hx; exact hx.all
    clear HV HT hn hcut hall q4
    have hpos : 0 < ts.length := by omega
    obtain ⟨ad, rfl, had, hc⟩ := r4.str_ hpos
    have j1 := hid (Joined.one hpos)
    have z1 : ts[0].size ≤ 12 := (HP.out _ (List.getElem_mem hpos)).2
    rw [add_zero] at hc
    go_wp2_with fail
    go_loopw [6, 7] (fun x i wr => ∃ (k : Nat) (y : ByteArray), 1 ≤ k ∧ k ≤ ts.length ∧ i = .int .i64 k ∧ x = .string y ∧ Hid (Joined ts k y) ∧ y.size ≤ 13 * k ∧ w4 = wr) (fun _ i _ => ts.length - (intOf i).toNat)
    case atStart => exact ⟨1, _, Nat.le_refl _, hpos, rfl, rfl, j1, by omega, rfl⟩
    case round =>
      clear j1 z1
      obtain ⟨k, y, h1, hk, rfl, rfl, HJk, hy, rfl⟩ := hrel
      by_cases hlk : k < ts.length
      · obtain ⟨ad', e', had', hck⟩ := r4.str_ hlk
        injection e' with e'
        subst e'
        have HN := hid (HJk.out.next h1 hlk)
        have z2 : ts[k].size ≤ 12 := (HP.out _ (List.getElem_mem hlk)).2
        have hsz := slash_size y ts[k]
        have q0 : (0 : Int) ≤ (k : Int) := by omega
        have q1 : (k : Int) < (ts.length : Int) := by omega
        clear HJk
        go_wp2
        go_roundw
        case rel => exact ⟨k + 1, _, by omega, by omega, by go_num, rfl, HN, by omega, by first | rfl | trivial⟩
        case measure => simp [intOf]; omega
      · have hk' : k = ts.length := by omega
        subst hk'
        have HE := hid (HJ.out _ HJk.out)
        clear HJk HJ
        go_wp2_with fail
        go_loopw [8] (fun i wr => ∃ k : Nat, k ≤ ts.length ∧ i = .int .i64 k ∧ Row wr wr.heap.size (some ad) (txts ts) ∧ Below w.heap.size w wr) (fun i _ => ts.length - (intOf i).toNat)
        case atStart => exact ⟨0, Nat.zero_le _, rfl, r4, b4⟩
        case round =>
          obtain ⟨k, hk, rfl, hr, hb⟩ := hrel
          clear r4 b4 hc
          by_cases hlk : k < ts.length
          · obtain ⟨ad', e', had', hck⟩ := hr.str_ hlk
            injection e' with e'
            subst e'
            have CV : Hid (∀ x, Calls Tryd.prog 15 #[.string ts[k]] x (Ret (.bool true) x)) := fun x => by
              obtain ⟨g1, g2⟩ := HP.out _ (List.getElem_mem hlk)
              exact valid_any _ g1 (by unfold maxLen; omega) x
            have q0 : (0 : Int) ≤ (k : Int) := by omega
            have q1 : (k : Int) < (ts.length : Int) := by omega
            have hz := hb.size
            go_wp2_with fail
            refine (CV.out _).mono ?_
            rintro e w6 ⟨rfl, hb6⟩
            have hr6 := (hr.below hb6 (Nat.le_refl _)).more hb6.size
            have hb7 := hb.trans (hb6.mono hz)
            clear CV hr hb hb6 hck
            go_wp2_with fail
            go_roundw
            case rel => exact ⟨k + 1, by omega, by go_num, hr6, hb7⟩
            case measure => simp [intOf]; omega
          · have hk' : k = ts.length := by omega
            subst hk'
            have e1 : (y.toList == s.toList) = true := (eq_toList _ _).2 HE.out
            go_wp2
            go_ret
            exact .mk_ hb
theorem FnNameParts_any (A : Option Addr) (c : Nat) (bs : List Int) (w : World) (f1 : Row w w.heap.size A (bs.map (Value.int .u8))) (f2 : bs.length ≤ c) (f3 : c ≤ maxLen) (f4 : ∀ n ∈ bs, 0 ≤ n ∧ n < 256) :
    Calls Tryd.prog 3 #[.slice A bs.length c] w (Ret (.bool true) w) := by
  by_cases hl : bs.length ≤ 1048576
  · exact FnNameParts_yes A c bs w ⟨f1, f2, f3, f4⟩ hl
  · exact FnNameParts_no A c bs w ⟨f1, f2, f3, f4⟩ hl
/-- A loop that counts slashes: so many among the first k bytes. -/
def Cnt (s : ByteArray) (k n : Nat) : Prop := ((bl s).take k).count 47 + 1 = n
theorem Cnt.zero (s : ByteArray) : Cnt s 0 1 := by unfold Cnt; simp
theorem Cnt.step {s : ByteArray} {k n : Nat} (h : Cnt s k n) (hk : k < s.size) : Cnt s (k + 1) (if s[k] = 47 then n + 1 else n) := by
  unfold Cnt at h ⊢
  have hl := bl_size s
  rw [List.take_succ_eq_append_getElem (by omega), List.count_append, bl_at s hk]
  by_cases e : s[k] = 47
  · rw [if_pos e, e]; simp; omega
  · rw [if_neg e, List.count_cons_of_ne e, List.count_nil]; omega
theorem Cnt.yes {s : ByteArray} {k n : Nat} (h : Cnt s k n) (hk : k < s.size) (e : s[k] = 47) : Cnt s (k + 1) (n + 1) := by have := h.step hk; rwa [if_pos e] at this
theorem Cnt.no {s : ByteArray} {k n : Nat} (h : Cnt s k n) (hk : k < s.size) (e : ¬ s[k] = 47) : Cnt s (k + 1) n := by have := h.step hk; rwa [if_neg e] at this
theorem Cnt.all {s : ByteArray} {n : Nat} (h : Cnt s s.size n) : (cutB s).length = n := by
  unfold Cnt at h
  rw [List.take_of_length_le (by rw [bl_size]; omega)] at h
  rw [cutB_length]
  exact h
theorem byte_yes {b : UInt8} (h : b = 47) : ((b.toNat : Int) == 47) = true := by rw [h]; rfl
theorem byte_no {b : UInt8} (h : ¬ b = 47) : ((b.toNat : Int) == 47) = false := by
  rw [beq_eq_false_iff_ne]
  intro e
  exact h (UInt8.toNat_inj.1 (by rw [show (47 : UInt8).toNat = 47 from rfl]; omega))
theorem FnMatchOne_no (A : Option Addr) (c : Nat) (bs : List Int) (w : World) (h : Code_ w A c bs) (hl : ¬ bs.length ≤ 1048576) :
    Calls Tryd.prog 9 #[.slice A bs.length c] w (Ret (.bool true) w) := by
  have hc := h.2.1
  have hm := h.2.2.1
  unfold maxLen at hm
  go_enter Tryd.func9, Tryd.ntmps9
  go_wp2
  go_ret
  exact .mk_ (Below.refl _ _)
set_option maxRecDepth 100000 in
set_option maxHeartbeats 4000000 in
theorem FnMatchOne_yes (A : Option Addr) (c : Nat) (bs : List Int) (w : World) (h : Code_ w A c bs) (hl : bs.length ≤ 1048576) :
    Calls Tryd.prog 9 #[.slice A bs.length c] w (Ret (.bool true) w) := by
  go_enter Tryd.func9, Tryd.ntmps9
  go_wp2_with fail
  refine (DrawNameParts_any A c bs _ h).mono ?_
  rintro e w1 ⟨s, rfl, hs, b1⟩
  obtain ⟨v, hv⟩ := bool_of (Name (bl s))
  obtain ⟨ts, hts⟩ : ∃ ts, partsOf s v = ts := ⟨_, rfl⟩
  have hfew : ts.length ≤ 24 := by rw [← hts]; exact partsOf_few s v hs
  have IM : Hid (∀ x, Calls Tryd.prog 12 #[.string s] x (RowsOf ts x)) := fun x => by subst hts; exact (implNameParts_is v s x hv (by unfold maxLen; omega)).mono fun _ _ h => h.rows
  have SM : Hid (∀ x, Calls Tryd.prog 13 #[.string s] x (RowsOf ts x)) := fun x => by subst hts; exact (specNameParts_is v s x hv (by omega)).mono fun _ _ h => h.rows
  have HV := hid hv
  have HT := hid hts
  clear hv hts
  go_wp2_with fail
  refine (IM.out _).mono ?_
  rintro e w2 ⟨A2, c2, rfl, r2, k2, hb2⟩
  have b2 := b1.trans (hb2.mono b1.size)
  clear IM hb2 b1
  go_wp2_with fail
  refine (SM.out _).mono ?_
  rintro e w3 ⟨A3, c3, rfl, r3, k3, hb3⟩
  have b3 := b2.trans (hb3.mono b2.size)
  have q2 := (r2.below hb3 (Nat.le_refl _)).more hb3.size
  clear SM hb3 b2 r2
  go_wp2_with fail
  refine (sameTexts_ret A2 A3 c2 c3 ts w3 q2 r3 (by unfold maxLen; omega)).mono ?_
  rintro e w4 ⟨rfl, hb4⟩
  have b4 := b3.trans (hb4.mono b3.size)
  have r4 := (q2.below hb4 (Nat.le_refl _)).more hb4.size
  have q4 := (r3.below hb4 (Nat.le_refl _)).more hb4.size
  clear hb4 b3 q2 r3
  by_cases h0 : ts.length = 2
  · have e0 : ((ts.length : Int) != 2) = false := by rw [bne_eq_false_iff_eq]; omega
    have hv : v = true := by
      cases v with
      | true => rfl
      | false =>
        have := HT.out
        rw [partsOf_false] at this
        rw [← this] at h0
        cases h0
    subst hv
    have hn := HV.out.1 rfl
    have h12 : s.size ≤ 12 := ((name_iff s).1 hn).1
    obtain ⟨t, u, htu⟩ : ∃ t u, ts = [t, u] := by
      match ts, h0 with
      | [t, u], _ => exact ⟨t, u, rfl⟩
    have hcut : cutL (bl s) = [bl t, bl u] := by rw [← bl_cutB, show cutB s = ts from HT.out, htu]; rfl
    have zt : t.size ≤ 12 := by have := cut_le (L := bl s) (p := bl t) (by rw [hcut]; simp); rw [bl_size, bl_size] at this; omega
    have zu : u.size ≤ 12 := by have := cut_le (L := bl s) (p := bl u) (by rw [hcut]; simp); rw [bl_size, bl_size] at this; omega
    have s1 : ((⟨#[42, 47]⟩ : ByteArray) ++ u).size = 2 + u.size := ByteArray.size_append
    have s2 : (t ++ (⟨#[47, 42]⟩ : ByteArray)).size = t.size + 2 := ByteArray.size_append
    have t1 : bl ((⟨#[42, 47]⟩ : ByteArray) ++ u) = [42] ++ 47 :: bl u := by rw [bl_append]; rfl
    have t2 : bl (t ++ (⟨#[47, 42]⟩ : ByteArray)) = bl t ++ 47 :: [42] := by rw [bl_append]; rfl
    have C1 : Hid (u.size + 2 ≤ 12 → ∀ x, Calls Tryd.prog 18 #[.string ((⟨#[42, 47]⟩ : ByteArray) ++ u), .string s] x (Ret (.bool true) x)) := fun hu x => match_any _ s (by rw [t1]; exact mat_front hn hcut (by rw [bl_size]; exact hu)) (by omega) (by omega) x
    have C2 : Hid (t.size + 2 ≤ 12 → ∀ x, Calls Tryd.prog 18 #[.string (t ++ (⟨#[47, 42]⟩ : ByteArray)), .string s] x (Ret (.bool true) x)) := fun ht x => match_any _ s (by rw [t2]; exact mat_back hn hcut (by rw [bl_size]; exact ht)) (by omega) (by omega) x
    have C3 : Hid (∀ x, Calls Tryd.prog 18 #[.string t, .string s] x (Ret (.bool false) x)) := fun x => nomatch_any t s (mat_one hn hcut) (by omega) (by omega) x
    clear HV HT hn hcut t1 t2 q4
    obtain ⟨ad, rfl, had, g0⟩ := r4.str_ (k := 0) (by omega)
    obtain ⟨ad', e', had', g1⟩ := r4.str_ (k := 1) (by omega)
    injection e' with e'
    subst e'
    have j0 : ts[0] = t := by simp [htu]
    have j1 : ts[1] = u := by simp [htu]
    rw [j0, add_zero] at g0
    rw [j1] at g1
    have g2 : w4.cell? ⟨ad.block, ad.off + 1, none⟩ = some (.string u) := g1
    rw [h0]
    clear j0 j1 htu r4 h0 e0
    by_cases hu : u.size + 2 ≤ 12
    · have d0 : decide ((12 : Int) < (u.size : Int) + 2) = false := decide_eq_false (by omega)
      have d1 : decide (12 < u.size + 2) = false := decide_eq_false (by omega)
      have C1' := hid (C1.out hu)
      clear C1
      go_wp2_with fail
      refine (C1'.out _).mono ?_
      rintro e w5 ⟨rfl, hb5⟩
      have b5 := b4.trans (hb5.mono b4.size)
      have x0 := (hb5.cell had).trans g0
      have hw5 := Nat.lt_of_lt_of_le had hb5.size
      clear hb5 b4 g0 g1
      by_cases ht : t.size + 2 ≤ 12
      · have d2 : decide ((12 : Int) < (t.size : Int) + 2) = false := decide_eq_false (by omega)
        have d3 : decide (12 < t.size + 2) = false := decide_eq_false (by omega)
        have C2' := hid (C2.out ht)
        clear C2
        go_wp2_with fail
        refine (C2'.out _).mono ?_
        rintro e w6 ⟨rfl, hb6⟩
        have b6 := b5.trans (hb6.mono (b5).size)
        have y0 := (hb6.cell hw5).trans x0
        clear hb6
        go_wp2_with fail
        refine (C3.out _).mono ?_
        rintro e w7 ⟨rfl, hb7⟩
        have b7 := b6.trans (hb7.mono b6.size)
        go_wp2_with fail
        go_ret
        exact .mk_ b7
      · have d2 : decide ((12 : Int) < (t.size : Int) + 2) = true := decide_eq_true (by omega)
        have d3 : decide (12 < t.size + 2) = true := decide_eq_true (by omega)
        clear C2
        go_wp2_with fail
        refine (C3.out _).mono ?_
        rintro e w7 ⟨rfl, hb7⟩
        have b7 := b5.trans (hb7.mono (b5).size)
        go_wp2_with fail
        go_ret
        exact .mk_ b7
    · have d0 : decide ((12 : Int) < (u.size : Int) + 2) = true := decide_eq_true (by omega)
      have d1 : decide (12 < u.size + 2) = true := decide_eq_true (by omega)
      clear C1
      by_cases ht : t.size + 2 ≤ 12
      · have d2 : decide ((12 : Int) < (t.size : Int) + 2) = false := decide_eq_false (by omega)
        have d3 : decide (12 < t.size + 2) = false := decide_eq_false (by omega)
        have C2' := hid (C2.out ht)
        clear C2
        go_wp2_with fail
        refine (C2'.out _).mono ?_
        rintro e w6 ⟨rfl, hb6⟩
        have b6 := b4.trans (hb6.mono (b4).size)
        have y0 := (hb6.cell had).trans g0
        clear hb6
        go_wp2_with fail
        refine (C3.out _).mono ?_
        rintro e w7 ⟨rfl, hb7⟩
        have b7 := b6.trans (hb7.mono b6.size)
        go_wp2_with fail
        go_ret
        exact .mk_ b7
      · have d2 : decide ((12 : Int) < (t.size : Int) + 2) = true := decide_eq_true (by omega)
        have d3 : decide (12 < t.size + 2) = true := decide_eq_true (by omega)
        clear C2
        go_wp2_with fail
        refine (C3.out _).mono ?_
        rintro e w7 ⟨rfl, hb7⟩
        have b7 := b4.trans (hb7.mono (b4).size)
        go_wp2_with fail
        go_ret
        exact .mk_ b7
  · have e0 : ((ts.length : Int) != 2) = true := by rw [bne_iff_ne]; omega
    clear h0
    go_wp2_with fail
    refine (sameTexts_ret A2 A3 c2 c3 ts _ r4 q4 (by unfold maxLen; omega)).mono ?_
    rintro e w5 ⟨rfl, hb5⟩
    go_wp2_with fail
    go_ret
    exact .mk_ (b4.trans (hb5.mono b4.size))
theorem FnMatchOne_any (A : Option Addr) (c : Nat) (bs : List Int) (w : World) (f1 : Row w w.heap.size A (bs.map (Value.int .u8))) (f2 : bs.length ≤ c) (f3 : c ≤ maxLen) (f4 : ∀ n ∈ bs, 0 ≤ n ∧ n < 256) :
    Calls Tryd.prog 9 #[.slice A bs.length c] w (Ret (.bool true) w) := by
  by_cases hl : bs.length ≤ 1048576
  · exact FnMatchOne_yes A c bs w ⟨f1, f2, f3, f4⟩ hl
  · exact FnMatchOne_no A c bs w ⟨f1, f2, f3, f4⟩ hl
end Go.Proofs.YtdjfglebnblfkaaDoor
