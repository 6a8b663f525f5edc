/-
  Walks: the program's StoreReach and StoreMissing.
-/
import Derived.Test.YtfdilnibhcnkgaaReachI
namespace Go.Proofs.Ytfdilnibhcnkgaa
open Go.RowKit Wo Pu

/-- Two lists do not lie in one block. -/
def Apt (v u : Value) : Prop := ∀ g, v.ownBlock = some g → u.ownBlock ≠ some g
theorem Apt.symm {v u : Value} (h : Apt v u) : Apt u v := fun g h1 h2 => h g h2 h1
theorem Own.keep_ {w w' : World} {B : Nat} {v u : Value} {zs : List Int} (h : Own w B v zs) (hg : w.grownBy w' u.ownBlock) (ha : Apt v u) : Own w' B v zs :=
  World.ownsRow.kept h hg (by
    rcases hv : v.ownBlock with _ | k
    · exact .inl rfl
    · exact .inr (fun e => ha k hv e.symm))
theorem Apt.new_ {w : World} {B g n c : Nat} {v u : Value} {zs : List Int} (h : Apt u v) (hu : Own w B u zs) (hat : v.ownBlock = some g ∨ w.heap.size ≤ g) : Apt u (.slice (some ⟨g, 0, none⟩) n c) := fun q h1 h2 => by
  have h2' : some g = some q := h2
  injection h2' with h2'
  subst h2'
  rcases hat with e | e
  · exact h g h1 e
  · have := (World.ownsRow.lt hu g h1).2; omega

/-- What is reached, in two lists of the call's own. -/
def BothAs (os : List Ob) (fr : List Int) (w : World) (e : Ending) (w' : World) : Prop :=
  ∃ L v1 v2, RcList os fr L ∧ e = .returned (.tuple #[v1, v2]) ∧ Own w' w.heap.size v1 (reachL os L) ∧ Own w' w.heap.size v2 (missL os L) ∧ Below w.heap.size w w'


set_option maxRecDepth 100000 in
set_option maxHeartbeats 4000000 in
theorem reachedIds_any (A A' : Option Addr) (c c' : Nat) (os : List Ob) (fr : List Int) (w : World) (h : Objs w w.heap.size A os) (HS : Hid (storeB os = true)) (hn16 : os.length ≤ 16) (hfr : Row w w.heap.size A' (ints fr)) (HF : Hid (fr.Nodup ∧ ∀ x ∈ fr, 0 ≤ x ∧ x < 991)) (h4 : fr.length ≤ 4) :
    Calls Try.prog 45 #[.slice A os.length c, .slice A' fr.length c'] w (BothAs os fr w) := by
  obtain ⟨i0, hi, hz0, hz1, hz2⟩ := info_of info_int
  have hf : Fit os := fun o ho => by
    obtain ⟨j, hj, rfl⟩ := List.mem_iff_getElem.1 ho
    have := vldB_parts (storeB_valid HS.out j hj : vldB os[j].kd os[j].zs os[j].s.size = true)
    unfold maxLen; omega
  go_enter Try.func45, Try.ntmps45
  go_wp2_with fail
  refine (markReached_any A A' c c' os fr w h HS hn16 hfr HF h4).mono ?_
  rintro e w1 ⟨V, cur, hrc, rfl, hsz, hmem, b1⟩
  have HRC := hid hrc
  have HM := hid hmem
  have HALL := hid (arr_ones hsz hmem)
  clear hrc hmem
  have hzw := b1.size
  have hres0 := setRow_heap (w1.alloc (.cells Try.zeroCells76 76)) w1.heap.size _ cur 76 (0, 0) (heap_alloc_new w1 _)
  have hbS := below_setRow ((Below.refl w1.heap.size w1).alloc (Nat.le_refl _) (.cells Try.zeroCells76 76)) (Nat.le_refl _) cur
  have zS : ((w1.alloc (.cells Try.zeroCells76 76)).setRow w1.heap.size cur).heap.size = w1.heap.size + 1 := by simp
  obtain ⟨w2, hw2⟩ : ∃ w2, (w1.alloc (.cells Try.zeroCells76 76)).setRow w1.heap.size cur = w2 := ⟨_, rfl⟩
  rw [hw2] at hres0 hbS zS
  have b2 := b1.trans (hbS.mono b1.size)
  have ar2 : Arr w2 w1.heap.size V := ⟨cur, hres0, hsz, HM.out⟩
  have al1 := (Below.refl w2.heap.size w2).alloc (Nat.le_refl _) (.cells #[] 3)
  have al2 := al1.alloc al1.size (.cells #[] 3)
  have o1 : Own ((w2.alloc (.cells #[] 3)).alloc (.cells #[] 3)) (w1.heap.size + 1) (.slice (some ⟨w1.heap.size + 1, 0, none⟩) 0 0) [] := by
    have := (Own.nil_new (w := w2) (B := w1.heap.size + 1) (by omega)).below ((Below.refl _ _).alloc (Nat.le_refl _) (.cells #[] 3)) (Nat.le_refl _)
    rw [zS] at this; exact this
  have o2 : Own ((w2.alloc (.cells #[] 3)).alloc (.cells #[] 3)) (w1.heap.size + 1) (.slice (some ⟨w1.heap.size + 1 + 1, 0, none⟩) 0 0) [] := by
    have := Own.nil_new (w := w2.alloc (.cells #[] 3)) (B := w1.heap.size + 1) (by simp; omega)
    rw [World.size_alloc, zS] at this; exact this
  obtain ⟨w3, hw3⟩ : ∃ w3, (w2.alloc (.cells #[] 3)).alloc (.cells #[] 3) = w3 := ⟨_, rfl⟩
  rw [hw3] at al2 o1 o2
  have b3 := b2.trans (al2.mono b2.size)
  have ar3 := ar2.below al2 ar2.lt
  have z3 : w1.heap.size + 1 ≤ w3.heap.size := by have := al2.size; omega
  have HW2 := hid hw2
  have HW3 := hid hw3
  have HSZ := hid hsz
  clear hres0 hbS b2 ar2 al1 al2 hw2 hw3 hsz HM b1
  go_wp2_with (refine wpList_store_rowTo rfl 76 _ _ rfl rfl w1.heap.size cur rfl rfl 76 Try.zeroCells76 (heap_alloc_new w1 _) (by rw [HSZ.out]; exact info_marks) (by rw [zero_marks, Array.size_replicate, HSZ.out]) HALL.out ?_; rw [HW2.out])
  rw [HW3.out]
  clear HW2 HW3 zS
  have ap0 : Apt (.slice (some ⟨w1.heap.size + 1, 0, none⟩) 0 0) (.slice (some ⟨w1.heap.size + 1 + 1, 0, none⟩) 0 0) := fun g h1 h2 => by
    have h1' : some (w1.heap.size + 1) = some g := h1
    have h2' : some (w1.heap.size + 1 + 1) = some g := h2
    injection h1' with h1'
    injection h2' with h2'
    omega
  go_loopw [7, 8, 17] (fun v u i wr => ∃ k : Nat, i = .int .i64 k ∧ k ≤ 991 ∧ Own wr (w1.heap.size + 1) v ((sortedTo V k).filter (isIn os)) ∧ Own wr (w1.heap.size + 1) u ((sortedTo V k).filter (fun x => !isIn os x)) ∧ Apt v u ∧ Arr wr w1.heap.size V ∧ Below w.heap.size w wr ∧ w1.heap.size + 1 ≤ wr.heap.size) (fun _ _ i _ => 991 - (intOf i).toNat)
  case atStart => exact ⟨0, rfl, by omega, o1, o2, ap0, ar3, b3, z3⟩
  case round =>
    obtain ⟨k, rfl, hk, ho, hu, hap, har, hb, hz1w⟩ := hrel
    clear o1 o2 ar3 b3 z3 ap0
    have hz := hb.size
    have hls := sortedTo_length V k
    have hlf : ((sortedTo V k).filter (isIn os)).length ≤ k := Nat.le_trans (List.length_filter_le _ _) hls
    have hlg : ((sortedTo V k).filter (fun x => !isIn os x)).length ≤ k := Nat.le_trans (List.length_filter_le _ _) hls
    obtain ⟨AF, cF, rfl, _⟩ := ho.form
    obtain ⟨AG, cG, rfl, _⟩ := hu.form
    by_cases hlt : k < 991
    · have hrd := har.read hlt
      have k0 : 0 ≤ (k : Int) := by omega
      have k1 : (k : Int) < 991 := by omega
      cases hv : decide ((k : Int) ∈ V)
      · rw [hv] at hrd
        have HE : Hid (sortedTo V (k + 1) = sortedTo V k) := sortedTo_no (of_decide_eq_false hv)
        clear hv
        go_wp2_with fail
        go_roundw
        case rel => exact ⟨k + 1, by go_num, by omega, by rw [HE.out]; exact ho, by rw [HE.out]; exact hu, hap, har, hb, hz1w⟩
        case measure => simp [intOf]; omega
      · rw [hv] at hrd
        have HV := hid hv
        obtain ⟨r, hr⟩ := at_ex os (k : Int)
        have HR := hid hr
        clear hv hr
        go_wp2_with fail
        refine (findObject_any A c os k r wr ((h.below hb (Nat.le_refl _)).more hb.size) hf (by unfold maxLen; omega) HR).mono ?_
        rintro e w4 ⟨b, rfl, hbb, hb4⟩
        have hin : isIn os (k : Int) = b := by rw [Bool.eq_iff_iff, isIn_at HS.out HR.out, hbb]
        have HIN := hid hin
        have b4 := hb.trans (hb4.mono hz)
        have ho4 := ho.below hb4 (Nat.le_refl _)
        have hu4 := hu.below hb4 (Nat.le_refl _)
        have ar4 := har.below hb4 har.lt
        have z4 := hb4.size
        have hap2 := hap.symm
        clear hin hbb hrd ho hu har hb hb4
        cases b
        · skip
          have HE : Hid ((sortedTo V (k + 1)).filter (fun x => !isIn os x) = (sortedTo V k).filter (fun x => !isIn os x) ++ [(k : Int)]) := by
            show (sortedTo V (k + 1)).filter (fun x => !isIn os x) = (sortedTo V k).filter (fun x => !isIn os x) ++ [(k : Int)]
            rw [sortedTo_yes (of_decide_eq_true HV.out), List.filter_append]
            congr 1
            rw [List.filter_cons, List.filter_nil, if_pos (by first | exact HIN.out | exact congrArg (fun b => !b) HIN.out)]
          have HE2 : Hid ((sortedTo V (k + 1)).filter (isIn os) = (sortedTo V k).filter (isIn os)) := by
            show (sortedTo V (k + 1)).filter (isIn os) = (sortedTo V k).filter (isIn os)
            rw [sortedTo_yes (of_decide_eq_true HV.out), List.filter_append]
            rw [List.filter_cons, List.filter_nil, if_neg (by rw [Bool.not_eq_true]; first | exact HIN.out | exact congrArg (fun b => !b) HIN.out), List.append_nil]
          go_wp2_with (at_builtin; go_must (refine wpList_append_lies _ rfl _ _ 24 rfl (w1.heap.size + 1) 3 i0 (.int .i64 0) 1 8 Try.underlying24 hi hz0 hz1 hz2 rfl (by decide) _ _ _ rfl (World.ownsRow.alloc hu4 _) ⟨w4.heap.size, 0, none⟩ 1 1 [.int .i64 (k : Int)] rfl rfl (cell_one_new _ _ _) (one_int _) (by omega) (by unfold maxLen; omega) (by omega) (by simp; omega) (w4.heap.size + 1) (by simp) ?_); intro gg cap w7 hown hgrow hat hlt7)
          have ho1 := Own.app hown
          have al := (Below.refl w4.heap.size w4).alloc (Nat.le_refl _) (.cells #[.int .i64 (k : Int)] 3)
          have hb1 : Below w.heap.size w w7 := (b4.alloc b4.size _).grown hgrow (by simp; have := b4.size; omega) (fun q hq => by have := hu4.lt q hq; omega)
          have oB7 := (ho4.below al (Nat.le_refl _)).keep_ hgrow hap
          have ar7 : Arr w7 w1.heap.size V := (ar4.below al ar4.lt).grown hgrow (fun e => by have := hu4.lt _ e.symm; omega)
          have z7 : w1.heap.size + 1 ≤ w7.heap.size := by have := hgrow.size; simp at this; omega
          have ap7 := hap.new_ ho4 (g := gg) (n := ((sortedTo V k).filter (fun x => !isIn os x)).length + 1) (c := cap) (hat.elim (fun e => .inl e) (fun e => .inr (by omega)))
          clear hown hgrow hat
          go_wp2_with fail
          go_roundw
          case rel => exact ⟨k + 1, by go_num, by omega, by rw [HE2.out]; exact oB7, by rw [HE.out]; exact ho1, ap7, ar7, hb1, z7⟩
          case measure => simp [intOf]; omega
        · skip
          have HE : Hid ((sortedTo V (k + 1)).filter (isIn os) = (sortedTo V k).filter (isIn os) ++ [(k : Int)]) := by
            show (sortedTo V (k + 1)).filter (isIn os) = (sortedTo V k).filter (isIn os) ++ [(k : Int)]
            rw [sortedTo_yes (of_decide_eq_true HV.out), List.filter_append]
            congr 1
            rw [List.filter_cons, List.filter_nil, if_pos (by first | exact HIN.out | exact congrArg (fun b => !b) HIN.out)]
          have HE2 : Hid ((sortedTo V (k + 1)).filter (fun x => !isIn os x) = (sortedTo V k).filter (fun x => !isIn os x)) := by
            show (sortedTo V (k + 1)).filter (fun x => !isIn os x) = (sortedTo V k).filter (fun x => !isIn os x)
            rw [sortedTo_yes (of_decide_eq_true HV.out), List.filter_append]
            rw [List.filter_cons, List.filter_nil, if_neg (by rw [Bool.not_eq_true]; first | exact HIN.out | exact congrArg (fun b => !b) HIN.out), List.append_nil]
          go_wp2_with (at_builtin; go_must (refine wpList_append_lies _ rfl _ _ 24 rfl (w1.heap.size + 1) 3 i0 (.int .i64 0) 1 8 Try.underlying24 hi hz0 hz1 hz2 rfl (by decide) _ _ _ rfl (World.ownsRow.alloc ho4 _) ⟨w4.heap.size, 0, none⟩ 1 1 [.int .i64 (k : Int)] rfl rfl (cell_one_new _ _ _) (one_int _) (by omega) (by unfold maxLen; omega) (by omega) (by simp; omega) (w4.heap.size + 1) (by simp) ?_); intro gg cap w7 hown hgrow hat hlt7)
          have ho1 := Own.app hown
          have al := (Below.refl w4.heap.size w4).alloc (Nat.le_refl _) (.cells #[.int .i64 (k : Int)] 3)
          have hb1 : Below w.heap.size w w7 := (b4.alloc b4.size _).grown hgrow (by simp; have := b4.size; omega) (fun q hq => by have := ho4.lt q hq; omega)
          have oB7 := (hu4.below al (Nat.le_refl _)).keep_ hgrow hap2
          have ar7 : Arr w7 w1.heap.size V := (ar4.below al ar4.lt).grown hgrow (fun e => by have := ho4.lt _ e.symm; omega)
          have z7 : w1.heap.size + 1 ≤ w7.heap.size := by have := hgrow.size; simp at this; omega
          have ap7 := hap2.new_ hu4 (g := gg) (n := ((sortedTo V k).filter (isIn os)).length + 1) (c := cap) (hat.elim (fun e => .inl e) (fun e => .inr (by omega)))
          clear hown hgrow hat
          go_wp2_with fail
          go_roundw
          case rel => exact ⟨k + 1, by go_num, by omega, by rw [HE.out]; exact ho1, by rw [HE2.out]; exact oB7, ap7.symm, ar7, hb1, z7⟩
          case measure => simp [intOf]; omega
    · have hk' : k = 991 := by omega
      subst hk'
      go_wp2
      go_ret2
      exact ⟨V, _, _, HRC.out, rfl, ho.base (by omega), hu.base (by omega), hb⟩

set_option maxRecDepth 100000 in
set_option maxHeartbeats 4000000 in
theorem implStoreReach_any (A A' : Option Addr) (c c' : Nat) (os : List Ob) (fr : List Int) (w : World) (h : Objs w w.heap.size A os) (hf : Fit os) (hn : os.length ≤ maxLen) (hfr : Row w w.heap.size A' (ints fr)) (hm : fr.length ≤ maxLen) :
    Calls Try.prog 13 #[.slice A os.length c, .slice A' fr.length c'] w (ReachedAs (reachL os) os fr w) := by
  go_enter Try.func13, Try.ntmps13
  go_wp2_with fail
  refine (implStoreValid_any A c os w h hf hn).mono ?_
  rintro e w1 ⟨rfl, b1⟩
  have hr1 := hfr.below b1 (Nat.le_refl _)
  cases hs : storeB os
  · go_wp2
    go_ret
    exact ⟨[], .inr ⟨by rw [hs]; rfl, rfl⟩, _, rfl, by rw [reachL_nil]; exact .nil_new b1.size, b1.alloc b1.size _⟩
  · have HS := hid hs
    cases hl : linksB fr
    · go_wp2_with fail
      refine (idsValid_any _ A' c' fr w1 hr1 hm).mono ?_
      rintro e w2 ⟨rfl, rfl⟩
      rw [hl]
      go_wp2
      go_ret
      exact ⟨[], .inr ⟨by rw [hl, Bool.and_false], rfl⟩, _, rfl, by rw [reachL_nil]; exact .nil_new b1.size, b1.alloc b1.size _⟩
    · obtain ⟨hF, h4⟩ := linksB_parts hl
      have hn16 := (storeB_parts hs).2
      have HL := hid hl
      have HF := hid hF
      go_wp2_with fail
      refine (idsValid_any _ A' c' fr w1 hr1 hm).mono ?_
      rintro e w2 ⟨rfl, rfl⟩
      rw [hl]
      clear hl hs hF
      go_wp2_with fail
      refine (reachedIds_any A A' c c' os fr w1 ((h.below b1 (Nat.le_refl _)).more b1.size) HS hn16 ((hfr.below b1 (Nat.le_refl _)).more b1.size) HF h4).mono ?_
      rintro e w2 ⟨L, v1, v2, hL, rfl, o1, o2, hb2⟩
      have HL2 := hid hL
      clear hL
      go_wp2
      go_ret
      exact ⟨L, .inl ⟨by rw [HS.out, HL.out]; rfl, HL2.out⟩, _, rfl, o1.base b1.size, b1.trans (hb2.mono b1.size)⟩
set_option maxRecDepth 100000 in
set_option maxHeartbeats 4000000 in
theorem implStoreMissing_any (A A' : Option Addr) (c c' : Nat) (os : List Ob) (fr : List Int) (w : World) (h : Objs w w.heap.size A os) (hf : Fit os) (hn : os.length ≤ maxLen) (hfr : Row w w.heap.size A' (ints fr)) (hm : fr.length ≤ maxLen) :
    Calls Try.prog 20 #[.slice A os.length c, .slice A' fr.length c'] w (ReachedAs (missL os) os fr w) := by
  go_enter Try.func20, Try.ntmps20
  go_wp2_with fail
  refine (implStoreValid_any A c os w h hf hn).mono ?_
  rintro e w1 ⟨rfl, b1⟩
  have hr1 := hfr.below b1 (Nat.le_refl _)
  cases hs : storeB os
  · go_wp2
    go_ret
    exact ⟨[], .inr ⟨by rw [hs]; rfl, rfl⟩, _, rfl, by rw [missL_nil]; exact .nil_new b1.size, b1.alloc b1.size _⟩
  · have HS := hid hs
    cases hl : linksB fr
    · go_wp2_with fail
      refine (idsValid_any _ A' c' fr w1 hr1 hm).mono ?_
      rintro e w2 ⟨rfl, rfl⟩
      rw [hl]
      go_wp2
      go_ret
      exact ⟨[], .inr ⟨by rw [hl, Bool.and_false], rfl⟩, _, rfl, by rw [missL_nil]; exact .nil_new b1.size, b1.alloc b1.size _⟩
    · obtain ⟨hF, h4⟩ := linksB_parts hl
      have hn16 := (storeB_parts hs).2
      have HL := hid hl
      have HF := hid hF
      go_wp2_with fail
      refine (idsValid_any _ A' c' fr w1 hr1 hm).mono ?_
      rintro e w2 ⟨rfl, rfl⟩
      rw [hl]
      clear hl hs hF
      go_wp2_with fail
      refine (reachedIds_any A A' c c' os fr w1 ((h.below b1 (Nat.le_refl _)).more b1.size) HS hn16 ((hfr.below b1 (Nat.le_refl _)).more b1.size) HF h4).mono ?_
      rintro e w2 ⟨L, v1, v2, hL, rfl, o1, o2, hb2⟩
      have HL2 := hid hL
      clear hL
      go_wp2
      go_ret
      exact ⟨L, .inl ⟨by rw [HS.out, HL.out]; rfl, HL2.out⟩, _, rfl, o2.base b1.size, b1.trans (hb2.mono b1.size)⟩
end Go.Proofs.Ytfdilnibhcnkgaa
