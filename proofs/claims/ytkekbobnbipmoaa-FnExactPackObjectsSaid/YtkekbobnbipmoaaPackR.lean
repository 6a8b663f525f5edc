/-
  Walks: the model's PackObjects and PackSum.
-/
import Derived.Test.YtkekbobnbipmoaaPackQ
import Derived.Test.YtkekbobnbipmoaaPackS
namespace Go.Proofs.Ytkekbobnbipmoaa
open Go.RowKit Wo Pu

set_option maxRecDepth 100000 in
set_option maxHeartbeats 4000000 in
theorem specPackObjects_any (A : Option Addr) (c : Nat) (es : List Ent) (w : World) (h : Ents w w.heap.size A es) (hn : es.length ≤ 1048576) (hfe : FitE es) :
    Calls Try.prog 20 #[.slice A es.length c] w (POut es w) := by
  cases hb : baseOk es
  · have HF : Hid (packB es = false) := by
      show _ = _
      unfold baseOk at hb
      unfold packB
      rcases h1 : basB es with _ | _
      · simp
      · rcases h2 : depB es with _ | _
        · simp
        · rw [h1, h2, Bool.true_and, Bool.true_and] at hb
          rw [hb]
          rfl
    go_enter Try.func20, Try.ntmps20
    go_wp2_with fail
    refine (l3Bases_any A c es _ h hn).mono ?_
    rintro e w1 ⟨rfl, rfl⟩
    rw [hb]
    go_wp2_with fail
    go_ret2
    exact POut.no_ HF.out (Below.refl _ _)
  · have HP : Hid (packB es = okTo es es.length) := by
      show _ = _
      have hb' := hb
      unfold baseOk at hb'
      rw [Bool.and_eq_true, Bool.and_eq_true] at hb'
      unfold packB
      rw [hb'.1, hb'.2.1, hb'.2.2]
      rfl
    have hbas : Bas es := by
      have hb' := hb
      unfold baseOk at hb'
      rw [Bool.and_eq_true] at hb'
      exact basB_iff.1 hb'.1
    go_enter Try.func20, Try.ntmps20
    go_wp2_with fail
    refine (l3Bases_any A c es _ h hn).mono ?_
    rintro e w1 ⟨rfl, rfl⟩
    rw [hb]
    clear hb
    go_wp2_with fail
    refine (l3Objects_any A c es _ h hn hfe hbas).mono ?_
    rintro e w2 ⟨v, rfl, o2, b2⟩
    go_wp2
    go_ret2
    refine ⟨v, by rw [HP.out]; rfl, ?_, b2⟩
    unfold packO
    rw [HP.out]
    exact o2
theorem l1OfP_val (v : Int) (B : Nat) (A : Option Addr) (c : Nat) (o : Ob) (w : World) (hr : Row w B A (ints o.zs)) (hB : B ≤ w.heap.size) (hv : vOb o = true) (e : iOb o = v) :
    Calls Try.prog 48 #[ob o.kd A o.zs.length c o.s] w (Ret (.int .i64 v) w) := by
  subst e
  rw [iOb_of hv]
  exact l1Of_any B A c o.kd o.zs o.s w hr hB hv

set_option maxRecDepth 100000 in
set_option maxHeartbeats 4000000 in
theorem specPackSum_any (A : Option Addr) (c : Nat) (es : List Ent) (w : World) (h : Ents w w.heap.size A es) (hn : es.length ≤ 1048576) (hfe : FitE es) :
    Calls Try.prog 17 #[.slice A es.length c] w (Ret (.int .i64 (pSum es)) w) := by
  go_enter Try.func17, Try.ntmps17
  go_wp2_with fail
  refine (specPackObjects_any A c es w h hn hfe).mono ?_
  rintro e w1 ⟨v, rfl, o1, b1⟩
  obtain ⟨A1, c1, rfl, h1⟩ := o1.form
  cases hb : packB es
  · have HP := hid (pSum_no hb)
    go_wp2
    go_ret
    rw [HP.out]
    exact .mk_ b1
  · have hv := pack_valid hb
    have h16 := (packB_iff.1 hb).1
    have hlen : (packO es).length = es.length := by rw [packO_yes hb, objs_length (Nat.le_refl _)]
    have HS : Hid (pSum es = mixL (((packO es).length : Nat) : Int) ((packO es).map iOb)) := by show _ = _; unfold pSum; rw [if_pos hb, hlen]
    obtain ⟨list, hl⟩ : ∃ list, packO es = list := ⟨_, rfl⟩
    rw [hl] at hv hlen HS h1 ⊢
    have HV := hid hv
    have hl16 : list.length ≤ 16 := by omega
    obtain ⟨S, hS⟩ : ∃ S, pSum es = S := ⟨_, rfl⟩
    have HPS := hid hS
    rw [hS] at HS
    clear hb hl hlen hv h16 o1 hS
    have st : Hid (mixL ((list.length : Nat) : Int) ((list.map iOb).drop 0) = S) := by show _ = _; rw [List.drop_zero, HS.out]
    go_wp2_with fail
    go_loopw [5, 6] (fun s i wr => ∃ (k : Nat) (n : Int), i = .int .i64 k ∧ k ≤ list.length ∧ s = .int .i64 n ∧ 0 ≤ n ∧ n < 991 ∧ Hid (mixL n ((list.map iOb).drop k) = S) ∧ Below w1.heap.size w1 wr) (fun _ i _ => list.length - (intOf i).toNat)
    case atStart => exact ⟨0, _, rfl, Nat.zero_le _, rfl, by omega, by omega, st, Below.refl _ _⟩
    case round =>
      obtain ⟨k, n, rfl, hk, rfl, n0, n1, HN, hbw⟩ := hrel
      have hz := hbw.size
      by_cases hlt : k < list.length
      · obtain ⟨o, ad, A', c', ho, rfl, ha, g0, g1, g2, g3⟩ := (h1.below hbw (Nat.le_refl _)).obj hlt
        have hvo := HV.out o (by rw [← ho]; exact List.getElem_mem hlt)
        obtain ⟨x, hx⟩ : ∃ x, iOb o = x := ⟨_, rfl⟩
        have hxr : 0 ≤ iOb o ∧ iOb o < 991 := ⟨iOb_valid.2 hvo, (iOb_range o).2⟩
        rw [hx] at hxr
        have HN2 : Hid (mixL ((n * 613 + x + 1) % 991) ((list.map iOb).drop (k + 1)) = S) := by
          show _ = _
          exact (mixL_step (n := n) (xs := list.map iOb) (k := k) (x := x) (by rw [List.length_map]; exact hlt) (by rw [List.getElem_map, ho, hx])).symm.trans HN.out
        have i0 : 0 ≤ (k : Int) := by omega
        have i1 : (k : Int) < (list.length : Int) := by omega
        have hl1 := l1OfP_val x w1.heap.size A' c' o wr g3 hz hvo hx
        have x0 := hxr.1
        have x1 := hxr.2
        clear hx ho hvo HN hxr g3
        go_wp2_with fail
        refine hl1.mono ?_
        clear hl1
        rintro e w6 ⟨rfl, hb6⟩
        have b6 := hbw.trans (hb6.mono hz)
        clear hb6 g0 g1 g2
        go_wp2_with fail
        go_roundw
        case rel => exact ⟨k + 1, (n * 613 + x + 1) % 991, by go_num, by omega, by rw [Int.mul_comm 613 n], Int.emod_nonneg _ (by decide), Int.emod_lt_of_pos _ (by decide), HN2, b6⟩
        case measure => simp [intOf]; omega
      · have hk' : k = list.length := by omega
        subst hk'
        have HE : Hid (n = S) := by
          have := HN.out
          rw [List.drop_of_length_le (by simp)] at this
          exact this
        go_wp2
        go_ret
        rw [HPS.out, HE.out]
        exact .mk_ (b1.trans (hbw.mono b1.size))
end Go.Proofs.Ytkekbobnbipmoaa
