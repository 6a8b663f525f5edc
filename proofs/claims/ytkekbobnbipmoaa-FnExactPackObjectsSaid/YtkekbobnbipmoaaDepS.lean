/-
  Walks: the model's depths and bases.
-/
import Derived.Test.YtkekbobnbipmoaaEnts
namespace Go.Proofs.Ytkekbobnbipmoaa
open Go.RowKit Wo Pu

theorem l6In_yes (n lo hi : Int) (w : World) (h1 : lo ≤ n) (h2 : n ≤ hi) : Calls Try.prog 64 #[.int .i64 n, .int .i64 lo, .int .i64 hi] w (Same (.bool true) w) := by
  go_enter Try.func64, Try.ntmps64
  go_wp2
  go_ret
  exact ⟨rfl, rfl⟩
theorem l6In_lo (n lo hi : Int) (w : World) (h1 : n < lo) : Calls Try.prog 64 #[.int .i64 n, .int .i64 lo, .int .i64 hi] w (Same (.bool false) w) := by
  go_enter Try.func64, Try.ntmps64
  go_wp2
  go_ret
  exact ⟨rfl, rfl⟩
theorem l6In_hi (n lo hi : Int) (w : World) (h1 : lo ≤ n) (h2 : hi < n) : Calls Try.prog 64 #[.int .i64 n, .int .i64 lo, .int .i64 hi] w (Same (.bool false) w) := by
  have h3 : decide (n ≤ hi) = false := decide_eq_false (by omega)
  clear h2
  go_enter Try.func64, Try.ntmps64
  go_wp2
  go_ret
  exact ⟨rfl, rfl⟩
theorem l6In_is (b : Bool) (n lo hi : Int) (w : World) (h : (decide (lo ≤ n) && decide (n ≤ hi)) = b) : Calls Try.prog 64 #[.int .i64 n, .int .i64 lo, .int .i64 hi] w (Same (.bool b) w) := by
  by_cases h1 : lo ≤ n
  · by_cases h2 : n ≤ hi
    · obtain rfl : true = b := by rw [← h]; simp [h1, h2]
      exact l6In_yes n lo hi w h1 h2
    · obtain rfl : false = b := by rw [← h]; simp [h2]
      exact l6In_hi n lo hi w h1 (by omega)
  · obtain rfl : false = b := by rw [← h]; simp [h1]
    exact l6In_lo n lo hi w (by omega)

set_option maxHeartbeats 1000000 in
theorem l3Depth_any (B : Nat) (A : Option Addr) (n c : Nat) (es : List Ent) (i : Nat) (w : World) (h : Ents w B A es) (hb : Bas es) (hi : i < es.length) (hn : es.length ≤ n) (hn2 : n ≤ 1048576) :
    Calls Try.prog 65 #[.slice A n c, .int .i64 i] w (Same (.int .i64 (dep es i)) w) := by
  have hdl := dep_le hb i hi
  have HB := hid hb
  clear hb
  go_enter Try.func65, Try.ntmps65
  go_wp2
  go_loop [1, 5] (fun p m => ∃ j k : Nat, p = .int .i64 j ∧ m = .int .i64 k ∧ j < es.length ∧ Hid (k + dep es j = dep es i)) (fun p _ => (intOf p).toNat)
  case atStart => exact ⟨i, 0, rfl, rfl, hi, Nat.zero_add _⟩
  case round =>
    obtain ⟨j, k, rfl, rfl, hj, HK⟩ := hrel
    obtain ⟨e, ad, A1, c1, A3, c3, he, rfl, ha, g0, g1, g2, g3, g4, g5⟩ := h.ent hj
    have hbj := HB.out j hj
    have hds := fun h0 => dep_step HB.out hj h0
    have hd0 := fun h0 => dep_base (es := es) hj h0
    rw [he] at hbj hds hd0
    have i0 : 0 ≤ (j : Int) := by omega
    have i1 : (j : Int) < (n : Int) := by omega
    clear he
    by_cases h0 : 0 ≤ e.b
    · obtain ⟨b, hbb⟩ : ∃ b : Nat, e.b = (b : Int) := ⟨e.b.toNat, by omega⟩
      have hd := hds h0
      rw [hbb] at hd g2 hbj
      rw [show ((b : Int)).toNat = b from by omega] at hd
      have HN : Hid (k + 1 + dep es b = dep es i) := by have := HK.out; show k + 1 + dep es b = dep es i; omega
      have hbl : b < es.length := by omega
      have hbk : k ≤ dep es i := by have := HK.out; omega
      clear hds hd0 hd HK h0 hbb
      go_wp2
      go_round
      case rel => exact ⟨b, k + 1, rfl, by go_num, hbl, HN⟩
      case measure => simp [intOf]; omega
    · have hd := hd0 (by omega)
      have HE : Hid (k = dep es i) := by have := HK.out; show k = dep es i; omega
      clear hds hd0 hd HK hbj
      go_wp2
      go_ret
      rw [HE.out]
      exact ⟨rfl, rfl⟩

theorem Ents.take_ {w : World} {B : Nat} {A : Option Addr} {es : List Ent} (h : Ents w B A es) (k : Nat) : Ents w B A (es.take k) := by
  rcases h with rfl | ⟨ad, e, ha, hh⟩
  · exact .inl (by simp)
  · refine .inr ⟨ad, e, ha, fun i hi => ?_⟩
    rw [List.getElem_take]
    exact hh i (by rw [List.length_take] at hi; omega)
theorem dep_take' {es : List Ent} {k i : Nat} (h : Bas (es.take k)) (hk : k ≤ es.length) (hi : i < k) : dep (es.take k) i = dep es i := by
  refine dep_congr (n := k) h (by rw [List.length_take]; omega) (fun j hj => ?_) i (i + 1) hi
  rw [List.getElem?_take, if_pos hj]
theorem Bas.grow {es : List Ent} {k : Nat} (h : Bas (es.take k)) (hk : k < es.length) (h1 : -1 ≤ es[k].b) (h2 : es[k].b < (k : Int)) : Bas (es.take (k + 1)) := by
  rw [List.take_succ_eq_append_getElem hk]
  exact h.snoc h1 (by rw [List.length_take]; omega)
theorem basB_no {es : List Ent} {k : Nat} (hk : k < es.length) (h : ¬ (-1 ≤ es[k].b ∧ es[k].b < (k : Int))) : basB es = false := by
  rw [Bool.eq_false_iff]
  exact fun e => h (basB_iff.1 e k hk)
theorem depB_no {es : List Ent} {k : Nat} (hk : k < es.length) (h : ¬ dep es k ≤ 2) : depB es = false := by
  rw [Bool.eq_false_iff]
  exact fun e => h (depB_iff.1 e k hk)

/-- What the model's look at the bases says. -/
def baseOk (es : List Ent) : Bool := basB es && (depB es && decide (es.length ≤ 16))
set_option maxHeartbeats 2000000 in
theorem l3Bases_any (A : Option Addr) (c : Nat) (es : List Ent) (w : World) (h : Ents w w.heap.size A es) (hn : es.length ≤ 1048576) :
    Calls Try.prog 50 #[.slice A es.length c] w (Same (.bool (baseOk es)) w) := by
  go_enter Try.func50, Try.ntmps50
  go_wp2
  go_loop [3] (fun i => ∃ k : Nat, k ≤ es.length ∧ i = .int .i64 k ∧ Hid (Bas (es.take k) ∧ ∀ j, j < k → dep es j ≤ 2)) (fun i => es.length - (intOf i).toNat)
  case atStart => exact ⟨0, Nat.zero_le _, rfl, fun i hi => absurd hi (by simp), fun j hj => absurd hj (by omega)⟩
  case round =>
    obtain ⟨k, hk, rfl, HK⟩ := hrel
    by_cases hlt : k < es.length
    · obtain ⟨e, ad, A1, c1, A3, c3, he, rfl, ha, g0, g1, g2, g3, g4, g5⟩ := h.ent hlt
      have HE := hid he
      have i0 : 0 ≤ (k : Int) := by omega
      have i1 : (k : Int) < (es.length : Int) := by omega
      by_cases hb : -1 ≤ e.b ∧ e.b < (k : Int)
      · have hbas : Bas (es.take (k + 1)) := HK.out.1.grow hlt (by rw [he]; exact hb.1) (by rw [he]; exact hb.2)
        have hdk := dep_take' hbas (by omega) (show k < k + 1 by omega)
        have HIN : Hid ((decide ((-1 : Int) ≤ e.b) && decide (e.b ≤ (k : Int) - 1)) = true) := by show _ = _; rw [Bool.and_eq_true, decide_eq_true_eq, decide_eq_true_eq]; omega
        have hl : (es.take (k + 1)).length = k + 1 := by rw [List.length_take]; omega
        have HBAS := hid hbas
        clear hb hbas he
        by_cases hd : dep es k ≤ 2
        · have HN : Hid (Bas (es.take (k + 1)) ∧ ∀ j, j < k + 1 → dep es j ≤ 2) := ⟨HBAS.out, fun j hj => by
            by_cases e : j = k
            · subst e; exact hd
            · exact HK.out.2 j (by omega)⟩
          rw [← hdk] at hd
          obtain ⟨d, hdd⟩ : ∃ d, dep (es.take (k + 1)) k = d := ⟨_, rfl⟩
          rw [hdd] at hd
          have HD := hid hdd
          clear hdk hdd HK
          go_wp2_with (first
            | (go_at_call 64; refine (l6In_is true _ _ _ _ HIN.out).mono ?_; rintro e w' ⟨rfl, rfl⟩)
            | (go_at_call 65; refine (l3Depth_any _ (some ad) es.length c (es.take (k + 1)) k _ (h.take_ _) HBAS.out (by omega) (by omega) hn).mono ?_; rintro e w' ⟨rfl, rfl⟩; rw [HD.out]))
          go_round
          case rel => exact ⟨k + 1, by omega, by go_num, HN⟩
          case measure => simp [intOf]; omega
        · have HF : Hid (baseOk es = false) := by show _ = _; unfold baseOk; rw [depB_no hlt hd]; simp
          rw [← hdk] at hd
          obtain ⟨d, hdd⟩ : ∃ d, dep (es.take (k + 1)) k = d := ⟨_, rfl⟩
          rw [hdd] at hd
          have HD := hid hdd
          clear hdk hdd HK
          go_wp2_with (first
            | (go_at_call 64; refine (l6In_is true _ _ _ _ HIN.out).mono ?_; rintro e w' ⟨rfl, rfl⟩)
            | (go_at_call 65; refine (l3Depth_any _ (some ad) es.length c (es.take (k + 1)) k _ (h.take_ _) HBAS.out (by omega) (by omega) hn).mono ?_; rintro e w' ⟨rfl, rfl⟩; rw [HD.out]))
          go_ret
          rw [HF.out]
          exact ⟨rfl, rfl⟩
      · have HF : Hid (baseOk es = false) := by show _ = _; unfold baseOk; rw [basB_no hlt (by rw [he]; exact hb)]; rfl
        have HIN : Hid ((decide ((-1 : Int) ≤ e.b) && decide (e.b ≤ (k : Int) - 1)) = false) := by show _ = _; rw [Bool.and_eq_false_iff, decide_eq_false_iff_not, decide_eq_false_iff_not]; omega
        clear hb he HK
        go_wp2_with (go_at_call 64; refine (l6In_is false _ _ _ _ HIN.out).mono ?_; rintro e w' ⟨rfl, rfl⟩)
        go_ret
        rw [HF.out]
        exact ⟨rfl, rfl⟩
    · have hk' : k = es.length := by omega
      subst hk'
      have hb : basB es = true := basB_iff.2 (by have := HK.out.1; rwa [List.take_length] at this)
      have hd : depB es = true := depB_iff.2 HK.out.2
      have HF : Hid (baseOk es = decide (es.length ≤ 16)) := by show _ = _; unfold baseOk; rw [hb, hd]; rfl
      clear hb hd HK
      have HD : Hid (decide ((es.length : Int) ≤ 16) = decide (es.length ≤ 16)) := by show _ = _; rw [Bool.eq_iff_iff]; simp; omega
      go_wp2
      go_ret
      rw [HF.out, ← HD.out]
      exact ⟨rfl, rfl⟩
end Go.Proofs.Ytkekbobnbipmoaa
