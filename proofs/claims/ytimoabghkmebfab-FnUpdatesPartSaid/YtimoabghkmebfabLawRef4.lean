/-
  Walks of the laws on a list of updates without one, and with one twice; on refs too many and too few.
-/
import Derived.Test.YtimoabghkmebfabRefM
import Derived.Deep.RegionLaw
namespace Go.Proofs.Ytimoabghkmebfab
open Go.RowKit Wo Pu Rf

theorem uv_less {us : List Up} (h : UV us) (k : Nat) (hk : k < us.length) : UV (us.take k ++ us.drop (k + 1)) ↔ 1 < us.length := by
  constructor
  · rintro ⟨h1, -⟩
    have : (us.take k ++ us.drop (k + 1)).length ≠ 0 := fun e => h1 (List.eq_nil_of_length_eq_zero e)
    rw [List.length_append, List.length_take, List.length_drop] at this
    omega
  · intro h1
    refine ⟨fun e => ?_, h.2.drop1 k⟩
    have : (us.take k ++ us.drop (k + 1)).length = 0 := by rw [e]; rfl
    rw [List.length_append, List.length_take, List.length_drop] at this
    omega
theorem uv_twice {us : List Up} {k : Nat} (hk : k < us.length) : ¬ UV (us.take (k + 1) ++ us.drop k) := fun h => Asc.twice hk h.2
theorem FnUpdatesPart_no (A : Option Addr) (c : Nat) (bs : List Int) (A' : Option Addr) (c' : Nat) (bs' : List Int) (w : World) (h : Code_ w A c bs) (h' : Code_ w A' c' bs') (hl : ¬ (bs.length ≤ 1048576 ∧ bs'.length ≤ 1048576)) :
    Calls Try.prog 3 #[.slice A bs.length c, .slice A' bs'.length c'] w (Ret (.bool true) w) := by
  have hc := h.2.1
  have hm := h.2.2.1
  have hc' := h'.2.1
  have hm' := h'.2.2.1
  unfold maxLen at hm hm'
  by_cases h1 : bs.length ≤ 1048576
  · have h2 : ¬ bs'.length ≤ 1048576 := fun e => hl ⟨h1, e⟩
    clear hl
    go_enter Try.func3, Try.ntmps3
    go_wp2
    go_ret
    exact .mk_ (Below.refl _ _)
  · clear hl
    go_enter Try.func3, Try.ntmps3
    go_wp2
    go_ret
    exact .mk_ (Below.refl _ _)
set_option maxRecDepth 100000 in
set_option maxHeartbeats 8000000 in
theorem FnUpdatesPart_yes (A : Option Addr) (c : Nat) (bs : List Int) (A' : Option Addr) (c' : Nat) (bs' : List Int) (w : World) (h : Code_ w A c bs) (_ : Code_ w A' c' bs') (hl : bs.length ≤ 1048576) (hl' : bs'.length ≤ 1048576) :
    Calls Try.prog 3 #[.slice A bs.length c, .slice A' bs'.length c'] w (Ret (.bool true) w) := by
  go_enter Try.func3, Try.ntmps3
  go_wp2_with fail
  refine (DrawUpdatesValid_any A c bs _ h).mono ?_
  rintro e w1 ⟨A3, c3, us, rfl, r1, hu4, hc3, b1⟩
  obtain ⟨v, hv⟩ := bool_of (UV us)
  have HV := hid hv
  clear hv
  go_wp2_with fail
  refine (implUpdatesValid_is v A3 c3 us _ r1 (by omega) HV.out).mono ?_
  rintro e w2 ⟨rfl, d2⟩
  have r2 := r1.on d2
  have b2 := b1.trans (d2.mono b1.size)
  clear r1 b1 d2
  go_wp2_with fail
  refine (specUpdatesValid_is v A3 c3 us _ r2 (by omega) HV.out).mono ?_
  rintro e w3 ⟨rfl, d3⟩
  have pR := r2.on d3
  have b3 := b2.trans (d3.mono b2.size)
  clear r2 b2 d3
  cases v with
  | false =>
    go_wp2
    go_ret
    exact .mk_ b3
  | true =>
    have PU := hid (HV.out.1 rfl)
    clear HV
    have h0 : us.length ≠ 0 := fun e => PU.out.1 (List.eq_nil_of_length_eq_zero e)
    obtain ⟨k, hk⟩ : ∃ k : Nat, (bs'.length : Int) % (us.length : Int) = (k : Int) := ⟨bs'.length % us.length, by simp⟩
    have hkl : k < us.length := by have := Int.emod_lt_of_pos (bs'.length : Int) (show (0 : Int) < us.length by omega); omega
    obtain ⟨i0, hi, hz0, hz1, hz2⟩ := info_of info_up
    obtain ⟨_, ad, _, rfl, _⟩ := pR.up_ hkl
    obtain ⟨xs, hxs⟩ : ∃ xs, upsV us = xs := ⟨_, rfl⟩
    have hxl : xs.length = us.length * 3 := by rw [← hxs]; exact upsV_length us
    have hx1 : ∀ u ∈ xs, u.oneCell' = true := by rw [← hxs]; exact upsV_cells us
    have HXS := hid hxs
    rw [hxs] at pR
    clear hxs
    go_wp2_with fail
    rw [hk]
    clear hk
    have k0 : (0 : Int) ≤ (k : Int) := by omega
    have k1 : (k : Int) < (us.length : Int) := by omega
    have k2 : (k : Int) + 1 ≤ (us.length : Int) := by omega
    have k3 : (us.length : Int) ≤ (c3 : Int) := by omega
    have k4 : (k : Int) ≤ (c3 : Int) := by omega
    have k5 : (k : Int) + 1 ≤ (c3 : Int) := by omega
    have k6 : (0 : Int) ≤ (k : Int) + 1 := by omega
    have k7 : (k : Int) ≤ (k : Int) + 1 := by omega
    have tn : ((k : Int) + 1).toNat = k + 1 := by omega
    have k8 : (k : Int) ≤ (us.length : Int) := by omega
    have kw : IntKind.i64.wrap ((k : Int) + 1) = (k : Int) + 1 := IntWalk.i64_in _ (by omega)
    have hck : ¬ c3 = k := by omega
    by_cases hcap : c3 = k + 1
    all_goals
      have k9 : c3 = k + 1 → (us.length : Int) ≤ (k : Int) + 1 := fun e => by omega
      have pnil : c3 = k + 1 → xs.drop ((k + 1) * 3) = [] := fun e => List.drop_eq_nil_of_le (by rw [hxl]; omega)
      have pxt : (xs.take ((k) * 3)).length = (k) * 3 := by rw [List.length_take, hxl]; omega
      have pxd : (xs.drop ((k + 1) * 3)).length = (us.length - (k + 1)) * 3 := by rw [List.length_drop, hxl]; omega
      have px2 : ∀ u ∈ xs.take ((k) * 3), u.oneCell' = true := fun u hu => hx1 u (List.mem_of_mem_take hu)
      have px3 : ∀ u ∈ xs.drop ((k + 1) * 3), u.oneCell' = true := fun u hu => hx1 u (List.mem_of_mem_drop hu)
      have pN := nil_own (w := w3) (B := w3.heap.size) (Nat.le_refl _) 52 3
      have pB := (Below.refl w3.heap.size w3).alloc (Nat.le_refl _) (.cells #[] 52)
      go_region_law
        (first
          | (refine step_append_row _ (by rfl) _ _ 23 (by rfl) w3.heap.size 52 i0 (.agg #[.int .i64 0, .int .i64 0, .int .i64 0]) 3 24 Try.underlying23 hi hz0 hz1 hz2 rfl (by decide) pv (0 + (k)) ([] ++ xs.take ((k) * 3)) (by rfl) pho w3.heap.size (some ad) (us.length - (k + 1)) _ (xs.drop ((k + 1) * 3)) (by rfl) (.inl (pnil hcap)) pxd px3 (by unfold maxLen; omega) (by omega) pb.size ?_; intro pv2 pw2 pho2 phg2; have pb2 : Below w3.heap.size w3 pw2 := pb.grown phg2 pb.size (fun j hj => (pl j hj).1))
          | (refine step_append_row _ (by rfl) _ _ 23 (by rfl) w3.heap.size 52 i0 (.agg #[.int .i64 0, .int .i64 0, .int .i64 0]) 3 24 Try.underlying23 hi hz0 hz1 hz2 rfl (by decide) pv (0 + (k)) ([] ++ xs.take ((k) * 3)) (by rfl) pho w3.heap.size (some (ad.add ((k + 1) * 3))) (us.length - (k + 1)) _ (xs.drop ((k + 1) * 3)) (by rfl) ((pR.drop_ ((k + 1) * 3)).below pb (Nat.le_refl _)) pxd px3 (by unfold maxLen; omega) (by omega) pb.size ?_; intro pv2 pw2 pho2 phg2; have pb2 : Below w3.heap.size w3 pw2 := pb.grown phg2 pb.size (fun j hj => (pl j hj).1))
          | (refine step_append_row _ (by rfl) _ _ 23 (by rfl) w3.heap.size 52 i0 (.agg #[.int .i64 0, .int .i64 0, .int .i64 0]) 3 24 Try.underlying23 hi hz0 hz1 hz2 rfl (by decide) (.slice (some ⟨w3.heap.size, 0, none⟩) 0 0) 0 [] (by rfl) pN w3.heap.size (some ad) (k) _ (xs.take ((k) * 3)) (by rfl) ((pR.take_ ((k) * 3)).below pB.drew (Nat.le_refl _)) pxt px2 (by unfold maxLen; omega) (by omega) (by simp) ?_; intro pv pw pho phg; have pb : Below w3.heap.size w3 pw := pB.drew.grown phg (by simp) (fun j hj => by have hj' : some (w3.heap.size) = some j := hj; injection hj' with hj'; omega); have pl := World.ownsRow.lt pho))
      obtain ⟨ol, hol⟩ : ∃ ol, Hid (ol = us.take k ++ us.drop (k + 1)) := ⟨_, rfl⟩
      have pz := pb2.size
      have uL : OwnUps pw2 w3.heap.size pv2 ol := by
        rw [hol.out]
        unfold OwnUps
        rw [upsV_append, upsV_take, upsV_drop, HXS.out, show (us.take k ++ us.drop (k + 1)).length = 0 + k + (us.length - (k + 1)) from by rw [List.length_append, List.length_take, List.length_drop]; omega]
        exact pho2
      obtain ⟨AL, cL, rfl, rL, -⟩ := uL.form
      have pR2 : Row pw2 w3.heap.size (some ad) xs := pR.below pb2 (Nat.le_refl _)
      have b4 := b3.trans (pb2.mono b3.size)
      clear pho2 phg2 pho phg pb pl pN pB pxt pxd px2 px3 pnil uL pR
      have qxt : (xs.take ((k + 1) * 3)).length = (k + 1) * 3 := by rw [List.length_take, hxl]; omega
      have qxd : (xs.drop (k * 3)).length = (us.length - k) * 3 := by rw [List.length_drop, hxl]; omega
      have qx2 : ∀ u ∈ xs.take ((k + 1) * 3), u.oneCell' = true := fun u hu => hx1 u (List.mem_of_mem_take hu)
      have qx3 : ∀ u ∈ xs.drop (k * 3), u.oneCell' = true := fun u hu => hx1 u (List.mem_of_mem_drop hu)
      have qN := nil_own (w := pw2) (B := pw2.heap.size) (Nat.le_refl _) 52 3
      have qB := (Below.refl pw2.heap.size pw2).alloc (Nat.le_refl _) (.cells #[] 52)
      go_wp2_with fail
      go_region_law
        (first
          | (refine step_append_row _ (by rfl) _ _ 23 (by rfl) pw2.heap.size 52 i0 (.agg #[.int .i64 0, .int .i64 0, .int .i64 0]) 3 24 Try.underlying23 hi hz0 hz1 hz2 rfl (by decide) qv (0 + (k + 1)) ([] ++ xs.take ((k + 1) * 3)) (by rfl) qho w3.heap.size (some (ad.add (k * 3))) (us.length - k) _ (xs.drop (k * 3)) (by rfl) ((pR2.drop_ (k * 3)).below qb pz) qxd qx3 (by unfold maxLen; omega) (by omega) qb.size ?_; intro qv2 qw2 qho2 qhg2; have qb2 : Below pw2.heap.size pw2 qw2 := qb.grown qhg2 qb.size (fun j hj => (ql j hj).1))
          | (refine step_append_row _ (by rfl) _ _ 23 (by rfl) pw2.heap.size 52 i0 (.agg #[.int .i64 0, .int .i64 0, .int .i64 0]) 3 24 Try.underlying23 hi hz0 hz1 hz2 rfl (by decide) (.slice (some ⟨pw2.heap.size, 0, none⟩) 0 0) 0 [] (by rfl) qN w3.heap.size (some ad) (k + 1) _ (xs.take ((k + 1) * 3)) (by rfl) ((pR2.take_ ((k + 1) * 3)).below qB.drew pz) qxt qx2 (by unfold maxLen; omega) (by omega) (by simp) ?_; intro qv qw qho qhg; have qb : Below pw2.heap.size pw2 qw := qB.drew.grown qhg (by simp) (fun j hj => by have hj' : some (pw2.heap.size) = some j := hj; injection hj' with hj'; omega); have ql := World.ownsRow.lt qho))
      obtain ⟨ot, hot⟩ : ∃ ot, Hid (ot = us.take (k + 1) ++ us.drop k) := ⟨_, rfl⟩
      have uT : OwnUps qw2 pw2.heap.size qv2 ot := by
        rw [hot.out]
        unfold OwnUps
        rw [upsV_append, upsV_take, upsV_drop, HXS.out, show (us.take (k + 1) ++ us.drop k).length = 0 + (k + 1) + (us.length - k) from by rw [List.length_append, List.length_take, List.length_drop]; omega]
        exact qho2
      obtain ⟨AT, cT, rfl, rT, -⟩ := uT.form
      have rL2 := rL.on qb2
      have b5 := b4.trans (qb2.mono b4.size)
      have ll : ol.length ≤ 10 := by rw [hol.out, List.length_append, List.length_take, List.length_drop]; omega
      have lt : ot.length ≤ 10 := by rw [hot.out, List.length_append, List.length_take, List.length_drop]; omega
      obtain ⟨bl, hbl⟩ : ∃ bl, decide ((1 : Int) < (us.length : Int)) = bl := ⟨_, rfl⟩
      have HL : Hid (bl = true ↔ UV ol) := by
        show _ ↔ _
        rw [hol.out, uv_less PU.out k hkl, ← hbl, decide_eq_true_iff]
        omega
      have HT : Hid (false = true ↔ UV ot) := by
        show _ ↔ _
        rw [hot.out]
        exact ⟨(fun e => by cases e), fun e => absurd e (uv_twice hkl)⟩
      have CL : Hid (∀ x, Row x x.heap.size AL (upsV ol) → Calls Try.prog 12 #[.slice AL ol.length cL] x (Ret (.bool bl) x)) := fun x hx => implUpdatesValid_is bl AL cL ol x hx (by omega) HL.out
      have CT : Hid (∀ x, Row x x.heap.size AT (upsV ot) → Calls Try.prog 12 #[.slice AT ot.length cT] x (Ret (.bool false) x)) := fun x hx => implUpdatesValid_is false AT cT ot x hx (by omega) HT.out
      clear qho2 qhg2 qho qhg qb ql qN qB qxt qxd qx2 qx3 pR2 hol hot qb2 uT HL HT HXS hxl hx1 PU rL ll lt pz
      cases bl with
      | false =>
        go_wp2_with fail
        refine (CL.out _ rL2).mono ?_
        rintro e w6 ⟨rfl, d6⟩
        have rT6 := rT.on d6
        have b6 := b5.trans (d6.mono b5.size)
        go_wp2_with fail
        refine (CT.out _ rT6).mono ?_
        rintro e w7 ⟨rfl, d7⟩
        go_wp2
        go_ret
        exact .mk_ (b6.trans (d7.mono b6.size))
      | true =>
        go_wp2_with fail
        refine (CL.out _ rL2).mono ?_
        rintro e w6 ⟨rfl, d6⟩
        have rT6 := rT.on d6
        have b6 := b5.trans (d6.mono b5.size)
        go_wp2_with fail
        refine (CT.out _ rT6).mono ?_
        rintro e w7 ⟨rfl, d7⟩
        go_wp2
        go_ret
        exact .mk_ (b6.trans (d7.mono b6.size))
theorem FnUpdatesPart_any (A : Option Addr) (c : Nat) (bs : List Int) (A' : Option Addr) (c' : Nat) (bs' : List Int) (w : World) (f1 : Row w w.heap.size A (bs.map (Value.int .u8))) (f2 : bs.length ≤ c) (f3 : c ≤ maxLen) (f4 : ∀ n ∈ bs, 0 ≤ n ∧ n < 256) (g1 : Row w w.heap.size A' (bs'.map (Value.int .u8))) (g2 : bs'.length ≤ c') (g3 : c' ≤ maxLen) (g4 : ∀ n ∈ bs', 0 ≤ n ∧ n < 256) :
    Calls Try.prog 3 #[.slice A bs.length c, .slice A' bs'.length c'] w (Ret (.bool true) w) := by
  by_cases hl : bs.length ≤ 1048576 ∧ bs'.length ≤ 1048576
  · exact FnUpdatesPart_yes A c bs A' c' bs' w ⟨f1, f2, f3, f4⟩ ⟨g1, g2, g3, g4⟩ hl.1 hl.2
  · exact FnUpdatesPart_no A c bs A' c' bs' w ⟨f1, f2, f3, f4⟩ ⟨g1, g2, g3, g4⟩ hl
end Go.Proofs.Ytimoabghkmebfab
