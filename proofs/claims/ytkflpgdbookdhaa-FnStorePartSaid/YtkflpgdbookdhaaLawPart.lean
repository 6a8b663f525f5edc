/-
  Walk of the law on a store without one object.
-/
import Derived.Test.YtkflpgdbookdhaaDrawSg
import Derived.Test.YtkflpgdbookdhaaStoreQ
import Derived.Test.YtkflpgdbookdhaaLawsOb
namespace Go.Proofs.Ytkflpgdbookdhaa
open Go.RowKit Wo Pu

theorem FnStorePart_no (A : Option Addr) (c : Nat) (bs : List Int) (A' : Option Addr) (c' : Nat) (bs' : List Int) (w : World) (h : Code_ w A c bs) (h' : Code_ w A' c' bs') (hl : ¬ (bs.length ≤ 1048576 ∧ bs'.length ≤ 1048576)) :
    Calls Try.prog 11 #[.slice A bs.length c, .slice A' bs'.length c'] w (Ret (.bool true) w) := by
  have hc := h.2.1
  have hm := h.2.2.1
  have hc' := h'.2.1
  have hm' := h'.2.2.1
  unfold maxLen at hm hm'
  by_cases h1 : bs.length ≤ 1048576
  · have h2 : ¬ bs'.length ≤ 1048576 := fun e => hl ⟨h1, e⟩
    clear hl
    go_enter Try.func11, Try.ntmps11
    go_wp2
    go_ret
    exact .mk_ (Below.refl _ _)
  · clear hl
    go_enter Try.func11, Try.ntmps11
    go_wp2
    go_ret
    exact .mk_ (Below.refl _ _)
set_option maxHeartbeats 4000000 in
theorem FnStorePart_yes (A : Option Addr) (c : Nat) (bs : List Int) (A' : Option Addr) (c' : Nat) (bs' : List Int) (w : World) (h : Code_ w A c bs) (_ : Code_ w A' c' bs') (hl : bs.length ≤ 1048576) (hl' : bs'.length ≤ 1048576) :
    Calls Try.prog 11 #[.slice A bs.length c, .slice A' bs'.length c'] w (Ret (.bool true) w) := by
  go_enter Try.func11, Try.ntmps11
  go_wp2_with fail
  refine (DrawStoreValid_any A c bs _ h).mono ?_
  rintro e w1 ⟨v, os, rfl, h1, hn, hv, b1⟩
  obtain ⟨A3, c3, rfl, ho, hc3⟩ := h1.form2
  have hf := fit_of hv
  have hm : os.length ≤ maxLen := by unfold maxLen; omega
  go_wp2_with fail
  refine (implStoreValid_any A3 c3 os w1 ho hf hm).mono ?_
  rintro e w2 ⟨rfl, hb2⟩
  have b2 := b1.trans (hb2.mono b1.size)
  have ho2 := (ho.below hb2 (Nat.le_refl _)).more hb2.size
  have z2 := hb2.size
  go_wp2_with fail
  refine (specStoreValid_any A3 c3 os w2 ho2 hf hm).mono ?_
  rintro e w3 ⟨rfl, hb3⟩
  have b3 := b2.trans (hb3.mono b2.size)
  have hb13 := hb2.trans (hb3.mono hb2.size)
  have ho3 : Objs w3 w1.heap.size A3 os := ho.below hb13 (Nat.le_refl _)
  have z3 := hb13.size
  clear ho2 hb2 hb3 z2 b2
  rcases hst : storeB os with _ | _
  · go_wp2
    go_ret
    exact .mk_ b3
  · have HST := hid hst
    by_cases h0 : os.length = 0
    · obtain rfl := List.length_eq_zero_iff.1 h0
      go_wp2
      go_ret
      exact .mk_ b3
    · have e0 : (((os.length : Nat) : Int) == 0) = false := by rw [beq_eq_false_iff_ne]; omega
      obtain ⟨k, hk⟩ : ∃ k : Nat, (bs'.length : Int) % (os.length : Int) = (k : Int) := ⟨bs'.length % os.length, by simp⟩
      have hkl : k < os.length := by have := Int.emod_lt_of_pos (bs'.length : Int) (show (0 : Int) < os.length by omega); omega
      obtain ⟨xs, hxr, hxc, hx1⟩ := ho3.cells
      have hxl := hxc.1
      obtain ⟨i0, hi, hz0, hz1, hz2⟩ := info_of info_ob
      obtain ⟨ad, rfl⟩ : ∃ ad, A3 = some ad := by
        obtain ⟨_, ad, _, _, _, e, _⟩ := ho3.obj hkl
        exact ⟨ad, e⟩
      have pz := z3
      have pR := hxr
      go_wp2_with fail
      rw [hk]
      clear hk
      have k0 : (0 : Int) ≤ (k : Int) := by omega
      have k1 : (k : Int) < (os.length : Int) := by omega
      have k2 : (k : Int) + 1 ≤ (os.length : Int) := by omega
      have k3 : (os.length : Int) ≤ (c3 : Int) := by omega
      have k4 : (k : Int) ≤ (c3 : Int) := by omega
      have k5 : (k : Int) + 1 ≤ (c3 : Int) := by omega
      have k6 : (0 : Int) ≤ (k : Int) + 1 := by omega
      have k7 : (k : Int) ≤ (k : Int) + 1 := by omega
      have tn : ((k : Int) + 1).toNat = k + 1 := by omega
      have k8 : (k : Int) ≤ (os.length : Int) := by omega
      have kw : IntKind.i64.wrap ((k : Int) + 1) = (k : Int) + 1 := IntWalk.i64_in _ (by omega)
      have hck : ¬ c3 = k := by omega
      have few : os.length ≤ 992 := by omega
      by_cases hcap : c3 = k + 1
      all_goals
        have k9 : c3 = k + 1 → (os.length : Int) ≤ (k : Int) + 1 := fun e => by omega
        have pnil : c3 = k + 1 → xs.drop ((k + 1) * 3) = [] := fun e => List.drop_eq_nil_of_le (by rw [hxl]; omega)
        have pxt : (xs.take ((k) * 3)).length = (k) * 3 := by rw [List.length_take, hxl]; omega
        have pxd : (xs.drop ((k + 1) * 3)).length = (os.length - (k + 1)) * 3 := by rw [List.length_drop, hxl]; omega
        have px2 : ∀ u ∈ xs.take ((k) * 3), u.oneCell' = true := fun u hu => hx1 u (List.mem_of_mem_take hu)
        have px3 : ∀ u ∈ xs.drop ((k + 1) * 3), u.oneCell' = true := fun u hu => hx1 u (List.mem_of_mem_drop hu)
        have pN := nil_own (w := w3) (B := w3.heap.size) (Nat.le_refl _) 26 3
        have pB := (Below.refl w3.heap.size w3).alloc (Nat.le_refl _) (.cells #[] 26)
        go_region_law
          (first
            | (refine step_append_row _ (by rfl) _ _ 23 (by rfl) w3.heap.size 26 i0 (.agg #[.int .i64 0, .slice none 0 0, .string ⟨#[]⟩]) 3 48 Try.underlying23 hi hz0 hz1 hz2 rfl (by decide) pv (0 + (k)) ([] ++ xs.take ((k) * 3)) (by rfl) pho w1.heap.size (some ad) (os.length - (k + 1)) _ (xs.drop ((k + 1) * 3)) (by rfl) (.inl (pnil hcap)) pxd px3 (by unfold maxLen; omega) (by omega) pb.size ?_; intro pv2 pw2 pho2 phg2; have pb2 : Below w3.heap.size w3 pw2 := pb.grown phg2 pb.size (fun j hj => (pl j hj).1))
            | (refine step_append_row _ (by rfl) _ _ 23 (by rfl) w3.heap.size 26 i0 (.agg #[.int .i64 0, .slice none 0 0, .string ⟨#[]⟩]) 3 48 Try.underlying23 hi hz0 hz1 hz2 rfl (by decide) pv (0 + (k)) ([] ++ xs.take ((k) * 3)) (by rfl) pho w1.heap.size (some (ad.add ((k + 1) * 3))) (os.length - (k + 1)) _ (xs.drop ((k + 1) * 3)) (by rfl) ((pR.drop_ ((k + 1) * 3)).below pb pz) pxd px3 (by unfold maxLen; omega) (by omega) pb.size ?_; intro pv2 pw2 pho2 phg2; have pb2 : Below w3.heap.size w3 pw2 := pb.grown phg2 pb.size (fun j hj => (pl j hj).1))
            | (refine step_append_row _ (by rfl) _ _ 23 (by rfl) w3.heap.size 26 i0 (.agg #[.int .i64 0, .slice none 0 0, .string ⟨#[]⟩]) 3 48 Try.underlying23 hi hz0 hz1 hz2 rfl (by decide) (.slice (some ⟨w3.heap.size, 0, none⟩) 0 0) 0 [] (by rfl) pN w1.heap.size (some ad) (k) _ (xs.take ((k) * 3)) (by rfl) ((pR.take_ ((k) * 3)).below pB.drew pz) pxt px2 (by unfold maxLen; omega) (by omega) (by simp) ?_; intro pv pw pho phg; have pb : Below w3.heap.size w3 pw := pB.drew.grown phg (by simp) (fun j hj => by have hj' : some (w3.heap.size) = some j := hj; injection hj' with hj'; omega); have pl := World.ownsRow.lt pho))
        obtain ⟨ol, hol⟩ : ∃ ol, Hid (ol = os.take k ++ os.drop (k + 1)) := ⟨_, rfl⟩
        obtain ⟨AL, cL, rfl, hoL⟩ : ∃ (A : Option Addr) (c : Nat), pv2 = .slice A ol.length c ∧ Objs pw2 pw2.heap.size A ol := by
          rw [hol.out]
          exact (((hxc.take_ k).app (hxc.drop_ (k + 1))).below pb2 z3).objs (by have := pb2.size; omega) pho2 (by simp; omega)
        have hx2 := hxc.below pb2 z3
        have pz2 : w1.heap.size ≤ pw2.heap.size := by have := pb2.size; omega
        have pR2 : Row pw2 w1.heap.size (some ad) xs := pR.below pb2 z3
        have b4 := b3.trans (pb2.mono b3.size)
        clear pho2 phg2 pho phg pb pl pN pB pxt pxd px2 px3 pnil
        have qxt : (xs.take ((k + 1) * 3)).length = (k + 1) * 3 := by rw [List.length_take, hxl]; omega
        have qxd : (xs.drop (k * 3)).length = (os.length - k) * 3 := by rw [List.length_drop, hxl]; omega
        have qx2 : ∀ u ∈ xs.take ((k + 1) * 3), u.oneCell' = true := fun u hu => hx1 u (List.mem_of_mem_take hu)
        have qx3 : ∀ u ∈ xs.drop (k * 3), u.oneCell' = true := fun u hu => hx1 u (List.mem_of_mem_drop hu)
        have qN := nil_own (w := pw2) (B := pw2.heap.size) (Nat.le_refl _) 26 3
        have qB := (Below.refl pw2.heap.size pw2).alloc (Nat.le_refl _) (.cells #[] 26)
        go_wp2_with fail
        go_region_law
          (first
            | (refine step_append_row _ (by rfl) _ _ 23 (by rfl) pw2.heap.size 26 i0 (.agg #[.int .i64 0, .slice none 0 0, .string ⟨#[]⟩]) 3 48 Try.underlying23 hi hz0 hz1 hz2 rfl (by decide) qv (0 + (k + 1)) ([] ++ xs.take ((k + 1) * 3)) (by rfl) qho w1.heap.size (some (ad.add (k * 3))) (os.length - k) _ (xs.drop (k * 3)) (by rfl) ((pR2.drop_ (k * 3)).below qb pz2) qxd qx3 (by unfold maxLen; omega) (by omega) qb.size ?_; intro qv2 qw2 qho2 qhg2; have qb2 : Below pw2.heap.size pw2 qw2 := qb.grown qhg2 qb.size (fun j hj => (ql j hj).1))
            | (refine step_append_row _ (by rfl) _ _ 23 (by rfl) pw2.heap.size 26 i0 (.agg #[.int .i64 0, .slice none 0 0, .string ⟨#[]⟩]) 3 48 Try.underlying23 hi hz0 hz1 hz2 rfl (by decide) (.slice (some ⟨pw2.heap.size, 0, none⟩) 0 0) 0 [] (by rfl) qN w1.heap.size (some ad) (k + 1) _ (xs.take ((k + 1) * 3)) (by rfl) ((pR2.take_ ((k + 1) * 3)).below qB.drew pz2) qxt qx2 (by unfold maxLen; omega) (by omega) (by simp) ?_; intro qv qw qho qhg; have qb : Below pw2.heap.size pw2 qw := qB.drew.grown qhg (by simp) (fun j hj => by have hj' : some (pw2.heap.size) = some j := hj; injection hj' with hj'; omega); have ql := World.ownsRow.lt qho))
        obtain ⟨ot, hot⟩ : ∃ ot, Hid (ot = os.take (k + 1) ++ os.drop k) := ⟨_, rfl⟩
        obtain ⟨AT, cT, rfl, hoT⟩ : ∃ (A : Option Addr) (c : Nat), qv2 = .slice A ot.length c ∧ Objs qw2 qw2.heap.size A ot := by
          rw [hot.out]
          exact (((hx2.take_ (k + 1)).app (hx2.drop_ k)).below qb2 pz2).objs (by have := qb2.size; omega) qho2 (by simp; omega)
        have hoL2 := (hoL.below qb2 (Nat.le_refl _)).more qb2.size
        have b5 := b4.trans (qb2.mono b4.size)
        have fl : Fit ol := fun p hp => hf p (by rw [hol.out] at hp; rcases List.mem_append.1 hp with h | h; exact List.mem_of_mem_take h; exact List.mem_of_mem_drop h)
        have ft : Fit ot := fun p hp => hf p (by rw [hot.out] at hp; rcases List.mem_append.1 hp with h | h; exact List.mem_of_mem_take h; exact List.mem_of_mem_drop h)
        have ll : ol.length ≤ maxLen := by rw [hol.out]; unfold maxLen; simp; omega
        have lt : ot.length ≤ maxLen := by rw [hot.out]; unfold maxLen; simp; omega
        have sl : storeB ol = true := by rw [hol.out]; exact storeB_less HST.out
        have st : storeB ot = false := by rw [hot.out]; exact storeB_twice hkl
        clear qho2 qhg2 qho qhg qb ql qN qB qxt qxd qx2 qx3 pR2 hx2 hol hot hoL qb2
        go_wp2_with fail
        refine (implStoreValid_any AL cL ol qw2 hoL2 fl ll).mono ?_
        rintro e w6 ⟨rfl, bb6⟩
        rw [sl]
        have hoT6 := (hoT.below bb6 (Nat.le_refl _)).more bb6.size
        have b6 := b5.trans (bb6.mono b5.size)
        go_wp2_with fail
        refine (implStoreValid_any AT cT ot w6 hoT6 ft lt).mono ?_
        rintro e w7 ⟨rfl, bb7⟩
        rw [st]
        go_wp2
        go_ret
        exact .mk_ (b6.trans (bb7.mono b6.size))
theorem FnStorePart_any (A : Option Addr) (c : Nat) (bs : List Int) (A' : Option Addr) (c' : Nat) (bs' : List Int) (w : World) (f1 : Row w w.heap.size A (bs.map (Value.int .u8))) (f2 : bs.length ≤ c) (f3 : c ≤ maxLen) (f4 : ∀ n ∈ bs, 0 ≤ n ∧ n < 256) (g1 : Row w w.heap.size A' (bs'.map (Value.int .u8))) (g2 : bs'.length ≤ c') (g3 : c' ≤ maxLen) (g4 : ∀ n ∈ bs', 0 ≤ n ∧ n < 256) :
    Calls Try.prog 11 #[.slice A bs.length c, .slice A' bs'.length c'] w (Ret (.bool true) w) := by
  by_cases hl : bs.length ≤ 1048576 ∧ bs'.length ≤ 1048576
  · exact FnStorePart_yes A c bs A' c' bs' w ⟨f1, f2, f3, f4⟩ ⟨g1, g2, g3, g4⟩ hl.1 hl.2
  · exact FnStorePart_no A c bs A' c' bs' w ⟨f1, f2, f3, f4⟩ ⟨g1, g2, g3, g4⟩ hl
end Go.Proofs.Ytkflpgdbookdhaa
