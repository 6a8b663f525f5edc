/-
  Walk: the drawn arguments of StorePut.
-/
import Derived.Test.YtkflpgdbookdhaaDrawPut
namespace Go.Proofs.Ytkflpgdbookdhaa
open Go.RowKit Wo Pu

/-- A store, mostly, and an object. -/
def SputMade (w : World) (e : Ending) (w' : World) : Prop :=
  ∃ A c os A' c' o, e = .returned (.tuple #[.slice A (List.length os) c, ob (Ob.kd o) A' o.zs.length c' o.s]) ∧ Objs w' w'.heap.size A os ∧ os.length ≤ c ∧ os.length ≤ 22 ∧ (∀ p ∈ os, vOb p = true) ∧
    Row w' w'.heap.size A' (ints o.zs) ∧ o.zs.length ≤ 992 ∧ o.s.size ≤ 9 ∧ Below w.heap.size w w'

theorem SputMade.of_ {w w4 : World} {A A' : Option Addr} {c c' B C : Nat} {os : List Ob} {o : Ob} (h4 : OwnObs w4 B (.slice A os.length c) os) (hB : w.heap.size + 1 < B) (hc : os.length ≤ c) (hl : os.length ≤ 22) (hv : ∀ p ∈ os, vOb p = true)
    (o4 : Own w4 C (.slice A' o.zs.length c') o.zs) (hC : w.heap.size < C) (hz : o.zs.length ≤ 992) (hs : o.s.size ≤ 9) (b4 : Below w.heap.size w w4) :
    SputMade w (.returned (.tuple #[.slice A os.length c, ob o.kd A' o.zs.length c' o.s])) (((w4.setCell ⟨w.heap.size, 0, none⟩ (.int .i64 o.kd)).setCell ⟨w.heap.size, 1, none⟩ (.slice A' o.zs.length c')).setCell ⟨w.heap.size, 2, none⟩ (.string o.s)) := by
  have T : But w.heap.size w4 (((w4.setCell ⟨w.heap.size, 0, none⟩ (.int .i64 o.kd)).setCell ⟨w.heap.size, 1, none⟩ (.slice A' o.zs.length c')).setCell ⟨w.heap.size, 2, none⟩ (.string o.s)) :=
    ((but_set w4 w.heap.size 0 _).trans (but_set _ w.heap.size 1 _)).trans (but_set _ w.heap.size 2 _)
  exact ⟨A, c, os, A', c', o, rfl, (h4.but T (by omega)).objs, hc, hl, hv, (o4.but T hC).row, hz, hs, b4.trans (T.below b4.size (Nat.le_refl _))⟩


set_option maxHeartbeats 2000000 in
theorem DrawStorePut_any (A : Option Addr) (c : Nat) (bs : List Int) (w : World) (h : Code_ w A c bs) :
    Calls Try.prog 17 #[.slice A bs.length c] w (SputMade w) := by
  go_enter Try.func17, Try.ntmps17
  go_wp2_with fail
  have a0 := (Below.refl w.heap.size w).alloc (Nat.le_refl _) (.cells #[.int .i64 0, .slice none 0 0, .string ⟨#[]⟩] 26)
  have u0 := Blk.new_ w 26 (.int .i64 0) (.slice none 0 0) (.string ⟨#[]⟩)
  refine (l6Open_any A c bs _ (h.below a0)).mono ?_
  rintro e w1 ⟨rfl, R1, b1⟩
  have u1 := u0.below b1 u0.lt
  have b1' := a0.trans (b1.mono (by simp))
  simp only [World.size_alloc] at R1
  clear a0 u0 b1
  go_wp2_with fail
  refine (l91Spoilt_any (w.heap.size + 1) 0 w1 R1 (by omega)).mono ?_
  rintro e w2 ⟨v, os, rfl, h2, hl, hv, R2, T2⟩
  have hRl := R1.lt
  have u2 := u1.but T2 (by omega)
  have b2 := b1'.trans (T2.below b1'.size (by omega))
  have hRw : w.heap.size ≤ w.heap.size + 1 := by omega
  obtain ⟨A3, c3, rfl, ho2, hc3⟩ := h2.form2
  have HV := hid hv
  clear T2 R1 b1' u1 hv
  by_cases h0 : os.length = 0
  · have e0 : ¬ (0 : Int) < (os.length : Int) := by omega
    have e1 : decide ((0 : Int) < (os.length : Int)) = false := by simpa using e0
    have H0 := hid h0
    clear h0
    have h2' : OwnObs w2 (w.heap.size + 1 + 1) (.slice A3 os.length c3) os := (h2).base (by omega)
    go_wp2_with fail
    refine (l91Ids_any (w.heap.size + 1) _ A3 c3 os w2 R2 (by omega) h2' hl HV.out).mono ?_
    rintro e w3 ⟨AL, cL, L, rfl, o3, hL, R3, T3⟩
    have h3 := (h2).but T3 hRl
    have u3 := (u2).but T3 (by omega)
    have b3 := (b2).trans (T3.below (b2).size hRw)
    have z3 := (R2).lt
    clear T3 h2'
    go_wp2_with fail
    refine (l91Object_any (w.heap.size + 1) _ AL cL L w3 R3 (by omega) (o3.base z3) (by omega)).mono ?_
    rintro e w4 ⟨kd, A4, c4, zs, s, rfl, o4, hzs, hs9, R4, T4⟩
    have h4 := h3.but T4 hRl
    have u4 := u3.but T4 (by omega)
    have b4 := b3.trans (T4.below b3.size hRw)
    have hz3 : w.heap.size < w3.heap.size := u3.lt
    obtain ⟨r0, r1, r2, rf⟩ := u4.reads
    have rf0 := rf 0
    have rf1 := rf 1
    have rf2 := rf 2
    unfold ob
    clear rf h3 u3 b3 T4 o3
    go_wp2_with fail
    refine bodyPost_ret (v := .tuple #[.slice A3 os.length c3, ob kd A4 zs.length c4 s]) (by simp [results, Try.results17, go_sem, ob, r0, r1, r2]) rfl ?_
    exact SputMade.of_ (o := ⟨kd, zs, s⟩) h4 hRl hc3 hl HV.out o4 hz3 hzs hs9 b4
  · have hpos : (0 : Int) < (os.length : Int) := by omega
    clear h0
    go_wp2_with fail
    refine (pick_any (w.heap.size + 1) _ 6 w2 R2 (by omega) (by omega) (by omega)).mono ?_
    rintro e wp ⟨x, rfl, x0, x1, RP, TP⟩
    have hp := h2.but TP hRl
    have up := u2.but TP (by omega)
    have bp := b2.trans (TP.below b2.size hRw)
    clear h2 u2 b2 TP ho2 R2
    by_cases hx : x = 0
    · have e0 : (x == 0) = true := by rw [hx]; rfl
      clear hx
      go_wp2_with fail
      refine (pick_any (w.heap.size + 1) _ os.length wp RP (by omega) (by omega) (by omega)).mono ?_
      rintro e w3 ⟨y, rfl, y0, y1, R3, T3⟩
      have h3 := hp.but T3 hRl
      have u3 := up.but T3 (by omega)
      have b3 := bp.trans (T3.below bp.size hRw)
      obtain ⟨j, rfl⟩ : ∃ j : Nat, y = (j : Int) := ⟨y.toNat, by omega⟩
      have hj : j < os.length := by omega
      obtain ⟨o, ad, A', c', ho, rfl, ha, g0, g1, g2, g3⟩ := (h3.objs).obj hj
      have hvo : vOb o = true := by rw [← ho]; exact HV.out _ (List.getElem_mem hj)
      have hsm := vOb_small hvo
      clear ho T3 hp up bp
      go_wp2_with fail
      refine (l1One_any w3.heap.size A' c' o w3 g3 (Nat.le_refl _) (by omega)).mono ?_
      rintro e w4 ⟨A4, c4, rfl, o4, bb4⟩
      have h4 := h3.below bb4
      have u4 := u3.below bb4 u3.lt
      have b4 := b3.trans (bb4.mono b3.size)
      have hz3 : w.heap.size < w3.heap.size := u3.lt
      obtain ⟨r0, r1, r2, rf⟩ := u4.reads
      have rf0 := rf 0
      have rf1 := rf 1
      have rf2 := rf 2
      unfold ob
      clear rf h3 u3 b3 bb4 g0 g1 g2 g3
      go_wp2_with fail
      refine bodyPost_ret (v := .tuple #[.slice (some ad) os.length c3, ob o.kd A4 o.zs.length c4 o.s]) (by simp [results, Try.results17, go_sem, ob, r0, r1, r2]) rfl ?_
      exact SputMade.of_ (o := o) h4 hRl hc3 hl HV.out o4 hz3 (by omega) (by omega) b4
    · have e0 : (x == 0) = false := by rw [beq_eq_false_iff_ne]; exact hx
      clear hx
      have h2' : OwnObs wp (w.heap.size + 1 + 1) (.slice A3 os.length c3) os := (hp).base (by omega)
      go_wp2_with fail
      refine (l91Ids_any (w.heap.size + 1) _ A3 c3 os wp RP (by omega) h2' hl HV.out).mono ?_
      rintro e w3 ⟨AL, cL, L, rfl, o3, hL, R3, T3⟩
      have h3 := (hp).but T3 hRl
      have u3 := (up).but T3 (by omega)
      have b3 := (bp).trans (T3.below (bp).size hRw)
      have z3 := (RP).lt
      clear T3 h2'
      go_wp2_with fail
      refine (l91Object_any (w.heap.size + 1) _ AL cL L w3 R3 (by omega) (o3.base z3) (by omega)).mono ?_
      rintro e w4 ⟨kd, A4, c4, zs, s, rfl, o4, hzs, hs9, R4, T4⟩
      have h4 := h3.but T4 hRl
      have u4 := u3.but T4 (by omega)
      have b4 := b3.trans (T4.below b3.size hRw)
      have hz3 : w.heap.size < w3.heap.size := u3.lt
      obtain ⟨r0, r1, r2, rf⟩ := u4.reads
      have rf0 := rf 0
      have rf1 := rf 1
      have rf2 := rf 2
      unfold ob
      clear rf h3 u3 b3 T4 o3
      go_wp2_with fail
      refine bodyPost_ret (v := .tuple #[.slice A3 os.length c3, ob kd A4 zs.length c4 s]) (by simp [results, Try.results17, go_sem, ob, r0, r1, r2]) rfl ?_
      exact SputMade.of_ (o := ⟨kd, zs, s⟩) h4 hRl hc3 hl HV.out o4 hz3 hzs hs9 b4
end Go.Proofs.Ytkflpgdbookdhaa
