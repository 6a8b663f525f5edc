/-
  Walk of the law on sums of packs.
-/
import Derived.Test.YtpcfabgjdefkiaaDrawPk
import Derived.Test.YtpcfabgjdefkiaaPackR
namespace Go.Proofs.Ytpcfabgjdefkiaa
open Go.RowKit Wo Pu

theorem implSum_v (v : Int) (A : Option Addr) (c : Nat) (es : List Ent) (w : World) (h : Ents w w.heap.size A es) (hn : es.length ≤ 1048576) (hfe : FitE es) (hv : pSum es = v) :
    Calls Try.prog 30 #[.slice A es.length c] w (Ret (.int .i64 v) w) := by
  subst hv
  exact implPackSum_any A c es w h hn hfe
theorem specSum_v (v : Int) (A : Option Addr) (c : Nat) (es : List Ent) (w : World) (h : Ents w w.heap.size A es) (hn : es.length ≤ 1048576) (hfe : FitE es) (hv : pSum es = v) :
    Calls Try.prog 31 #[.slice A es.length c] w (Ret (.int .i64 v) w) := by
  subst hv
  exact specPackSum_any A c es w h hn hfe

theorem FnPackSum_no (A : Option Addr) (c : Nat) (bs : List Int) (w : World) (h : Code_ w A c bs) (hl : ¬ bs.length ≤ 1048576) :
    Calls Try.prog 10 #[.slice A bs.length c] w (Ret (.bool true) w) := by
  have hc := h.2.1
  have hm := h.2.2.1
  unfold maxLen at hm
  go_enter Try.func10, Try.ntmps10
  go_wp2
  go_ret
  exact .mk_ (Below.refl _ _)
set_option maxRecDepth 100000 in
set_option maxHeartbeats 4000000 in
theorem FnPackSum_yes (A : Option Addr) (c : Nat) (bs : List Int) (w : World) (h : Code_ w A c bs) (hl : bs.length ≤ 1048576) :
    Calls Try.prog 10 #[.slice A bs.length c] w (Ret (.bool true) w) := by
  go_enter Try.func10, Try.ntmps10
  go_wp2_with fail
  refine (DrawPackSum_any A c bs _ h).mono ?_
  rintro e w1 ⟨A1, c1, es, rfl, e1, hc1, h16, fit, b1⟩
  have hn : es.length ≤ 1048576 := by omega
  obtain ⟨S, hS⟩ : ∃ S, pSum es = S := ⟨_, rfl⟩
  have HS := hid hS
  obtain ⟨g, hg⟩ : ∃ g, packB es = g := ⟨_, rfl⟩
  have HG := hid hg
  have hS9 : S < 991 := by
    rw [← hS]
    cases hb : packB es
    · rw [pSum_no hb]; decide
    · exact (pSum_range hb).2
  have hSg : decide (0 ≤ S) = g := by
    rw [← hS, ← hg]
    cases hb : packB es
    · rw [pSum_no hb]; rfl
    · exact decide_eq_true (pSum_range hb).1
  clear hS hg
  go_wp2_with fail
  refine (implSum_v S A1 c1 es w1 e1 hn fit HS.out).mono ?_
  rintro e w2 ⟨rfl, b2⟩
  have e2 := (e1.below b2 (Nat.le_refl _)).more b2.size
  have b12 := b1.trans (b2.mono b1.size)
  clear e1 b1 b2
  go_wp2_with fail
  refine (specSum_v S A1 c1 es w2 e2 hn fit HS.out).mono ?_
  rintro e w3 ⟨rfl, b3⟩
  have e3 := (e2.below b3 (Nat.le_refl _)).more b3.size
  have b13 := b12.trans (b3.mono b12.size)
  clear e2 b12 b3
  have hpo := implPackObjects_any A1 c1 es w3 e3 hn fit
  go_wp2_with fail
  refine hpo.mono ?_
  clear hpo
  rintro e w4 ⟨v4, rfl, o4, b4⟩
  rw [HG.out]
  cases g
  · go_wp2
    go_ret
    exact .mk_ (b13.trans (b4.mono b13.size))
  · go_wp2
    go_ret
    exact .mk_ (b13.trans (b4.mono b13.size))
theorem FnPackSum_any (A : Option Addr) (c : Nat) (bs : List Int) (w : World) (f1 : Row w w.heap.size A (bs.map (Value.int .u8))) (f2 : bs.length ≤ c) (f3 : c ≤ maxLen) (f4 : ∀ n ∈ bs, 0 ≤ n ∧ n < 256) :
    Calls Try.prog 10 #[.slice A bs.length c] w (Ret (.bool true) w) := by
  by_cases hl : bs.length ≤ 1048576
  · exact FnPackSum_yes A c bs w ⟨f1, f2, f3, f4⟩ hl
  · exact FnPackSum_no A c bs w ⟨f1, f2, f3, f4⟩ hl
end Go.Proofs.Ytpcfabgjdefkiaa
