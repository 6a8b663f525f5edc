/-
  Walk: the model's StorePut.
-/
import Derived.Test.YtjniemimdjpibaaPut
namespace Go.Proofs.Ytjniemimdjpibaa
open Go.RowKit Wo Pu

/-- What StorePut answers. -/
def PutAll (os : List Ob) (o : Ob) (r : Nat) (os' : List Ob) (b : Bool) : Prop :=
  (storeB os = true → vOb o = true → PutIs os o r os' b) ∧ ((storeB os = false ∨ vOb o = false) → os' = [] ∧ b = false)
def PuttedAll (os : List Ob) (o : Ob) (r : Nat) (w : World) (e : Ending) (w' : World) : Prop :=
  ∃ v os' b, e = .returned (.tuple #[v, .bool b]) ∧ PutAll os o r os' b ∧ OwnObs w' w.heap.size v os' ∧ Below w.heap.size w w'
theorem PuttedAll.none_ {os : List Ob} {o : Ob} {r : Nat} {w w' : World} (hb : Below w.heap.size w w') (h : storeB os = false ∨ vOb o = false) :
    PuttedAll os o r w (.returned (.tuple #[.slice (some ⟨w'.heap.size, 0, none⟩) 0 0, .bool false])) (w'.alloc (.cells #[] 26)) := by
  refine ⟨_, [], false, rfl, ⟨fun h1 h2 => ?_, fun _ => ⟨rfl, rfl⟩⟩, OwnObs.nil_new hb.size, hb.alloc hb.size _⟩
  rcases h with h | h
  · rw [h1] at h; cases h
  · rw [h2] at h; cases h

set_option maxHeartbeats 4000000 in
theorem specStorePut_any (A : Option Addr) (c : Nat) (os : List Ob) (A' : Option Addr) (c' : Nat) (o : Ob) (r : Nat) (w : World) (h : Objs w w.heap.size A os) (hf : Fit os) (hn : os.length ≤ maxLen) (hc : os.length ≤ c)
    (hro : Row w w.heap.size A' (ints o.zs)) (hfo : o.zs.length ≤ maxLen ∧ o.s.size ≤ maxLen) (hr : Hid (At_ os (iOb o) r)) :
    Calls Try.prog 8 #[.slice A os.length c, ob o.kd A' o.zs.length c' o.s] w (PuttedAll os o r w) := by
  unfold ob
  have h1 : Objs (w.alloc (.cells #[.int .i64 o.kd, .slice A' o.zs.length c', .string o.s] 26)) (w.alloc (.cells #[.int .i64 o.kd, .slice A' o.zs.length c', .string o.s] 26)).heap.size A os :=
    (h.below ((Below.refl w.heap.size w).alloc (Nat.le_refl _) _) (Nat.le_refl _)).more (by simp)
  rcases hst : storeB os with _ | _
  · go_enter Try.func8, Try.ntmps8
    go_wp2_with fail
    refine (specStoreValid_any A c os _ h1 hf hn).mono ?_
    rintro e w1 ⟨rfl, hb1⟩
    obtain ⟨p1, b1, z1⟩ := box_facts hb1 rfl
    clear hb1
    rw [hst]
    go_wp2_with fail
    refine bodyPost_ret (v := .tuple #[.slice (some ⟨w1.heap.size, 0, none⟩) 0 0, .bool false]) (by simp [results, Try.results8, go_sem]) rfl (PuttedAll.none_ b1 (.inl hst))
  · rcases hvo : vOb o with _ | _
    · go_enter Try.func8, Try.ntmps8
      go_wp2_with fail
      refine (specStoreValid_any A c os _ h1 hf hn).mono ?_
      rintro e w1 ⟨rfl, hb1⟩
      obtain ⟨p1, b1, z1⟩ := box_facts hb1 rfl
      clear hb1
      rw [hst]
      obtain ⟨x0, x1, x2, -⟩ := id p1.reads
      go_wp2_with fail
      refine (specValid_val false w.heap.size A' c' o.kd o.zs o.s w1 hvo (hro.below b1 (Nat.le_refl _)) b1.size hfo.1 hfo.2).mono ?_
      rintro e w2 ⟨rfl, hb2⟩
      have b2 := b1.trans (hb2.mono b1.size)
      go_wp2_with fail
      refine bodyPost_ret (v := .tuple #[.slice (some ⟨w2.heap.size, 0, none⟩) 0 0, .bool false]) (by simp [results, Try.results8, go_sem]) rfl (PuttedAll.none_ b2 (.inr hvo))
    · have hn16 := (storeB_parts hst).2
      go_enter Try.func8, Try.ntmps8
      go_wp2_with fail
      refine (specStoreValid_any A c os _ h1 hf hn).mono ?_
      rintro e w1 ⟨rfl, hb1⟩
      obtain ⟨p1, b1, z1⟩ := box_facts hb1 rfl
      clear hb1
      rw [hst]
      obtain ⟨x0, x1, x2, -⟩ := id p1.reads
      go_wp2_with fail
      refine (specValid_val true w.heap.size A' c' o.kd o.zs o.s w1 hvo (hro.below b1 (Nat.le_refl _)) b1.size hfo.1 hfo.2).mono ?_
      rintro e w2 ⟨rfl, hb2⟩
      have p2 := p1.below hb2 p1.lt
      have b2 := b1.trans (hb2.mono b1.size)
      clear x0 x1 x2 p1 b1 hb2
      obtain ⟨x0, x1, x2, -⟩ := id p2.reads
      go_wp2_with fail
      refine (l1Put_any A c os A' c' o r w2 ((h.below b2 (Nat.le_refl _)).more b2.size) hc (by omega) (storeB_valid hst) ((hro.below b2 (Nat.le_refl _)).more b2.size) hvo hr).mono ?_
      rintro e w3 ⟨v, os', b, rfl, hp, hv3, hb3⟩
      go_wp2_with fail
      refine bodyPost_ret (v := .tuple #[v, .bool b]) (by simp [results, Try.results8, go_sem]) rfl ⟨v, os', b, rfl, ⟨fun _ _ => hp, fun hx => ?_⟩, hv3.base b2.size, b2.trans (hb3.mono b2.size)⟩
      rcases hx with hx | hx
      · rw [hst] at hx; cases hx
      · rw [hvo] at hx; cases hx
end Go.Proofs.Ytjniemimdjpibaa
