/-
  Walks of laws on votes and what they lock.
-/
import Derived.Test.YteeffchnbkkpfabDoorShdI
import Derived.Test.YteeffchnbkkpfabDoorDrawSv
namespace Go.Proofs.YteeffchnbkkpfabDoor
open Go.RowKit Wo Pu Rf Lk Sh

/-- A vote that is given. -/
structure Yes (rs xs : List Rec) (t : Int) (us : List Up) (s s' : St) : Prop where
  old : Rcv rs s
  new : Rcv xs s'
  at_ : ∀ k (hk : k < us.length), ∃ m : Nat, us[k].r = m ∧ m < 4 ∧ s.locks[m]? = some (-1) ∧ s'.locks[m]? = some t
  ask : Sh.ask xs t = 1
  len : xs.length = rs.length + 1
  vx : Vld xs
  vr : Vld rs
  tv : TV t
theorem Stt.rows {w : World} {B n c n2 c2 : Nat} {A A2 : Option Addr} {s : St} (h : Stt w B (.agg #[.slice A n c, .slice A2 n2 c2]) s) : Row w B A (ints s.refs) ∧ Row w B A2 (ints s.locks) := by
  obtain ⟨A', c', A2', c2', e, h1, -, h2, -⟩ := h
  unfold stV at e
  injection e with e
  simp only [Array.mk.injEq, List.cons.injEq, and_true] at e
  obtain ⟨e1, e2⟩ := e
  injection e1 with e1 _ _
  injection e2 with e2 _ _
  subst e1 e2
  exact ⟨h1, h2⟩
theorem prep_yes {rs xs : List Rec} {t : Int} {us : List Up} (h : Voted rs t us xs true) (ha : Sh.ask rs t = 0) : ∃ s L, Yes rs xs t us s ⟨s.refs, L⟩ := by
  have key : Vld rs ∧ TV t ∧ UV us ∧ xs = rs ++ [⟨1, t, us⟩] ∧ Vld xs := by
    generalize hb : true = b at h
    cases h with
    | bad _ => cases hb
    | known h1 h2 h3 h4 => exact absurd ha h4
    | yes h1 h2 h3 _ h5 => exact ⟨h1, h2, h3, rfl, h5⟩
    | no _ _ _ _ _ _ => cases hb
    | full _ _ _ _ _ => cases hb
  obtain ⟨h1, h2, h3, rfl, h5⟩ := key
  obtain ⟨⟨s, hs⟩, hl⟩ := id h1
  obtain ⟨g1, g2, g3, g4, g5⟩ := (Vld.prepare_iff hs h2 us).1 h5
  refine ⟨s, setR s.locks (lk t us), hs, .snoc hs h2 (.prepare rfl ha h3 g4 g5), fun k hk => ?_, by rw [ask_snoc, if_pos rfl], by simp, h5, h1, h2⟩
  have hm := List.getElem_mem hk
  obtain ⟨p1, p2⟩ := prepare_at hs.inv h2 h3 g5 hm
  have hr := (h3.2.mem _ hm).2.1
  refine ⟨us[k].r.toNat, by omega, by omega, p1, p2⟩
/-- Whether a vote is to be given, by the first k updates. -/
def FitK (rs : List Rec) (us : List Up) (s : St) (g : Bool) (k : Nat) : Prop := g = true ↔ rs.length < 30 ∧ ∀ u ∈ us.take k, s.refs[u.r.toNat]? = some u.o ∧ s.locks[u.r.toNat]? = some (-1)
theorem FitK.zero (rs : List Rec) (us : List Up) (s : St) : FitK rs us s (decide ((rs.length : Int) < 30)) 0 := by
  unfold FitK
  rw [decide_eq_true_iff]
  exact ⟨fun h => ⟨by omega, fun u hu => by simp at hu⟩, fun h => by omega⟩
theorem FitK.more {rs : List Rec} {us : List Up} {s : St} {g : Bool} {k : Nat} (h : FitK rs us s g k) (hk : k < us.length) (b : Bool) (hb : b = true ↔ s.refs[us[k].r.toNat]? = some us[k].o ∧ s.locks[us[k].r.toNat]? = some (-1)) : FitK rs us s (g && b) (k + 1) := by
  unfold FitK at h ⊢
  rw [Bool.and_eq_true, h, hb, List.take_succ_eq_append_getElem hk]
  constructor
  · rintro ⟨⟨h1, h2⟩, h3⟩
    refine ⟨h1, fun u hu => ?_⟩
    rcases List.mem_append.1 hu with hu | hu
    · exact h2 u hu
    · rw [List.mem_singleton] at hu; subst hu; exact h3
  · rintro ⟨h1, h2⟩
    exact ⟨⟨h1, fun u hu => h2 u (List.mem_append_left _ hu)⟩, h2 _ (List.mem_append_right _ (List.mem_singleton.2 rfl))⟩
theorem voted_fits {rs xs : List Rec} {t : Int} {us : List Up} {b : Bool} {s : St} (h : Voted rs t us xs b) (h1 : Vld rs) (hs : Rcv rs s) (h2 : TV t) (h3 : UV us) (ha : Sh.ask rs t = 0) : FitK rs us s b us.length := by
  have pi := Vld.prepare_iff hs h2 us
  have hb : b = true ↔ Vld (rs ++ [⟨1, t, us⟩]) := by
    rcases h.new_ h1 h2 h3 ha with ⟨h4, _, h5⟩ | ⟨h4, h5, _⟩
    · exact ⟨fun _ => h4, fun _ => h5⟩
    · rw [h5]; exact ⟨fun e => (by cases e), fun e => absurd e h4⟩
  unfold FitK
  rw [hb, pi, List.take_length]
  constructor
  · rintro ⟨g1, -, -, g4, g5⟩
    exact ⟨g1, fun u hu => ⟨g4 u hu, fits_lk.1 g5 u hu⟩⟩
  · rintro ⟨g1, g2⟩
    exact ⟨g1, ha, h3, fun u hu => (g2 u hu).1, fits_lk.2 fun u hu => (g2 u hu).2⟩
end Go.Proofs.YteeffchnbkkpfabDoor
