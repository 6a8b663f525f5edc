/-
  Walks: nodes: depths, texts of bases, links.
-/
import Derived.Test.YtkekbobnbipmoaaEnts
import Derived.Test.YtkekbobnbipmoaaApp
namespace Go.Proofs.Ytkekbobnbipmoaa
open Go.RowKit Wo Pu

/-- From the pointer p on it is as many steps as lack. -/
def OnWay (es : List Ent) (ns : List Nd) (i k : Nat) (p : Value) : Prop :=
  (∃ (j : Nat) (h : j < ns.length), p = .pointer (some ⟨ns[j].g, 0, none⟩) ∧ k + 1 + dep es j = dep es i) ∨ (p = .pointer none ∧ k = dep es i)
theorem OnWay.of {es : List Ent} {ns : List Nd} {i j k : Nat} (hb : Bas es) (hl : ns.length = es.length) (hj : j < es.length) (h : k + dep es j = dep es i) : OnWay es ns i k (pTo ns es[j].b) := by
  have h1 := hb j hj
  by_cases h0 : 0 ≤ es[j].b
  · obtain ⟨b, hbb⟩ : ∃ b : Nat, es[j].b = (b : Int) := ⟨es[j].b.toNat, by omega⟩
    have hd := dep_step hb hj h0
    rw [hbb] at hd h1 ⊢
    rw [show ((b : Int)).toNat = b from by omega] at hd
    exact .inl ⟨b, by omega, pTo_some (by omega), by omega⟩
  · have hd := dep_base hj (by omega)
    exact .inr ⟨pTo_none (by omega), by omega⟩

set_option maxHeartbeats 1000000 in
theorem depth_any (B : Nat) (v : Value) (es : List Ent) (ns : List Nd) (i : Nat) (w : World) (h : Chain w B v es ns) (hi : i < es.length) (hi2 : i < ns.length) (hn : es.length ≤ 1048576) :
    Calls Try.prog 44 #[.pointer (some ⟨ns[i].g, 0, none⟩)] w (Same (.int .i64 (dep es i)) w) := by
  have hdl := dep_le h.2.1 i hi
  have H := hid h
  obtain ⟨_, _, _, _, y4, _, _⟩ := h.cells hi hi2
  obtain ⟨p0, hp0⟩ : ∃ p, pTo ns es[i].b = p := ⟨_, rfl⟩
  have HW : Hid (OnWay es ns i 0 p0) := by rw [← hp0]; exact OnWay.of h.2.1 h.1 hi (by omega)
  rw [hp0] at y4
  clear h hp0
  go_enter Try.func44, Try.ntmps44
  go_wp2
  go_loop [3, 4] (fun m p => ∃ k : Nat, m = .int .i64 k ∧ Hid (OnWay es ns i k p)) (fun m _ => dep es i - (intOf m).toNat)
  case atStart => exact ⟨0, rfl, HW⟩
  case round =>
    obtain ⟨k, rfl, HK⟩ := hrel
    clear HW
    rcases HK.out with ⟨j, hj, rfl, hk⟩ | ⟨rfl, hk⟩
    · have hje : j < es.length := by rw [← H.out.1]; exact hj
      obtain ⟨_, _, _, _, z4, _, _⟩ := H.out.cells hje hj
      obtain ⟨p1, hp1⟩ : ∃ p, pTo ns es[j].b = p := ⟨_, rfl⟩
      have HN : Hid (OnWay es ns i (k + 1) p1) := by rw [← hp1]; exact OnWay.of H.out.2.1 H.out.1 hje hk
      rw [hp1] at z4
      have hkk : k < dep es i := by omega
      clear hp1 hk HK
      go_wp2
      go_round
      case rel => exact ⟨k + 1, by go_num, HN⟩
      case measure => simp [intOf]; omega
    · have HE := hid hk
      clear hk HK
      go_wp2
      go_ret
      rw [HE.out]
      exact ⟨rfl, rfl⟩

/-- The text of which a node's operations make its own. -/
def txtN (ns : List Nd) (b : Int) : ByteArray := if 0 ≤ b then ((ns[b.toNat]?).map Nd.t).getD ⟨#[]⟩ else ⟨#[]⟩
theorem txtN_none {ns : List Nd} {b : Int} (h : b < 0) : txtN ns b = ⟨#[]⟩ := if_neg (by omega)
theorem txtN_some {ns : List Nd} {b : Nat} (h : b < ns.length) : txtN ns (b : Int) = ns[b].t := by
  unfold txtN
  rw [if_pos (by omega), show ((b : Int)).toNat = b from by omega, List.getElem?_eq_getElem h]
  rfl
set_option maxHeartbeats 1000000 in
theorem baseText_any (B : Nat) (v : Value) (es : List Ent) (ns : List Nd) (i : Nat) (w : World) (h : Chain w B v es ns) (hi : i < es.length) (hi2 : i < ns.length) :
    Calls Try.prog 78 #[.pointer (some ⟨ns[i].g, 0, none⟩)] w (Same (.string (txtN ns es[i].b)) w) := by
  obtain ⟨_, _, _, _, y4, _, _⟩ := h.cells hi hi2
  have h1 := h.2.1 i hi
  by_cases h0 : 0 ≤ es[i].b
  · obtain ⟨b, hbb⟩ : ∃ b : Nat, es[i].b = (b : Int) := ⟨es[i].b.toNat, by omega⟩
    rw [hbb] at y4 h1 ⊢
    have hl := h.1
    rw [pTo_some (by omega)] at y4
    obtain ⟨_, _, _, _, _, z5, _⟩ := h.cells (i := b) (by omega) (by omega)
    have HT := hid (txtN_some (ns := ns) (b := b) (by omega))
    clear h h0 hbb
    go_enter Try.func78, Try.ntmps78
    go_wp2
    go_ret
    rw [HT.out]
    exact ⟨rfl, rfl⟩
  · rw [pTo_none (by omega)] at y4
    have HT := hid (txtN_none (ns := ns) (b := es[i].b) (by omega))
    clear h h0 h1
    go_enter Try.func78, Try.ntmps78
    go_wp2
    go_ret
    rw [HT.out]
    exact ⟨rfl, rfl⟩
end Go.Proofs.Ytkekbobnbipmoaa
