/-
  Walk: the program links entries to their bases.
-/
import Derived.Test.YtkekbobnbipmoaaNode
import Derived.Test.YtkekbobnbipmoaaDepS
namespace Go.Proofs.Ytkekbobnbipmoaa
open Go.RowKit Wo Pu

/-- The cells of nodes hold the entries; their rows lie below R. -/
def NR (w : World) (R : Nat) (es : List Ent) (ns : List Nd) : Prop := ∀ i (h : i < es.length) (h2 : i < ns.length), ns[i].k = .int .i64 es[i].kd ∧
  ∃ (A : Option Addr) (c : Nat) (A' : Option Addr) (c' : Nat), ns[i].l = .slice A es[i].zs.length c ∧ ns[i].o = .slice A' es[i].ops.length c' ∧ Row w R A (ints es[i].zs) ∧ Row w R A' (opsV es[i].ops)
theorem NR.below {w w' : World} {R C : Nat} {es : List Ent} {ns : List Nd} (h : NR w R es ns) (hb : Below C w w') (hC : R ≤ C) : NR w' R es ns := fun i hi hi2 => by
  obtain ⟨a, A, c, A', c', b1, b2, b3, b4⟩ := h i hi hi2
  exact ⟨a, A, c, A', c', b1, b2, b3.below hb hC, b4.below hb hC⟩
theorem NR.snoc {w : World} {R c c' : Nat} {A A' : Option Addr} {es : List Ent} {ns : List Nd} {e : Ent} {n : Nd} (h : NR w R es ns) (hl : ns.length = es.length) (hk : n.k = .int .i64 e.kd) (h1 : n.l = .slice A e.zs.length c) (h2 : n.o = .slice A' e.ops.length c')
    (h3 : Row w R A (ints e.zs)) (h4 : Row w R A' (opsV e.ops)) : NR w R (es ++ [e]) (ns ++ [n]) := fun i hi hi2 => by
  rw [List.length_append, List.length_singleton] at hi hi2
  by_cases hlt : i < es.length
  · have := h i hlt (by omega)
    rw [List.getElem_append_left hlt, List.getElem_append_left (by omega)]
    exact this
  · have hi' : i = es.length := by omega
    subst hi'
    rw [List.getElem_append_right (Nat.le_refl _), List.getElem_append_right (by omega)]
    simp only [hl, Nat.sub_self, List.getElem_singleton]
    exact ⟨hk, A, c, A', c', h1, h2, h3, h4⟩
section
variable {w w' : World} {B C : Nat} {v v' : Value} {es : List Ent} {ns : List Nd}
theorem Chain.vne (h : Chain w B v es ns) {i : Nat} (h2 : i < ns.length) : some ns[i].g ≠ v.ownBlock := fun e => by
  have hn := (h.2.2.2.1 i (by rw [← h.1]; exact h2) h2).2
  rcases h.2.2.1.2 with ⟨rfl, _⟩ | ⟨g, cap, cur, rfl, _, hh, _⟩
  · cases e
  · have hg : g = ns[i].g := by
      have e' : some ns[i].g = some g := e
      injection e' with e'
      exact e'.symm
    rw [hg, hn] at hh
    injection hh with hh
    injection hh with _ hh
    exact absurd hh (by decide)
/-- One node more. -/
theorem Chain.add {e : Ent} {n : Nd} (h : Chain w B v es ns) (he1 : -1 ≤ e.b) (he2 : e.b < (es.length : Int)) (hold : ∀ i (h2 : i < ns.length), w'.heap[ns[i].g]? = w.heap[ns[i].g]?)
    (hrow : w'.ownsRow B 58 1 v' (ns.length + 1) (ptrs ns ++ [.pointer (some ⟨n.g, 0, none⟩)])) (hg : w'.heap[n.g]? = some (.cells (ndC ns e.b n) 61 (0, 0))) (hB : B ≤ n.g) (hnew : w.heap.size ≤ n.g) :
    Chain w' B v' (es ++ [e]) (ns ++ [n]) := by
  have hl := fun i h2 => h.lt (i := i) h2
  obtain ⟨h1, h2, h3, h4, h5⟩ := h
  refine ⟨by simp [h1], h2.snoc he1 he2, ?_, fun i hi hi2 => ?_, fun i j hi hj hij => ?_⟩
  · have e1 : (ns ++ [n]).length = ns.length + 1 := by simp
    have e2 : ptrs (ns ++ [n]) = ptrs ns ++ [.pointer (some ⟨n.g, 0, none⟩)] := by simp [ptrs]
    rw [e1, e2]
    exact hrow
  · rw [List.length_append, List.length_singleton] at hi hi2
    by_cases hlt : i < es.length
    · obtain ⟨a, b⟩ := h4 i hlt (by omega)
      have hbi := h2 i hlt
      rw [List.getElem_append_left hlt, List.getElem_append_left (by omega)]
      refine ⟨a, (hold i (by omega)).trans ?_⟩
      rw [b]
      unfold ndC
      rw [pTo_app (by omega)]
    · have hi' : i = es.length := by omega
      subst hi'
      rw [List.getElem_append_right (Nat.le_refl _), List.getElem_append_right (by omega)]
      simp only [h1, Nat.sub_self, List.getElem_singleton]
      refine ⟨hB, ?_⟩
      rw [hg]
      unfold ndC
      rw [pTo_app (by omega)]
  · rw [List.length_append, List.length_singleton] at hi hj
    by_cases hlt : j < ns.length
    · rw [List.getElem_append_left hlt, List.getElem_append_left (by omega)]
      exact h5 i j (by omega) hlt hij
    · have hj' : j = ns.length := by omega
      subst hj'
      rw [List.getElem_append_right (Nat.le_refl _), List.getElem_append_left (by omega)]
      have := hl i (by omega)
      simp only [Nat.sub_self, List.getElem_singleton]
      omega
theorem Chain.nil_ (h : w'.ownsRow B 58 1 v 0 []) : Chain w' B v [] [] :=
  ⟨rfl, fun i hi => absurd hi (by simp), h, fun i hi => absurd hi (by simp), fun i j hi => absurd hi (by simp)⟩
theorem Chain.own (h : Chain w B v es ns) : ∀ k, v.ownBlock = some k → B ≤ k ∧ k < w.heap.size := World.ownsRow.lt h.2.2.1
end
theorem info_ptr : (Try.prog.info? 58).map (fun i => (i.zero, i.size, i.bytes)) = some (some (.pointer none), 1, 8) := by kernel_rfl
theorem one_ptr (x : Option Addr) : ∀ u ∈ [Value.pointer x], u.oneCell' = true := by
  intro u hu
  rw [List.mem_singleton.1 hu]
  rfl

/-- Behind it: the nodes, or none. -/
def Linked (es : List Ent) (w : World) (e : Ending) (w' : World) : Prop :=
  (basB es = false ∧ e = .returned (.tuple #[.slice none 0 0, .bool false]) ∧ Below w.heap.size w w') ∨
  (basB es = true ∧ ∃ v ns, e = .returned (.tuple #[v, .bool true]) ∧ Chain w' w.heap.size v es ns ∧ NR w' w.heap.size es ns ∧ (∀ n ∈ ns, n.t = ⟨#[]⟩) ∧ Below w.heap.size w w')

theorem one_at (w : World) (g : Nat) (v : Value) (t : TypeId) (hg : g = w.heap.size) : ∀ j u, [v][j]? = some u → (w.alloc (.cells #[v] t)).cell? ((⟨g, 0, none⟩ : Addr).add j) = some u := by
  subst hg
  exact cell_one_new _ _ _


set_option maxRecDepth 100000 in
set_option maxHeartbeats 8000000 in
theorem linkEntries_any (A : Option Addr) (c : Nat) (es : List Ent) (w : World) (h : Ents w w.heap.size A es) (hn : es.length ≤ 1048576) (hfe : FitE es) :
    Calls Try.prog 43 #[.slice A es.length c] w (Linked es w) := by
  obtain ⟨p0, hp, hp0, hp1, hp2⟩ := info_of info_ptr
  go_enter Try.func43, Try.ntmps43
  have n0 := nil_own (w := w) (B := w.heap.size) (Nat.le_refl _) 58 1
  have a0 := (Below.refl w.heap.size w).alloc (Nat.le_refl _) (.cells #[] 58)
  obtain ⟨w0, hw0⟩ : ∃ w0, w.alloc (.cells #[] 58) = w0 := ⟨_, rfl⟩
  rw [hw0] at n0 a0
  have HW0 := hid hw0
  clear hw0
  go_wp2_with fail
  rw [HW0.out]
  clear HW0
  go_loopw [4, 11] (fun v i wr => ∃ (k : Nat) (ns : List Nd), i = .int .i64 k ∧ k ≤ es.length ∧ Chain wr w.heap.size v (es.take k) ns ∧ NR wr w.heap.size (es.take k) ns ∧ Hid (∀ n ∈ ns, n.t = ⟨#[]⟩) ∧ Below w.heap.size w wr) (fun _ i _ => es.length - (intOf i).toNat)
  case atStart => exact ⟨0, [], rfl, Nat.zero_le _, Chain.nil_ n0, fun i hi => absurd hi (by simp), fun n hn => (by cases hn), a0⟩
  case round =>
    obtain ⟨k, ns, rfl, hk, hch, hnr, HT, hb⟩ := hrel
    clear n0 a0
    have hz := hb.size
    have hnl : ns.length = k := by rw [hch.1, List.length_take]; omega
    obtain ⟨AN, cN, rfl, hrow, hcN⟩ := hch.row
    by_cases hlt : k < es.length
    · obtain ⟨e, ad, A1, c1, A2, c2, he, rfl, ha, g0, g1, g2, g3, g4, g5⟩ := (h.below hb (Nat.le_refl _)).ent hlt
      have hfe2 := hfe e (by rw [← he]; exact List.getElem_mem hlt)
      have HE := hid he
      have i0 : 0 ≤ (k : Int) := by omega
      have i1 : (k : Int) < (es.length : Int) := by omega
      clear he
      have hi0 : 0 ≤ (wr.heap.size : Int) := by omega
      have b12 := ((Below.refl wr.heap.size wr).alloc (Nat.le_refl _) (.cells #[.int .i64 e.kd, .slice A1 e.zs.length c1, .int .i64 e.b, .slice A2 e.ops.length c2] 33)).alloc (by simp) (.cells #[.int .i64 e.kd, .slice A1 e.zs.length c1, .int .i64 e.b, .slice A2 e.ops.length c2, .pointer none, .string ⟨#[]⟩] 61)
      have hn2 : ((wr.alloc (.cells #[.int .i64 e.kd, .slice A1 e.zs.length c1, .int .i64 e.b, .slice A2 e.ops.length c2] 33)).alloc (.cells #[.int .i64 e.kd, .slice A1 e.zs.length c1, .int .i64 e.b, .slice A2 e.ops.length c2, .pointer none, .string ⟨#[]⟩] 61)).heap[wr.heap.size + 1]? = some (.cells #[.int .i64 e.kd, .slice A1 e.zs.length c1, .int .i64 e.b, .slice A2 e.ops.length c2, .pointer none, .string ⟨#[]⟩] 61 (0, 0)) := (two_new _ _ _).1
      by_cases hm1 : e.b = -1
      · have hne : (e.b != -1) = false := by rw [hm1]; rfl
        have hb0 : -1 ≤ e.b := by omega
        have hb9 : e.b < (k : Int) := by omega
        have HPT : Hid (pTo ns e.b = .pointer none) := pTo_none (by omega)
        have b13 := b12
        have hn3 := hn2
        clear hm1 b12 hn2
        have HC3 := hch.below b13 (Nat.le_refl _)
        have z13 := b13.size
        have zW : ((wr.alloc (.cells #[.int .i64 e.kd, .slice A1 e.zs.length c1, .int .i64 e.b, .slice A2 e.ops.length c2] 33)).alloc (.cells #[.int .i64 e.kd, .slice A1 e.zs.length c1, .int .i64 e.b, .slice A2 e.ops.length c2, .pointer none, .string ⟨#[]⟩] 61)).heap.size = wr.heap.size + 1 + 1 := by simp
        go_wp2_with (at_builtin; go_must (refine wpList_append_own _ rfl _ _ 56 rfl w.heap.size 58 p0 (.pointer none) 1 8 Try.underlying56 hp hp0 hp1 hp2 rfl (by decide) (.slice AN ns.length cN) ns.length (ptrs ns) rfl (World.ownsRow.alloc HC3.2.2.1 _) ⟨wr.heap.size + 1 + 1, 0, none⟩ 1 1 [.pointer (some ⟨wr.heap.size + 1, 0, none⟩)] rfl rfl (one_at _ _ _ _ zW.symm) (one_ptr _) (by unfold maxLen; omega) (by omega) (by rw [World.size_alloc]; omega) ?_); intro v' w5 hown hg _)
        have al := (Below.refl ((wr.alloc (.cells #[.int .i64 e.kd, .slice A1 e.zs.length c1, .int .i64 e.b, .slice A2 e.ops.length c2] 33)).alloc (.cells #[.int .i64 e.kd, .slice A1 e.zs.length c1, .int .i64 e.b, .slice A2 e.ops.length c2, .pointer none, .string ⟨#[]⟩] 61)).heap.size ((wr.alloc (.cells #[.int .i64 e.kd, .slice A1 e.zs.length c1, .int .i64 e.b, .slice A2 e.ops.length c2] 33)).alloc (.cells #[.int .i64 e.kd, .slice A1 e.zs.length c1, .int .i64 e.b, .slice A2 e.ops.length c2, .pointer none, .string ⟨#[]⟩] 61))).alloc (Nat.le_refl _) (.cells #[.pointer (some ⟨wr.heap.size + 1, 0, none⟩)] 58)
        have HC4 := HC3.below al (Nat.le_refl _)
        have hown3 := fun q (hq : (Value.slice AN ns.length cN).ownBlock = some q) => hch.own q hq
        have hb3 := hb.trans (b13.mono hz)
        have hnode5 : w5.heap[wr.heap.size + 1]? = some (.cells #[.int .i64 e.kd, .slice A1 e.zs.length c1, .int .i64 e.b, .slice A2 e.ops.length c2, .pointer none, .string ⟨#[]⟩] 61 (0, 0)) := by
          rw [hg.block _ (by rw [World.size_alloc]; omega) (fun e => by have := (hown3 _ e.symm).2; omega), al.block _ (by omega)]
          exact hn3
        have hb5 : Below w.heap.size w w5 := ((hb3.alloc hb3.size _).grown hg (by rw [World.size_alloc]; omega) (fun q hq => (hown3 q hq).1))
        have HC5 : Chain w5 w.heap.size v' (es.take k ++ [e]) (ns ++ [⟨wr.heap.size + 1, .int .i64 e.kd, .slice A1 e.zs.length c1, .slice A2 e.ops.length c2, ⟨#[]⟩⟩]) := by
          refine Chain.add (w := wr) hch hb0 (by rw [List.length_take]; omega) (fun i h2 => ?_) hown ?_ (by show _ ≤ wr.heap.size + 1; omega) (by show _ ≤ wr.heap.size + 1; omega)
          · have hil := hch.lt h2
            rw [hg.block _ (by rw [World.size_alloc]; omega) (hch.vne h2), al.block _ (by omega), b13.block _ (by omega)]
          · show w5.heap[wr.heap.size + 1]? = _
            rw [hnode5]
            unfold ndC
            rw [HPT.out]
        have HNR := (hnr.below (b13.mono hz) (Nat.le_refl _)).below (((Below.refl w.heap.size _).alloc (by omega) (.cells #[.pointer (some ⟨wr.heap.size + 1, 0, none⟩)] 58)).grown hg (by rw [World.size_alloc]; omega) (fun q hq => (hown3 q hq).1)) (Nat.le_refl _)
        have g45 := (g4.below (b13.mono hz) (Nat.le_refl _)).below (((Below.refl w.heap.size _).alloc (by omega) (.cells #[.pointer (some ⟨wr.heap.size + 1, 0, none⟩)] 58)).grown hg (by rw [World.size_alloc]; omega) (fun q hq => (hown3 q hq).1)) (Nat.le_refl _)
        have g55 := (g5.below (b13.mono hz) (Nat.le_refl _)).below (((Below.refl w.heap.size _).alloc (by omega) (.cells #[.pointer (some ⟨wr.heap.size + 1, 0, none⟩)] 58)).grown hg (by rw [World.size_alloc]; omega) (fun q hq => (hown3 q hq).1)) (Nat.le_refl _)
        have HTK : Hid (es.take (k + 1) = es.take k ++ [e]) := by show _ = _; rw [List.take_succ_eq_append_getElem hlt, HE.out]
        clear hown hg
        go_roundw
        case rel => exact ⟨k + 1, _, by go_num, by omega, by rw [HTK.out]; exact HC5, by rw [HTK.out]; exact HNR.snoc hch.1 rfl rfl rfl g45 g55, fun n hn => (by
          rcases List.mem_append.1 hn with hn | hn
          · exact HT.out n hn
          · rw [List.mem_singleton.1 hn]), hb5⟩
        case measure => simp [intOf]; omega
      · have hne : (e.b != -1) = true := by rw [bne_iff_ne]; exact hm1
        by_cases hlo : e.b < 0
        · have HF : Hid (basB es = false) := basB_no hlt (by rw [HE.out]; omega)
          clear hm1 hn2
          go_wp2_with fail
          go_ret2
          exact .inl ⟨HF.out, rfl, hb.trans (b12.mono hz)⟩
        · by_cases hhi : (k : Int) ≤ e.b
          · have HF : Hid (basB es = false) := basB_no hlt (by rw [HE.out]; omega)
            clear hm1 hn2
            go_wp2_with fail
            go_ret2
            exact .inl ⟨HF.out, rfl, hb.trans (b12.mono hz)⟩
          · have hb0 : -1 ≤ e.b := by omega
            have h00 : 0 ≤ e.b := by omega
            have hb9 : e.b < (k : Int) := by omega
            have hbk : e.b.toNat < ns.length := by omega
            have hbi : e.b < (ns.length : Int) := by omega
            obtain ⟨ad2, hA2, hb2', hc2⟩ := hrow.ptr_ hbk
            subst hA2
            have HPT0 := pTo_at h00 hbk
            obtain ⟨gb, hgb⟩ : ∃ gb, ns[e.b.toNat].g = gb := ⟨_, rfl⟩
            rw [hgb] at hc2 HPT0
            have HPT := hid HPT0
            have hc3 := (b12.cell (p := ad2.add e.b.toNat) (by rw [add_block]; exact hb2')).trans hc2
            have b13 := ((Below.refl wr.heap.size wr).alloc (Nat.le_refl _) (.cells #[.int .i64 e.kd, .slice A1 e.zs.length c1, .int .i64 e.b, .slice A2 e.ops.length c2] 33)).alloc (by simp) (.cells #[.int .i64 e.kd, .slice A1 e.zs.length c1, .int .i64 e.b, .slice A2 e.ops.length c2, .pointer (some ⟨gb, 0, none⟩), .string ⟨#[]⟩] 61)
            have hn3 : ((wr.alloc (.cells #[.int .i64 e.kd, .slice A1 e.zs.length c1, .int .i64 e.b, .slice A2 e.ops.length c2] 33)).alloc (.cells #[.int .i64 e.kd, .slice A1 e.zs.length c1, .int .i64 e.b, .slice A2 e.ops.length c2, .pointer (some ⟨gb, 0, none⟩), .string ⟨#[]⟩] 61)).heap[wr.heap.size + 1]? = some (.cells #[.int .i64 e.kd, .slice A1 e.zs.length c1, .int .i64 e.b, .slice A2 e.ops.length c2, .pointer (some ⟨gb, 0, none⟩), .string ⟨#[]⟩] 61 (0, 0)) := (two_new _ _ _).1
            have hnlA : ns.length ≤ k := by omega
            have hnlB : k ≤ ns.length := by omega
            clear hm1 hlo hhi hc2 HPT0 hgb b12 hn2 hnl
            have HC3 := hch.below b13 (Nat.le_refl _)
            have z13 := b13.size
            have zW : ((wr.alloc (.cells #[.int .i64 e.kd, .slice A1 e.zs.length c1, .int .i64 e.b, .slice A2 e.ops.length c2] 33)).alloc (.cells #[.int .i64 e.kd, .slice A1 e.zs.length c1, .int .i64 e.b, .slice A2 e.ops.length c2, .pointer (some ⟨gb, 0, none⟩), .string ⟨#[]⟩] 61)).heap.size = wr.heap.size + 1 + 1 := by simp
            go_wp2_with (at_builtin; go_must (refine wpList_append_own _ rfl _ _ 56 rfl w.heap.size 58 p0 (.pointer none) 1 8 Try.underlying56 hp hp0 hp1 hp2 rfl (by decide) (.slice (some ad2) ns.length cN) ns.length (ptrs ns) rfl (World.ownsRow.alloc HC3.2.2.1 _) ⟨wr.heap.size + 1 + 1, 0, none⟩ 1 1 [.pointer (some ⟨wr.heap.size + 1, 0, none⟩)] rfl rfl (one_at _ _ _ _ zW.symm) (one_ptr _) (by unfold maxLen; omega) (by omega) (by rw [World.size_alloc]; omega) ?_); intro v' w5 hown hg _)
            have al := (Below.refl ((wr.alloc (.cells #[.int .i64 e.kd, .slice A1 e.zs.length c1, .int .i64 e.b, .slice A2 e.ops.length c2] 33)).alloc (.cells #[.int .i64 e.kd, .slice A1 e.zs.length c1, .int .i64 e.b, .slice A2 e.ops.length c2, .pointer (some ⟨gb, 0, none⟩), .string ⟨#[]⟩] 61)).heap.size ((wr.alloc (.cells #[.int .i64 e.kd, .slice A1 e.zs.length c1, .int .i64 e.b, .slice A2 e.ops.length c2] 33)).alloc (.cells #[.int .i64 e.kd, .slice A1 e.zs.length c1, .int .i64 e.b, .slice A2 e.ops.length c2, .pointer (some ⟨gb, 0, none⟩), .string ⟨#[]⟩] 61))).alloc (Nat.le_refl _) (.cells #[.pointer (some ⟨wr.heap.size + 1, 0, none⟩)] 58)
            have HC4 := HC3.below al (Nat.le_refl _)
            have hown3 := fun q (hq : (Value.slice (some ad2) ns.length cN).ownBlock = some q) => hch.own q hq
            have hb3 := hb.trans (b13.mono hz)
            have hnode5 : w5.heap[wr.heap.size + 1]? = some (.cells #[.int .i64 e.kd, .slice A1 e.zs.length c1, .int .i64 e.b, .slice A2 e.ops.length c2, .pointer (some ⟨gb, 0, none⟩), .string ⟨#[]⟩] 61 (0, 0)) := by
              rw [hg.block _ (by rw [World.size_alloc]; omega) (fun e => by have := (hown3 _ e.symm).2; omega), al.block _ (by omega)]
              exact hn3
            have hb5 : Below w.heap.size w w5 := ((hb3.alloc hb3.size _).grown hg (by rw [World.size_alloc]; omega) (fun q hq => (hown3 q hq).1))
            have HC5 : Chain w5 w.heap.size v' (es.take k ++ [e]) (ns ++ [⟨wr.heap.size + 1, .int .i64 e.kd, .slice A1 e.zs.length c1, .slice A2 e.ops.length c2, ⟨#[]⟩⟩]) := by
              refine Chain.add (w := wr) hch hb0 (by rw [List.length_take]; omega) (fun i h2 => ?_) hown ?_ (by show _ ≤ wr.heap.size + 1; omega) (by show _ ≤ wr.heap.size + 1; omega)
              · have hil := hch.lt h2
                rw [hg.block _ (by rw [World.size_alloc]; omega) (hch.vne h2), al.block _ (by omega), b13.block _ (by omega)]
              · show w5.heap[wr.heap.size + 1]? = _
                rw [hnode5]
                unfold ndC
                rw [HPT.out]
            have HNR := (hnr.below (b13.mono hz) (Nat.le_refl _)).below (((Below.refl w.heap.size _).alloc (by omega) (.cells #[.pointer (some ⟨wr.heap.size + 1, 0, none⟩)] 58)).grown hg (by rw [World.size_alloc]; omega) (fun q hq => (hown3 q hq).1)) (Nat.le_refl _)
            have g45 := (g4.below (b13.mono hz) (Nat.le_refl _)).below (((Below.refl w.heap.size _).alloc (by omega) (.cells #[.pointer (some ⟨wr.heap.size + 1, 0, none⟩)] 58)).grown hg (by rw [World.size_alloc]; omega) (fun q hq => (hown3 q hq).1)) (Nat.le_refl _)
            have g55 := (g5.below (b13.mono hz) (Nat.le_refl _)).below (((Below.refl w.heap.size _).alloc (by omega) (.cells #[.pointer (some ⟨wr.heap.size + 1, 0, none⟩)] 58)).grown hg (by rw [World.size_alloc]; omega) (fun q hq => (hown3 q hq).1)) (Nat.le_refl _)
            have HTK : Hid (es.take (k + 1) = es.take k ++ [e]) := by show _ = _; rw [List.take_succ_eq_append_getElem hlt, HE.out]
            clear hown hg
            go_roundw
            case rel => exact ⟨k + 1, _, by go_num, by omega, by rw [HTK.out]; exact HC5, by rw [HTK.out]; exact HNR.snoc hch.1 rfl rfl rfl g45 g55, fun n hn => (by
              rcases List.mem_append.1 hn with hn | hn
              · exact HT.out n hn
              · rw [List.mem_singleton.1 hn]), hb5⟩
            case measure => simp [intOf]; omega
    · have hk' : k = es.length := by omega
      subst hk'
      rw [List.take_length] at hch hnr
      have HB : Hid (basB es = true) := basB_iff.2 hch.2.1
      go_wp2
      go_ret2
      exact .inr ⟨HB.out, _, ns, rfl, hch, hnr, HT.out, hb⟩
end Go.Proofs.Ytkekbobnbipmoaa
