/-
  Walks: the linked list of operations.
-/
import Derived.Test.YtkekbobnbipmoaaLongest
import Derived.Deep.LoopGhost
namespace Go.Proofs.Ytkekbobnbipmoaa
open Go.RowKit Wo Pu

def ptr (o : Option Nat) : Value := .pointer (o.map fun g => ⟨g, 0, none⟩)
/-- Block x is a node with the operation o; nx comes next. -/
def Node (w : World) (x : Nat) (o : Op2) (nx : Option Nat) : Prop := w.heap[x]? = some (.cells #[.int .i64 o.a, .int .i64 o.n, .string o.t, ptr nx] 127 (0, 0))
theorem heap_lt {w : World} {x : Nat} {o : Obj} (h : w.heap[x]? = some o) : x < w.heap.size := by
  rcases Nat.lt_or_ge x w.heap.size with h1 | h1
  · exact h1
  · rw [Array.getElem?_eq_none h1] at h; cases h
/-- Block g is the list of the operations os; its nodes are the blocks gs. -/
structure LL (w : World) (B g : Nat) (os : List Op2) (gs : List Nat) : Prop where
  len : gs.length = os.length
  hd : w.heap[g]? = some (.cells #[ptr gs.head?, ptr gs.getLast?] 111 (0, 0))
  node : ∀ i (h : i < gs.length) (h' : i < os.length), Node w gs[i] os[i] gs[i + 1]?
  up : ∀ i j (hij : i < j) (hj : j < gs.length), gs[i] < gs[j]
  base : B ≤ g
  low : ∀ x ∈ gs, B ≤ x
theorem LL.lt {w : World} {B g : Nat} {os : List Op2} {gs : List Nat} (h : LL w B g os gs) : g < w.heap.size ∧ ∀ x ∈ gs, x < w.heap.size ∧ x ≠ g := by
  refine ⟨heap_lt h.hd, fun x hx => ?_⟩
  obtain ⟨i, hi, rfl⟩ := List.mem_iff_getElem.1 hx
  have hn := h.node i hi (by rw [← h.len]; exact hi)
  refine ⟨heap_lt hn, fun e => ?_⟩
  have h2 := h.hd
  rw [← e, hn] at h2
  injection h2 with h2
  injection h2 with _ h2
  exact absurd h2 (by decide)
theorem LL.below {w w' : World} {B g C : Nat} {os : List Op2} {gs : List Nat} (h : LL w B g os gs) (hb : Below C w w') (hC : w.heap.size ≤ C) : LL w' B g os gs := by
  obtain ⟨l1, l2⟩ := h.lt
  refine ⟨h.len, by rw [hb.block g (by omega)]; exact h.hd, fun i hi hi' => ?_, h.up, h.base, h.low⟩
  have := (l2 _ (List.getElem_mem hi)).1
  unfold Node
  rw [hb.block _ (by omega)]
  exact h.node i hi hi'
theorem LL.nil_ {w : World} {B g : Nat} (h : w.heap[g]? = some (.cells #[ptr none, ptr none] 111 (0, 0))) (hB : B ≤ g) : LL w B g [] [] :=
  ⟨rfl, h, fun i hi => absurd hi (by simp), fun i j _ hj => absurd hj (by simp), hB, fun x hx => (by cases hx)⟩
/-- One node more. -/
theorem LL.push {w w2 : World} {B g y : Nat} {os : List Op2} {gs : List Nat} {o : Op2} (h : LL w B g os gs)
    (hold : ∀ z, z < w.heap.size → z ≠ g → some z ≠ gs.getLast? → w2.heap[z]? = w.heap[z]?)
    (hlast : ∀ x p, gs.getLast? = some x → Node w x p none → Node w2 x p (some y)) (hy : Node w2 y o none)
    (hhd : w2.heap[g]? = some (.cells #[ptr (gs ++ [y]).head?, ptr (some y)] 111 (0, 0))) (hyB : w.heap.size ≤ y) : LL w2 B g (os ++ [o]) (gs ++ [y]) := by
  obtain ⟨l1, l2⟩ := h.lt
  have hlen := h.len
  refine ⟨by simp [hlen], by rw [hhd]; simp, fun i hi hi' => ?_, fun i j hij hj => ?_, h.base, fun x hx => ?_⟩
  · rw [List.length_append, List.length_singleton] at hi hi'
    by_cases e : i < gs.length
    · have hn := h.node i e (by omega)
      rw [List.getElem_append_left e, List.getElem_append_left (by omega)]
      by_cases e1 : i + 1 < gs.length
      · rw [List.getElem?_append_left e1]
        have hm := l2 _ (List.getElem_mem e)
        unfold Node
        rw [hold _ hm.1 hm.2 (fun he => ?_)]
        · exact hn
        · rw [List.getLast?_eq_getElem?, List.getElem?_eq_getElem (by omega)] at he
          injection he with he
          have := h.up i (gs.length - 1) (by omega) (by omega)
          omega
      · have ei : i = gs.length - 1 := by omega
        have hl : gs.getLast? = some gs[i] := by rw [List.getLast?_eq_getElem?, ← ei, List.getElem?_eq_getElem e]
        rw [List.getElem?_append_right (by omega), show i + 1 - gs.length = 0 from by omega]
        rw [List.getElem?_eq_none (by omega)] at hn
        exact hlast _ _ hl hn
    · have ei : i = gs.length := by omega
      subst ei
      rw [List.getElem_append_right (Nat.le_refl _), List.getElem_append_right (by omega), List.getElem?_eq_none (by simp)]
      simpa using hy
  · rw [List.length_append, List.length_singleton] at hj
    rw [List.getElem_append_left (by omega)]
    by_cases e : j < gs.length
    · rw [List.getElem_append_left e]; exact h.up i j hij e
    · rw [List.getElem_append_right (by omega)]
      simp only [List.getElem_singleton]
      have := (l2 _ (List.getElem_mem (show i < gs.length by omega))).1
      omega
  · rcases List.mem_append.1 hx with hx | hx
    · exact h.low x hx
    · rw [List.mem_singleton.1 hx]
      have := h.base
      omega
/-- The last node has another text. -/
theorem LL.text {w w2 : World} {B g x : Nat} {os : List Op2} {hs : List Nat} {o p : Op2} (h : LL w B g (os ++ [o]) (hs ++ [x]))
    (hold : ∀ z, z ≠ x → w2.heap[z]? = w.heap[z]?) (hx : Node w2 x p none) : LL w2 B g (os ++ [p]) (hs ++ [x]) := by
  have hlen := h.len
  simp only [List.length_append, List.length_singleton] at hlen
  have hxm := (h.lt).2 x (by simp)
  refine ⟨by simp; omega, by rw [hold _ (Ne.symm hxm.2)]; exact h.hd, fun i hi hi' => ?_, h.up, h.base, h.low⟩
  have hn := h.node i hi (by simpa using hi')
  rw [List.length_append, List.length_singleton] at hi hi'
  by_cases e : i < hs.length
  · have hne : (hs ++ [x])[i]'(by simp; omega) ≠ x := by
      have hu := h.up i hs.length e (by simp)
      have e2 : (hs ++ [x])[hs.length]'(by simp) = x := by simp
      omega
    unfold Node
    rw [hold _ hne]
    rw [List.getElem_append_left (by omega)] at hn ⊢
    rw [List.getElem_append_left (by omega)]
    rw [List.getElem_append_left (by omega)] at hn
    exact hn
  · have ei : i = hs.length := by omega
    subst ei
    rw [List.getElem_append_right (by omega), List.getElem_append_right (by omega), List.getElem?_eq_none (by simp)]
    simpa using hx
theorem LL.last {w : World} {B g : Nat} {os : List Op2} {o : Op2} {gs : List Nat} (h : LL w B g (os ++ [o]) gs) : ∃ hs x, gs = hs ++ [x] ∧ Node w x o none := by
  have hlen := h.len
  rw [List.length_append, List.length_singleton] at hlen
  rcases List.eq_nil_or_concat gs with rfl | ⟨hs, x, rfl⟩
  · simp at hlen
  · rw [List.concat_eq_append] at *
    have hl : hs.length = os.length := by simpa using hlen
    refine ⟨hs, x, rfl, ?_⟩
    have := h.node hs.length (by simp) (by simp; omega)
    rw [List.getElem_append_right (Nat.le_refl _), List.getElem_append_right (by omega), List.getElem?_eq_none (by simp)] at this
    simpa using this
theorem Node.reads {w : World} {x : Nat} {o : Op2} {nx : Option Nat} (h : Node w x o nx) : w.cell? ⟨x, 0, none⟩ = some (.int .i64 o.a) ∧ w.cell? ⟨x, 1, none⟩ = some (.int .i64 o.n) ∧ w.cell? ⟨x, 2, none⟩ = some (.string o.t) ∧ w.cell? ⟨x, 3, none⟩ = some (ptr nx) ∧ ∀ j, w.frozen? ⟨x, j, none⟩ = false := by
  unfold Node at h
  exact ⟨by simp [World.cell?, h], by simp [World.cell?, h], by simp [World.cell?, h], by simp [World.cell?, h], fun j => by simp [World.frozen?, h]⟩
theorem LL.reads {w : World} {B g : Nat} {os : List Op2} {gs : List Nat} (h : LL w B g os gs) : w.cell? ⟨g, 0, none⟩ = some (ptr gs.head?) ∧ w.cell? ⟨g, 1, none⟩ = some (ptr gs.getLast?) ∧ ∀ j, w.frozen? ⟨g, j, none⟩ = false := by
  have := h.hd
  exact ⟨by simp [World.cell?, this], by simp [World.cell?, this], fun j => by simp [World.frozen?, this]⟩

/-- Behind it: the list with the operations os. -/
def Listed (B g : Nat) (os : List Op2) (w : World) (e : Ending) (w' : World) : Prop := e = .returned (.tuple #[]) ∧ (∃ gs, LL w' B g os gs) ∧ Below B w w'

theorem set_heap {w : World} {g : Nat} {cs : Array Value} {t : TypeId} (h : w.heap[g]? = some (.cells cs t (0, 0))) (j : Nat) (u : Value) : (w.setCell ⟨g, j, none⟩ u).heap[g]? = some (.cells (cs.setIfInBounds j u) t (0, 0)) := by
  simp [World.setCell, Array.getElem?_modify, h]
theorem set_far (w : World) {g z : Nat} (h : z ≠ g) (j : Nat) (u : Value) : (w.setCell ⟨g, j, none⟩ u).heap[z]? = w.heap[z]? := Below.heap_setCell w ⟨g, j, none⟩ u z h
theorem two_new (w : World) (o1 o2 : Obj) : ((w.alloc o1).alloc o2).heap[w.heap.size + 1]? = some o2 ∧ ∀ z, z < w.heap.size → ((w.alloc o1).alloc o2).heap[z]? = w.heap[z]? := by
  have e : (w.alloc o1).heap.size = w.heap.size + 1 := by simp
  refine ⟨by rw [← e]; exact heap_alloc_new _ _, fun z hz => ?_⟩
  rw [Below.heap_alloc _ _ z (by omega), Below.heap_alloc _ _ z hz]
theorem set_size (w : World) (p : Addr) (u : Value) : (w.setCell p u).heap.size = w.heap.size := by simp [World.setCell]

set_option maxHeartbeats 2000000 in
theorem add_any (B g : Nat) (os : List Op2) (gs : List Nat) (o : Op2) (w : World) (h : LL w B g os gs) :
    Calls Try.prog 90 #[.pointer (some ⟨g, 0, none⟩), opA o] w (Listed B g (os ++ [o]) w) := by
  unfold opA
  have hlt := h.lt
  obtain ⟨r0, r1, rf⟩ := h.reads
  have rf0 := rf 0
  have rf1 := rf 1
  unfold ptr at r0 r1
  clear rf
  rcases snoc_cases os with rfl | ⟨ps, p, rfl⟩
  · have hg0 : gs = [] := List.eq_nil_of_length_eq_zero h.len
    subst hg0
    simp only [List.head?_nil, List.getLast?_nil, Option.map_none] at r0 r1
    go_enter Try.func90, Try.ntmps90
    go_wp2
    go_end0
    refine ⟨rfl, ⟨_, LL.push (y := w.heap.size + 1) h (fun z hz hzg _ => ?_) (fun x p hx => (by cases hx)) ?_ ?_ (by omega)⟩, ?_⟩
    · rw [(two_new _ _ _).2 z (by simpa using hz), set_far _ hzg, set_far _ hzg]
    · have := (two_new ((w.setCell ⟨g, 0, none⟩ (.pointer (some ⟨w.heap.size + 1, 0, none⟩))).setCell ⟨g, 1, none⟩ (.pointer (some ⟨w.heap.size + 1, 0, none⟩))) (.cells #[.int .i64 o.a, .int .i64 o.n, .string o.t] 99) (.cells #[.int .i64 o.a, .int .i64 o.n, .string o.t, .pointer none] 127)).1
      rw [set_size, set_size] at this
      exact this
    · rw [(two_new _ _ _).2 g (by simp; exact hlt.1), set_heap (set_heap h.hd 0 _) 1 _]
      rfl
    · exact ((((Below.refl B w).setCell h.base _).setCell h.base _).alloc (by simp; have := h.base; omega) _).alloc (by simp; have := h.base; omega) _
  · obtain ⟨hs, x, rfl, hn⟩ := h.last
    have hx := hlt.2 x (by simp)
    obtain ⟨_, _, _, n3, nf⟩ := hn.reads
    have nf3 := nf 3
    unfold ptr at n3
    clear nf
    simp only [List.getLast?_append, List.getLast?_singleton, Option.some_or, Option.map_some, Option.map_none] at r1 n3
    go_enter Try.func90, Try.ntmps90
    go_wp2
    go_end0
    refine ⟨rfl, ⟨_, LL.push (y := w.heap.size + 1) h (fun z hz hzg hzl => ?_) (fun x' p' hx' hp' => ?_) ?_ ?_ (by omega)⟩, ?_⟩
    · have hzx : z ≠ x := fun e => hzl (by rw [e]; simp)
      rw [(two_new _ _ _).2 z (by simpa using hz), set_far _ hzg, set_far _ hzx]
    · have ex : x' = x := by simpa using hx'.symm
      subst ex
      unfold Node at hp' ⊢
      rw [(two_new _ _ _).2 x' (by simp; exact hx.1), set_far _ hx.2, set_heap hp' 3 _]
      rfl
    · have := (two_new ((w.setCell ⟨x, 3, none⟩ (.pointer (some ⟨w.heap.size + 1, 0, none⟩))).setCell ⟨g, 1, none⟩ (.pointer (some ⟨w.heap.size + 1, 0, none⟩))) (.cells #[.int .i64 o.a, .int .i64 o.n, .string o.t] 99) (.cells #[.int .i64 o.a, .int .i64 o.n, .string o.t, .pointer none] 127)).1
      rw [set_size, set_size] at this
      exact this
    · rw [(two_new _ _ _).2 g (by simp; exact hlt.1), set_heap ((set_far w (Ne.symm hx.2) 3 _).trans h.hd) 1 _]
      simp [ptr]
    · have hxB := h.low x (by simp)
      exact ((((Below.refl B w).setCell hxB _).setCell h.base _).alloc (by simp; have := h.base; omega) _).alloc (by simp; have := h.base; omega) _

theorem conv_u8 (w : World) (b : UInt8) : (convert 22 9 (.slice (some ⟨w.heap.size, 0, none⟩) 1 1)).run Try.prog (w.alloc (.cells #[.int .u8 (b.toNat : Int)] 5)) = .ok (.string ⟨#[b]⟩) (w.alloc (.cells #[.int .u8 (b.toNat : Int)] 5)) := by
  refine run_convert_bytes_back (P := Try.prog) (w.alloc (.cells #[.int .u8 (b.toNat : Int)] 5)) 22 9 5 ⟨w.heap.size, 0, none⟩ 1 [b] Try.underlying22 Try.underlying5 Try.underlying9 ?_
  intro j hj
  simp only [List.length_cons, List.length_nil] at hj
  obtain rfl : j = 0 := by omega
  simp only [List.getElem_cons_zero, add_zero]
  simp [go_sem]

theorem inserts_no (o : Op2) (w : World) (e0 : (o.n == 0) = false) :
    Calls Try.prog 102 #[.agg #[.int .i64 o.a, .int .i64 o.n, .string o.t]] w fun e w' => e = .returned (.bool false) ∧ w' = w.alloc (.cells #[.int .i64 o.a, .int .i64 o.n, .string o.t] 99) := by
  go_enter Try.func102, Try.ntmps102
  go_wp2
  go_ret
  exact ⟨rfl, rfl⟩

set_option maxHeartbeats 4000000 in
theorem insertByte_any (B g : Nat) (os : List Op2) (gs : List Nat) (b : UInt8) (w : World) (h : LL w B g os gs) (ht : ∀ o ∈ os, o.t.size ≤ 8) :
    Calls Try.prog 91 #[.pointer (some ⟨g, 0, none⟩), .int .u8 (b.toNat : Int)] w (Listed B g (addB os b) w) := by
  have hcv := conv_u8 w b
  have al := (Below.refl w.heap.size w).alloc (Nat.le_refl _) (.cells #[.int .u8 (b.toNat : Int)] 5)
  have h1 := h.below al (Nat.le_refl _)
  have hgl := h.lt.1
  have hbB := h1.base
  have b1 : Below B w (w.alloc (.cells #[.int .u8 (b.toNat : Int)] 5)) := al.mono (by have := h.base; have := h.lt.1; omega)
  clear al
  rcases snoc_cases os with rfl | ⟨ps, o, rfl⟩
  · have hg0 : gs = [] := List.eq_nil_of_length_eq_zero h.len
    subst hg0
    obtain ⟨r0, r1, rf⟩ := h.reads
    unfold ptr at r0 r1
    simp only [List.head?_nil, List.getLast?_nil, Option.map_none] at r0 r1
    clear rf
    go_enter Try.func91, Try.ntmps91
    go_wp2_with fail
    refine (add_any B g [] [] ⟨0, 0, ⟨#[b]⟩⟩ _ h1).mono ?_
    rintro e w2 ⟨rfl, hl2, b2⟩
    go_wp2
    go_end0
    exact ⟨rfl, hl2, b1.trans b2⟩
  · obtain ⟨hs, x, rfl, hn⟩ := h.last
    obtain ⟨r0, r1, rf⟩ := h.reads
    obtain ⟨hxl, hxg⟩ := h.lt.2 x (by simp)
    have hxB := h.low x (by simp)
    obtain ⟨n0, n1, n2, n3, nf⟩ := hn.reads
    have nf2 := nf 2
    have hto := ht o (by simp)
    unfold ptr at r1
    clear rf nf n3
    simp only [List.getLast?_append, List.getLast?_singleton, Option.some_or, Option.map_some] at r1
    by_cases h0 : o.n = 0
    · have e0 : (o.n == 0) = true := by rw [h0]; rfl
      have HA := hid (addB_ins (os := ps) b h0)
      clear h0
      go_enter Try.func91, Try.ntmps91
      go_wp2
      go_end0
      rw [HA.out]
      have hT : LL (w.setCell ⟨x, 2, none⟩ (.string (o.t ++ ⟨#[b]⟩))) B g (ps ++ [⟨o.a, o.n, o.t ++ ⟨#[b]⟩⟩]) (hs ++ [x]) := h.text (fun z hz => set_far _ hz _ _) (by
        unfold Node at hn ⊢
        rw [set_heap hn 2 _]
        rfl)
      have zz := set_size w ⟨x, 2, none⟩ (.string (o.t ++ ⟨#[b]⟩))
      have hb3 := (Below.refl B w).setCell (p := ⟨x, 2, none⟩) hxB (.string (o.t ++ ⟨#[b]⟩))
      generalize w.setCell ⟨x, 2, none⟩ (.string (o.t ++ ⟨#[b]⟩)) = w3 at *
      have al := ((Below.refl w3.heap.size w3).alloc (Nat.le_refl _) (.cells #[.int .u8 (b.toNat : Int)] 5)).alloc (by simp) (.cells #[.int .i64 o.a, .int .i64 o.n, .string o.t] 99)
      exact ⟨rfl, ⟨_, hT.below al (Nat.le_refl _)⟩, hb3.trans (al.mono (by omega))⟩
    · have e0 : (o.n == 0) = false := by rw [beq_eq_false_iff_ne]; exact h0
      have HA := hid (addB_cop (os := ps) b h0)
      clear h0
      go_enter Try.func91, Try.ntmps91
      go_wp2_with fail
      refine (inserts_no o _ e0).mono ?_
      rintro e wi ⟨rfl, rfl⟩
      go_wp2_with fail
      have al2 := (Below.refl (w.alloc (.cells #[.int .u8 (b.toNat : Int)] 5)).heap.size (w.alloc (.cells #[.int .u8 (b.toNat : Int)] 5))).alloc (Nat.le_refl _) (.cells #[.int .i64 o.a, .int .i64 o.n, .string o.t] 99)
      refine (add_any B g _ _ ⟨0, 0, ⟨#[b]⟩⟩ _ (h1.below al2 (Nat.le_refl _))).mono ?_
      rintro e w2 ⟨rfl, hl2, b2⟩
      have b3 := b1.trans ((al2.mono (by simp; omega)).trans b2)
      clear al2 b2
      go_wp2
      go_end0
      rw [HA.out]
      exact ⟨rfl, hl2, b3⟩

theorem gs_at {w : World} {B g : Nat} {os : List Op2} {gs : List Nat} (h : LL w B g os gs) {k : Nat} (hk : k < os.length) : ∃ x, gs[k]? = some x ∧ Node w x os[k] gs[k + 1]? ∧ x < w.heap.size := by
  have hk' : k < gs.length := by rw [h.len]; exact hk
  exact ⟨_, List.getElem?_eq_getElem hk', h.node k hk' hk, (h.lt.2 _ (List.getElem_mem hk')).1⟩

set_option maxHeartbeats 4000000 in
theorem ops_any (B g : Nat) (os : List Op2) (gs : List Nat) (w : World) (h : LL w B g os gs) (hn : os.length ≤ 1000) :
    Calls Try.prog 92 #[.pointer (some ⟨g, 0, none⟩)] w (NewOps os w) := by
  obtain ⟨i0, hi, hz0, hz1, hz2⟩ := info_of info_op
  obtain ⟨r0, r1, rf⟩ := h.reads
  have hgl := h.lt.1
  have hhd : gs.head? = gs[0]? := List.head?_eq_getElem?
  unfold ptr at r0 r1
  rw [hhd] at r0
  clear rf r1 hhd
  go_enter Try.func92, Try.ntmps92
  go_wp2_with fail
  go_loopg [3, 4] os.length (fun gk v p wr => ∃ (k : Nat) (q : Option Nat), k + gk = os.length ∧ p = .pointer (q.map fun g => ⟨g, 0, none⟩) ∧ Hid (q = gs[k]?) ∧ OwnOps wr w.heap.size v (os.take k) ∧ Below w.heap.size w wr)
  case atStart => exact ⟨0, _, Nat.zero_add _, rfl, rfl, OwnOps.nil_new (Nat.le_refl _), (Below.refl _ _).alloc (Nat.le_refl _) _⟩
  case round =>
    obtain ⟨k, q, hk, rfl, HQ, hv, hb⟩ := hrel
    by_cases hlt : k < os.length
    · obtain ⟨x, hx, hnode, hxl⟩ := gs_at h hlt
      obtain rfl : q = some x := by rw [HQ.out, hx]
      have hlk : (os.take k).length = k := by rw [List.length_take]; omega
      have hpush := hid (List.take_succ_eq_append_getElem hlt)
      generalize hoo : os[k] = o at *
      have HO := hid hoo
      obtain ⟨n0, n1, n2, n3, _⟩ := hnode.reads
      unfold ptr at n3
      have c0 := (hb.cell (p := ⟨x, 0, none⟩) hxl).trans n0
      have c1 := (hb.cell (p := ⟨x, 1, none⟩) hxl).trans n1
      have c2 := (hb.cell (p := ⟨x, 2, none⟩) hxl).trans n2
      clear n0 n1 n2 hoo HQ hx
      have hz := hb.size
      unfold OwnOps at hv
      have HL := hid hlk
      rw [hlk] at hv
      clear hlk
      simp only [Option.map_some]
      go_wp2_with (at_builtin; go_must (refine wpList_append_own _ rfl _ _ 31 rfl w.heap.size 99 i0 (.agg #[.int .i64 0, .int .i64 0, .string ⟨#[]⟩]) 3 32 Try.underlying31 hi hz0 hz1 hz2 rfl (by decide) _ k (opsV (os.take k)) rfl (World.ownsRow.alloc hv _) ⟨_, 0, none⟩ 1 1 [.int .i64 o.a, .int .i64 o.n, .string o.t] rfl rfl (new_three _ _ _ _ _) (opV_cells o) (by unfold maxLen; omega) (by omega) (by simp; omega) ?_); intro v' w5 hown hg _; have lt1 := World.ownsRow.lt hv; have b5 : Below w.heap.size w w5 := (hb.alloc hz (.cells #[.int .i64 o.a, .int .i64 o.n, .string o.t] 99)).grown hg (by simp; omega) (fun j hj => (lt1 j hj).1); have d3 := (b5.cell (p := ⟨x, 3, none⟩) hxl).trans n3)
      have hv5 : OwnOps w5 w.heap.size v' (os.take (k + 1)) := by
        unfold OwnOps
        rw [hpush.out, List.length_append, HL.out, opsV_append, opsV_one]
        exact hown
      clear hown hg lt1 hv
      go_wp2
      go_roundg (gk - 1)
      case measure => omega
      case rel => exact ⟨k + 1, gs[k + 1]?, by omega, rfl, rfl, hv5, b5⟩
    · have hk' : k = os.length := by omega
      subst hk'
      obtain rfl : q = none := by rw [HQ.out]; exact List.getElem?_eq_none (by rw [h.len]; exact Nat.le_refl _)
      rw [List.take_length] at hv
      obtain ⟨A, c, rfl, _, _⟩ := hv.form
      simp only [Option.map_none]
      go_wp2
      go_ret
      exact .mk_ hv hb
end Go.Proofs.Ytkekbobnbipmoaa
