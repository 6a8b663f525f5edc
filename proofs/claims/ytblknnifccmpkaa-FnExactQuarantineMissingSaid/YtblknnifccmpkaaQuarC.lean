/-
  Walks: copies of quarantines, areas set and removed, by the model.
-/
import Derived.Test.YtblknnifccmpkaaG7C
import Derived.Deep.RegionHeld3
namespace Go.Proofs.Ytblknnifccmpkaa
open Go.RowKit Wo Pu Qu

/-- An append as one operation of a region. -/
theorem op_append_row {P : Program} (w : World) {o : Oper} {a : Act} {K : Act → World → Prop} {Q : Exit → Act → World → Prop} (hgd : o.guard = none) (s x : Operand) (t : TypeId)
    (ho : o.op = .call { callee := .builtin .append, args := #[s, x], argTypes := #[t, t] })
    (base : Nat) (e : TypeId) (i : TypeInfo) (z : Value) (size bytes : Nat) (ht : P.underlying t = some (.slice e)) (hi : P.info? e = some i) (hz : i.zero = some z)
    (hsize : i.size = size) (hby : i.bytes = bytes) (hzs : z.cells.size = size) (hsz : 0 < size)
    (v : Value) (n : Nat) (xs : List Value) (hs : a.eval s = v) (hown : w.ownsRow base e size v n xs)
    (B : Nat) (A : Option Addr) (m c : Nat) (news : List Value) (hx : a.eval x = .slice A m c) (hr : Row w B A news) (hl : news.length = m * size) (h1 : ∀ u ∈ news, u.oneCell' = true)
    (h63 : n + m ≤ maxLen) (hbytes : (n + m) * bytes ≤ 140737488355328) (hbase : base ≤ w.heap.size)
    (h : ∀ v' w', w'.ownsRow base e size v' (n + m) (xs ++ news) → w.grownBy w' v.ownBlock → K (a.put o.dst v') w') : Oper.wp P o a w K Q := by
  have hw : Region.wanted o (yielded #[] a.tmps) = true := by simp [Region.wanted, hgd]
  have := step_append_row (ops := #[]) (E := False) (Q := Q) w hgd s x t ho base e i z size bytes ht hi hz hsize hby hzs hsz v n xs hs hown B A m c news hx hr hl h1 h63 hbytes hbase h
  rwa [if_pos hw] at this
theorem row_two (w : World) (v0 v1 : Value) (t : TypeId) : Row (w.alloc (.cells #[v0, v1] t)) (w.alloc (.cells #[v0, v1] t)).heap.size (some ⟨w.heap.size, 0, none⟩) [v0, v1] := .inr ⟨_, rfl, by simp, new_two w v0 v1 t⟩
/-- What the loops over areas have laid: the box at b, the result at r, the copy at g with the areas out. -/
def CpE (w : World) (b r : Nat) (A : Option Addr) (n c : Nat) (A2 : Option Addr) (n2 c2 : Nat) (g : Nat) (m : List Ob) (Am : Option Addr) (cm : Nat) (Aa : Option Addr) (ca : Nat) (out : List Ar) (wr : World) : Prop :=
  BlkQ wr b 26 (.slice A n c) (.slice A2 n2 c2) ∧ BlkQ wr r 26 (.slice none 0 0) (.slice none 0 0) ∧ BlkQ wr g 26 (.slice Am m.length cm) (.slice Aa out.length ca) ∧ (w.heap.size ≤ r ∧ b ≠ g ∧ r ≠ g ∧ w.heap.size ≤ g) ∧
    OwnObs wr w.heap.size (.slice Am m.length cm) m ∧ OwnArs wr w.heap.size (.slice Aa out.length ca) out ∧ Below w.heap.size w wr
def CpSt (w : World) (b r : Nat) (A : Option Addr) (n c : Nat) (A2 : Option Addr) (n2 c2 : Nat) (g : Nat) (m : List Ob) (out : List Ar) (wr : World) : Prop := ∃ Am cm Aa ca, CpE w b r A n c A2 n2 c2 g m Am cm Aa ca out wr
section
variable {w wr w5 w7 : World} {b r : Nat} {A A2 Am Aa A5 : Option Addr} {n c n2 c2 g cm ca c5 : Nat} {m : List Ob} {out : List Ar}
theorem CpE.call (h : CpE w b r A n c A2 n2 c2 g m Am cm Aa ca out wr) (hb : Below wr.heap.size wr w5) : CpE w b r A n c A2 n2 c2 g m Am cm Aa ca out w5 := by
  obtain ⟨h1, h2, h3, h4, h5, h6, h7⟩ := h
  exact ⟨h1.later hb, h2.later hb, h3.later hb, h4, h5.below hb, h6.below hb, h7.trans (hb.mono h7.size)⟩
theorem CpE.drew (h : CpE w b r A n c A2 n2 c2 g m Am cm Aa ca out wr) : CpE w b r A n c A2 n2 c2 g m Am cm Aa ca out wr.drew := h.call (Below.refl _ _).drew
theorem CpE.reads (h : CpE w b r A n c A2 n2 c2 g m Am cm Aa ca out wr) : wr.cell? ⟨b, 0, none⟩ = some (.slice A n c) ∧ wr.cell? ⟨b, 1, none⟩ = some (.slice A2 n2 c2) ∧ wr.cell? ⟨g, 0, none⟩ = some (.slice Am m.length cm) ∧ wr.cell? ⟨g, 1, none⟩ = some (.slice Aa out.length ca) ∧ wr.frozen? ⟨g, 1, none⟩ = false ∧ w.heap.size ≤ wr.heap.size := by
  obtain ⟨h1, h2, h3, h4, h5, h6, h7⟩ := h
  exact ⟨h1.reads.1, h1.reads.2.1, h3.reads.1, h3.reads.2.1, h3.reads.2.2 1, h7.size⟩
theorem CpE.put {a : Ar} {v' : Value} {ys : List Value} (h : CpE w b r A n c A2 n2 c2 g m Am cm Aa ca out w5) (hrow : w5.ownsRow w.heap.size 84 2 (.slice Aa out.length ca) out.length ys) (har : ∀ j (hj : j < out.length), ArIs w5 w.heap.size ys j out[j])
    (o5 : OwnObs w5 w.heap.size (.slice A5 a.os.length c5) a.os) (hc5 : a.os.length ≤ c5)
    (hown : w7.ownsRow w.heap.size 84 2 v' (out.length + 1) (ys ++ [.int .i64 a.t, .slice A5 a.os.length c5])) (hg : (w5.alloc (.cells #[.int .i64 a.t, .slice A5 a.os.length c5] 84)).grownBy w7 (Value.slice Aa out.length ca).ownBlock) :
    ∃ Aa' ca', v' = .slice Aa' (out.length + 1) ca' ∧ (w7.cell? ⟨g, 1, none⟩ = some (.slice Aa out.length ca) ∧ w7.frozen? ⟨g, 1, none⟩ = false ∧ w7.cell? ⟨b, 1, none⟩ = some (.slice A2 n2 c2) ∧ Below w.heap.size w w7) ∧ CpSt w b r A n c A2 n2 c2 g m (out ++ [a]) (w7.setCell ⟨g, 1, none⟩ v') := by
  obtain ⟨h1, h2, h3, ⟨i1, i2, i3, i4⟩, h5, h6, h7⟩ := h
  have al := (Below.refl w5.heap.size w5).alloc (Nat.le_refl _) (.cells #[.int .i64 a.t, .slice A5 a.os.length c5] 84)
  have hrow' := World.ownsRow.alloc hrow (.cells #[.int .i64 a.t, .slice A5 a.os.length c5] 84)
  have oa := OwnArs.app har hc5 o5 hrow hown hg
  have hlt := World.ownsRow.lt hrow
  have k1 := (h1.later al).grown hg ((h1.later al).ne_row hrow')
  have k2 := (h2.later al).grown hg ((h2.later al).ne_row hrow')
  have k3 := (h3.later al).grown hg ((h3.later al).ne_row hrow')
  have om := (h5.below al).kept_ hg fun g e => OwnArs.row_type hrow' g e
  have hb7 : Below w.heap.size w w7 := (h7.alloc h7.size _).grown hg (by have := h7.size; simp; omega) (fun j hj => (hlt j hj).1)
  obtain ⟨Aa', ca', e, -, -⟩ := oa.form
  rw [List.length_append, List.length_singleton] at e
  subst e
  refine ⟨Aa', ca', rfl, ⟨k3.reads.2.1, k3.reads.2.2 1, k1.reads.2.1, hb7⟩, Am, cm, Aa', ca', k1.far i2 _, k2.far i3 _, ?_, ⟨i1, i2, i3, i4⟩, om.farQ k3 1 _, ?_, hb7.setCell i4 _⟩
  · rw [List.length_append, List.length_singleton]
    exact k3.set1 _
  · have := oa.farQ k3 1 (.slice Aa' (out.length + 1) ca')
    rw [List.length_append, List.length_singleton]
    exact this
end
/- The copy of the area's objects is called. -/
/- The append, the store, the end. -/
set_option linter.unusedSimpArgs false in
set_option maxRecDepth 100000 in
set_option maxHeartbeats 8000000 in
theorem l13Copy_any (v : Value) (q : Qr) (w : World) (h : Quar w w.heap.size v q) (hf : SmQ q) :
    Calls Try.prog 68 #[v] w (NewQ q w) := by
  obtain ⟨i0, hi, hz0, hz1, hz2⟩ := info_of info_ar
  obtain ⟨A, c, A2, c2, rfl, hm0, hmc, ha0, hac⟩ := h
  obtain ⟨f1, f2, f3, f4⟩ := hf
  unfold qv
  go_enter Try.func68, Try.ntmps68
  obtain ⟨w1, hw1⟩ : ∃ w1, (w.alloc (.cells #[.slice A q.m.length c, .slice A2 q.rs.length c2] 26)).alloc (.cells #[.slice none 0 0, .slice none 0 0] 26) = w1 := ⟨_, rfl⟩
  have x0 := (BlkQ.new_ w 26 (.slice A q.m.length c) (.slice A2 q.rs.length c2)).alloc (.cells #[.slice none 0 0, .slice none 0 0] 26)
  have x1 := BlkQ.new_ (w.alloc (.cells #[.slice A q.m.length c, .slice A2 q.rs.length c2] 26)) 26 (.slice none 0 0) (.slice none 0 0)
  have b1 := ((Below.refl w.heap.size w).alloc (Nat.le_refl _) (.cells #[.slice A q.m.length c, .slice A2 q.rs.length c2] 26)).alloc (by simp) (.cells #[.slice none 0 0, .slice none 0 0] 26)
  have z1 : w1.heap.size = w.heap.size + 2 := by rw [← hw1]; simp
  rw [World.size_alloc] at x1
  rw [hw1] at x0 x1 b1
  obtain ⟨y0, -, -⟩ := id x0.reads
  go_wp2_with fail
  have hm1 := (hm0.below b1 (Nat.le_refl _)).more b1.size
  refine (l1Copy_any A c q.m w1 hm1 f2 f1).mono ?_
  rintro e w2 ⟨vm, rfl, om, hb2⟩
  have b2 := b1.trans (hb2.mono b1.size)
  have x02 := x0.below hb2 x0.lt
  have x12 := x1.below hb2 x1.lt
  have om2 := om.base b1.size
  have z2 := hb2.size
  obtain ⟨Am, cm, rfl, -, -⟩ := om2.formq
  have al2 := ((Below.refl w2.heap.size w2).alloc (Nat.le_refl _) (.cells #[] 84)).alloc (by simp) (.cells #[.slice Am q.m.length cm, .slice (some ⟨w2.heap.size, 0, none⟩) 0 0] 26)
  have xg := BlkQ.new_ (w2.alloc (.cells #[] 84)) 26 (.slice Am q.m.length cm) (.slice (some ⟨w2.heap.size, 0, none⟩) 0 0)
  rw [World.size_alloc] at xg
  have oa := (OwnArs.nil_new (w := w2) (B := w.heap.size) b2.size).below ((Below.refl _ _).alloc (Nat.le_refl _) (.cells #[.slice Am q.m.length cm, .slice (some ⟨w2.heap.size, 0, none⟩) 0 0] 26))
  have S0 : CpSt w w.heap.size (w.heap.size + 1) A q.m.length c A2 q.rs.length c2 (w2.heap.size + 1) q.m [] ((w2.alloc (.cells #[] 84)).alloc (.cells #[.slice Am q.m.length cm, .slice (some ⟨w2.heap.size, 0, none⟩) 0 0] 26)) :=
    ⟨Am, cm, some ⟨w2.heap.size, 0, none⟩, 0, x02.later al2, x12.later al2, xg, ⟨by omega, by omega, by omega, by omega⟩, om2.below al2, oa, b2.trans (al2.mono b2.size)⟩
  clear hw1 y0 x0 x1 hb2 hm1 om b1 x02 x12 om2 xg oa al2 b2
  go_wp2_with fail
  go_loopw [4] (fun i wr => ∃ k : Nat, k ≤ q.rs.length ∧ i = .int .i64 k ∧ CpSt w w.heap.size (w.heap.size + 1) A q.m.length c A2 q.rs.length c2 (w2.heap.size + 1) q.m (q.rs.take k) wr) (fun i _ => q.rs.length - (intOf i).toNat)
  case atStart => exact ⟨0, Nat.zero_le _, rfl, S0⟩
  case round =>
    obtain ⟨k, hk, rfl, Am', cm', Aa, ca, S⟩ := hrel
    clear S0
    have hbr := S.2.2.2.2.2.2
    have hz := hbr.size
    obtain ⟨r0, r1, r2, r3, r4, -⟩ := S.reads
    by_cases hlt : k < q.rs.length
    · obtain ⟨a, ad, A', c', ho, rfl, had, g0, g1, g2, g3⟩ := ha0.ar hlt
      have q0 : (0 : Int) ≤ (k : Int) := by omega
      have q1 : (k : Int) < (q.rs.length : Int) := by omega
      have hfa : (∀ o ∈ a.os, o.zs.length ≤ 1048576) ∧ a.os.length ≤ 1048576 := by rw [← ho]; exact f4 _ (List.getElem_mem hlt)
      have Sd := S.drew
      have hT : Hid (q.rs.take (k + 1) = q.rs.take k ++ [a]) := by
        show _ = _
        rw [List.take_succ_eq_append_getElem hlt, ho]
      have hol : (q.rs.take k).length ≤ 1048576 := by rw [List.length_take]; omega
      obtain ⟨out, hout⟩ : ∃ out, q.rs.take k = out := ⟨_, rfl⟩
      rw [hout] at S Sd hT hol r3
      have HG : Hid (∀ x, x.cell? ⟨w.heap.size, 1, none⟩ = some (.slice (some ad) q.rs.length c2) → Below w.heap.size w x → x.cell? ⟨w.heap.size, 1, none⟩ = some (.slice (some ad) q.rs.length c2) ∧ x.cell? (ad.add (k * 2)) = some (.int .i64 a.t) ∧ x.cell? ⟨(ad.add (k * 2)).block, (ad.add (k * 2)).off + 1, none⟩ = some (.slice A' a.os.length c')) :=
        fun x h2 h3 => ⟨h2, (h3.cell had).trans g0, (h3.cell (p := ⟨(ad.add (k * 2)).block, (ad.add (k * 2)).off + 1, none⟩) had).trans g1⟩
      have HK : Hid (∀ x, CpE w w.heap.size (w.heap.size + 1) A q.m.length c (some ad) q.rs.length c2 (w2.heap.size + 1) q.m Am' cm' Aa ca out x → x.cell? ⟨w.heap.size, 1, none⟩ = some (.slice (some ad) q.rs.length c2) ∧ x.cell? (ad.add (k * 2)) = some (.int .i64 a.t) ∧ x.cell? ⟨(ad.add (k * 2)).block, (ad.add (k * 2)).off + 1, none⟩ = some (.slice A' a.os.length c')) :=
        fun x h => HG.out x h.reads.2.1 h.2.2.2.2.2.2
      have HC : Hid (∀ {x}, CpSt w w.heap.size (w.heap.size + 1) A q.m.length c (some ad) q.rs.length c2 (w2.heap.size + 1) q.m (out ++ [a]) x → x.cell? ⟨w.heap.size, 1, none⟩ = some (.slice (some ad) q.rs.length c2) ∧ x.cell? (ad.add (k * 2)) = some (.int .i64 a.t) ∧ x.cell? ⟨(ad.add (k * 2)).block, (ad.add (k * 2)).off + 1, none⟩ = some (.slice A' a.os.length c')) :=
        fun {x} ⟨_, _, _, _, h⟩ => HG.out x h.reads.2.1 h.2.2.2.2.2.2
      have g3d := ((g3.below hbr (Nat.le_refl _)).more hz).drew
      obtain ⟨y1, y2, y3⟩ := HK.out _ S
      have y0 := S.reads.2.2.2.1
      have hk1 : k + 1 ≤ q.rs.length := hlt
      have HX := hid f4
      clear hout ho g0 g1 g3 r0 r1 r2 r3
      go_wp2_with fail
      refine wp_region_held_drew (S := fun w' => w'.cell? ⟨w.heap.size, 1, none⟩ = some (.slice (some ad) q.rs.length c2) ∧ w'.cell? (ad.add (k * 2)) = some (.int .i64 a.t) ∧ w'.cell? ⟨(ad.add (k * 2)).block, (ad.add (k * 2)).off + 1, none⟩ = some (.slice A' a.os.length c')) (by kernel_rfl) (HK.out _ Sd) (fun hHeld => ?_)
      refine wpAnyH_take (i := 0) (oi := _) (v := ?_) rfl (by kernel_rfl) (by kernel_rfl) (by kernel_rfl) (fun _ _ _ h => h) (Or.inl ⟨by rfl, ?_⟩) hHeld ?_
      rotate_left
      · (intro w' hSw; (try dsimp only at hSw); go_simp <;> with_reducible rfl)
      try simp only [Act.put, List.getElem_toArray, List.getElem_cons_succ, List.getElem_cons_zero, List.setIfInBounds_toArray, List.set_cons_zero, List.set_cons_succ]
      refine wpAnyH_take (i := 2) (oi := _) (v := ?_) rfl (by kernel_rfl) (by kernel_rfl) (by kernel_rfl) (fun _ _ _ h => h) (Or.inl ⟨by rfl, ?_⟩) hHeld ?_
      rotate_left
      · (intro w' hSw; (try dsimp only at hSw); go_simp <;> with_reducible rfl)
      try simp only [Act.put, List.getElem_toArray, List.getElem_cons_succ, List.getElem_cons_zero, List.setIfInBounds_toArray, List.set_cons_zero, List.set_cons_succ]
      refine wpAnyH_take (i := 3) (oi := _) (v := ?_) rfl (by kernel_rfl) (by kernel_rfl) (by kernel_rfl) (fun _ _ _ h => h) (Or.inl ⟨by rfl, ?_⟩) hHeld ?_
      rotate_left
      · (intro w' hSw; (try dsimp only at hSw); go_simp <;> with_reducible rfl)
      try simp only [Act.put, List.getElem_toArray, List.getElem_cons_succ, List.getElem_cons_zero, List.setIfInBounds_toArray, List.set_cons_zero, List.set_cons_succ]
      refine wpAnyH_take (i := 4) (oi := _) (v := ?_) rfl (by kernel_rfl) (by kernel_rfl) (by kernel_rfl) (fun _ _ _ h => h) (Or.inl ⟨by rfl, ?_⟩) hHeld ?_
      rotate_left
      · (intro w' hSw; (try dsimp only at hSw); go_simp <;> with_reducible rfl)
      try simp only [Act.put, List.getElem_toArray, List.getElem_cons_succ, List.getElem_cons_zero, List.setIfInBounds_toArray, List.set_cons_zero, List.set_cons_succ]
      refine wpAnyH_take (i := 5) (oi := _) (v := ?_) rfl (by kernel_rfl) (by kernel_rfl) (by kernel_rfl) (fun _ _ _ h => h) (Or.inl ⟨by rfl, ?_⟩) hHeld ?_
      rotate_left
      · (intro w' hSw; (try dsimp only at hSw); go_simp <;> with_reducible rfl)
      try simp only [Act.put, List.getElem_toArray, List.getElem_cons_succ, List.getElem_cons_zero, List.setIfInBounds_toArray, List.set_cons_zero, List.set_cons_succ]
      refine wpAnyH_take (i := 6) (oi := _) (v := ?_) rfl (by kernel_rfl) (by kernel_rfl) (by kernel_rfl) (fun _ _ _ h => h) (Or.inl ⟨by rfl, ?_⟩) hHeld ?_
      rotate_left
      · (intro w' hSw; (try dsimp only at hSw); go_simp <;> with_reducible rfl)
      try simp only [Act.put, List.getElem_toArray, List.getElem_cons_succ, List.getElem_cons_zero, List.setIfInBounds_toArray, List.set_cons_zero, List.set_cons_succ]
      refine wpAnyH_take (i := 7) (oi := _) (v := ?_) rfl (by kernel_rfl) (by kernel_rfl) (by kernel_rfl) (fun _ _ _ h => h) (Or.inl ⟨by rfl, ?_⟩) hHeld ?_
      rotate_left
      · (intro w' hSw; (try dsimp only at hSw); go_simp <;> with_reducible rfl)
      try simp only [Act.put, List.getElem_toArray, List.getElem_cons_succ, List.getElem_cons_zero, List.setIfInBounds_toArray, List.set_cons_zero, List.set_cons_succ]
      refine wpAnyH_take (i := 8) (oi := _) (v := ?_) rfl (by kernel_rfl) (by kernel_rfl) (by kernel_rfl) (fun _ _ _ h => h) (Or.inl ⟨by rfl, ?_⟩) hHeld ?_
      rotate_left
      · (intro w' hSw; (try dsimp only at hSw); go_simp <;> with_reducible rfl)
      try simp only [Act.put, List.getElem_toArray, List.getElem_cons_succ, List.getElem_cons_zero, List.setIfInBounds_toArray, List.set_cons_zero, List.set_cons_succ]
      refine wpAnyH_take (i := 9) (oi := _) (v := ?_) rfl (by kernel_rfl) (by kernel_rfl) (by kernel_rfl) (fun _ _ _ h => h) (Or.inl ⟨by rfl, ?_⟩) hHeld ?_
      rotate_left
      · (intro w' hSw; (try dsimp only at hSw); go_simp <;> with_reducible rfl)
      try simp only [Act.put, List.getElem_toArray, List.getElem_cons_succ, List.getElem_cons_zero, List.setIfInBounds_toArray, List.set_cons_zero, List.set_cons_succ]
      refine wpAnyH_take (i := 10) (oi := _) (v := ?_) rfl (by kernel_rfl) (by kernel_rfl) (by kernel_rfl) (fun _ _ _ h => h) (Or.inl ⟨by rfl, ?_⟩) hHeld ?_
      rotate_left
      · (intro w' hSw; (try dsimp only at hSw); go_simp <;> with_reducible rfl)
      try simp only [Act.put, List.getElem_toArray, List.getElem_cons_succ, List.getElem_cons_zero, List.setIfInBounds_toArray, List.set_cons_zero, List.set_cons_succ]
      refine wpAnyH_take (i := 11) (oi := _) (v := ?_) rfl (by kernel_rfl) (by kernel_rfl) (by kernel_rfl) (fun _ _ _ h => h) (Or.inl ⟨by rfl, ?_⟩) hHeld ?_
      rotate_left
      · (intro w' hSw; (try dsimp only at hSw); go_simp <;> with_reducible rfl)
      try simp only [Act.put, List.getElem_toArray, List.getElem_cons_succ, List.getElem_cons_zero, List.setIfInBounds_toArray, List.set_cons_zero, List.set_cons_succ]
      refine wpAnyH_take (i := 12) (oi := _) (v := ?_) rfl (by kernel_rfl) (by kernel_rfl) (by kernel_rfl) (fun _ _ _ h => h) (Or.inl ⟨by rfl, ?_⟩) hHeld ?_
      rotate_left
      · (intro w' hSw; (try dsimp only at hSw); go_simp <;> with_reducible rfl)
      try simp only [Act.put, List.getElem_toArray, List.getElem_cons_succ, List.getElem_cons_zero, List.setIfInBounds_toArray, List.set_cons_zero, List.set_cons_succ]
      refine wpAnyH_take (i := 13) (oi := _) (v := ?_) rfl (by kernel_rfl) (by kernel_rfl) (by kernel_rfl) (fun _ _ _ h => h) (Or.inl ⟨by rfl, ?_⟩) hHeld ?_
      rotate_left
      · (intro w' hSw; (try dsimp only at hSw); go_simp <;> with_reducible rfl)
      try simp only [Act.put, List.getElem_toArray, List.getElem_cons_succ, List.getElem_cons_zero, List.setIfInBounds_toArray, List.set_cons_zero, List.set_cons_succ]
      refine wpAnyH_ready (rs := [1, 14]) (by kernel_rfl) (by simp) (AllReadyH.cons (o := _) rfl (fun K hK => ?_) (AllReadyH.cons (o := _) rfl (fun K hK => ?_) AllReadyH.nil))
      · skip
        try simp only [Act.put, List.getElem_toArray, List.getElem_cons_succ, List.getElem_cons_zero, List.setIfInBounds_toArray, List.set_cons_zero, List.set_cons_succ]
        go_simp
        refine hK.out _ _ (HK.out _ Sd) (fun hHeld => ?_)
        clear hK K
        try simp only [Act.put, List.getElem_toArray, List.getElem_cons_succ, List.getElem_cons_zero, List.setIfInBounds_toArray, List.set_cons_zero, List.set_cons_succ]
        refine wpAnyH_ready (rs := [14]) (by kernel_rfl) (by simp) (AllReadyH.cons (o := _) rfl (fun K hK => ?_) AllReadyH.nil)
        try simp only [Act.put, List.getElem_toArray, List.getElem_cons_succ, List.getElem_cons_zero, List.setIfInBounds_toArray, List.set_cons_zero, List.set_cons_succ]
        go_simp
        go_at_call 103
        refine (l1Copy_any A' c' a.os _ g3d hfa.2 hfa.1).mono ?_
        rintro e w5 ⟨v5, rfl, o5', b5⟩
        have S5 := Sd.call b5
        have o5 := o5'.base Sd.reads.2.2.2.2.2
        obtain ⟨A5, c5, rfl, -, hc5⟩ := o5.formq
        obtain ⟨-, s1, -, s3, -, s5⟩ := S5.reads
        obtain ⟨ys, hrow, har⟩ := S5.2.2.2.2.2.1
        have oA := World.ownsRow.alloc hrow (.cells #[.int .i64 a.t, .slice A5 a.os.length c5] 84)
        have rA := row_two w5 (.int .i64 a.t) (.slice A5 a.os.length c5) 84
        have Sa5 := S5.call ((Below.refl w5.heap.size w5).alloc (Nat.le_refl _) (.cells #[.int .i64 a.t, .slice A5 a.os.length c5] 84))
        obtain ⟨-, -, -, t3, -, -⟩ := Sa5.reads
        clear o5' b5
        refine hK.out _ _ (HK.out _ S5) (fun hHeld => ?_)
        clear hK K
        try simp only [Act.put, List.getElem_toArray, List.getElem_cons_succ, List.getElem_cons_zero, List.setIfInBounds_toArray, List.set_cons_zero, List.set_cons_succ]
        refine wpAnyH_take (i := 15) (oi := _) (v := ?_) rfl (by kernel_rfl) (by kernel_rfl) (by kernel_rfl) (fun _ _ _ h => h) (Or.inl ⟨by rfl, ?_⟩) hHeld ?_
        rotate_left
        · (intro w' hSw; (try dsimp only at hSw); go_simp <;> with_reducible rfl)
        try simp only [Act.put, List.getElem_toArray, List.getElem_cons_succ, List.getElem_cons_zero, List.setIfInBounds_toArray, List.set_cons_zero, List.set_cons_succ]
        refine wpAnyH_ready (rs := [16]) (by kernel_rfl) (by simp) (AllReadyH.cons (o := _) rfl (fun K hK => ?_) AllReadyH.nil)
        try simp only [Act.put, List.getElem_toArray, List.getElem_cons_succ, List.getElem_cons_zero, List.setIfInBounds_toArray, List.set_cons_zero, List.set_cons_succ]
        go_simp
        refine hK.out _ _ (HK.out _ Sa5) (fun hHeld => ?_)
        clear hK K
        try simp only [Act.put, List.getElem_toArray, List.getElem_cons_succ, List.getElem_cons_zero, List.setIfInBounds_toArray, List.set_cons_zero, List.set_cons_succ]
        refine wpAnyH_ready (rs := [17]) (by kernel_rfl) (by simp) (AllReadyH.cons (o := _) rfl (fun K hK => ?_) AllReadyH.nil)
        try simp only [Act.put, List.getElem_toArray, List.getElem_cons_succ, List.getElem_cons_zero, List.setIfInBounds_toArray, List.set_cons_zero, List.set_cons_succ]
        rw [if_pos (by rfl)]
        refine op_append_row _ (by rfl) _ _ 24 (by rfl) w.heap.size 84 i0 (.agg #[.int .i64 0, .slice none 0 0]) 2 32 Try.underlying24 hi hz0 hz1 hz2 rfl (by decide) (.slice Aa out.length ca) out.length ys (by rfl) oA _ (some ⟨w5.heap.size, 0, none⟩) 1 1 [.int .i64 a.t, .slice A5 a.os.length c5] (by rfl) rA rfl (ar_cells _ _ _ _) (by unfold maxLen; omega) (by omega) (by simp; omega) ?_
        intro v7 w7 hown hg
        obtain ⟨Aa7, ca7, rfl, ⟨k1, kf, k2, kb⟩, S7⟩ := S5.put (a := a) hrow har o5 hc5 hown hg
        clear hown hg oA rA hrow har o5
        refine hK.out _ _ (HG.out _ k2 kb) (fun hHeld => ?_)
        clear hK K
        try simp only [Act.put, List.getElem_toArray, List.getElem_cons_succ, List.getElem_cons_zero, List.setIfInBounds_toArray, List.set_cons_zero, List.set_cons_succ]
        refine wpAnyH_take (i := 18) (oi := _) (v := ?_) rfl (by kernel_rfl) (by kernel_rfl) (by kernel_rfl) (fun _ _ _ h => h) (Or.inl ⟨by rfl, ?_⟩) hHeld ?_
        rotate_left
        · (intro w' hSw; (try dsimp only at hSw); go_simp <;> with_reducible rfl)
        try simp only [Act.put, List.getElem_toArray, List.getElem_cons_succ, List.getElem_cons_zero, List.setIfInBounds_toArray, List.set_cons_zero, List.set_cons_succ]
        refine wpAnyH_ready (rs := [19]) (by kernel_rfl) (by simp) (AllReadyH.cons (o := _) rfl (fun K hK => ?_) AllReadyH.nil)
        try simp only [Act.put, List.getElem_toArray, List.getElem_cons_succ, List.getElem_cons_zero, List.setIfInBounds_toArray, List.set_cons_zero, List.set_cons_succ]
        go_simp
        refine hK.out _ _ (HC.out S7) (fun hHeld => ?_)
        clear hK K
        try simp only [Act.put, List.getElem_toArray, List.getElem_cons_succ, List.getElem_cons_zero, List.setIfInBounds_toArray, List.set_cons_zero, List.set_cons_succ]
        refine wpAnyH_done (by kernel_rfl) ?_ _
        go_wp2
        go_roundw
        case rel => exact ⟨k + 1, by omega, by go_num, by rw [hT.out]; exact S7⟩
        case measure => simp [intOf]; omega
      · skip
        try simp only [Act.put, List.getElem_toArray, List.getElem_cons_succ, List.getElem_cons_zero, List.setIfInBounds_toArray, List.set_cons_zero, List.set_cons_succ]
        go_simp
        go_at_call 103
        refine (l1Copy_any A' c' a.os _ g3d hfa.2 hfa.1).mono ?_
        rintro e w5 ⟨v5, rfl, o5', b5⟩
        have S5 := Sd.call b5
        have o5 := o5'.base Sd.reads.2.2.2.2.2
        obtain ⟨A5, c5, rfl, -, hc5⟩ := o5.formq
        obtain ⟨-, s1, -, s3, -, s5⟩ := S5.reads
        obtain ⟨ys, hrow, har⟩ := S5.2.2.2.2.2.1
        have oA := World.ownsRow.alloc hrow (.cells #[.int .i64 a.t, .slice A5 a.os.length c5] 84)
        have rA := row_two w5 (.int .i64 a.t) (.slice A5 a.os.length c5) 84
        have Sa5 := S5.call ((Below.refl w5.heap.size w5).alloc (Nat.le_refl _) (.cells #[.int .i64 a.t, .slice A5 a.os.length c5] 84))
        obtain ⟨-, -, -, t3, -, -⟩ := Sa5.reads
        clear o5' b5
        refine hK.out _ _ (HK.out _ S5) (fun hHeld => ?_)
        clear hK K
        try simp only [Act.put, List.getElem_toArray, List.getElem_cons_succ, List.getElem_cons_zero, List.setIfInBounds_toArray, List.set_cons_zero, List.set_cons_succ]
        refine wpAnyH_take (i := 15) (oi := _) (v := ?_) rfl (by kernel_rfl) (by kernel_rfl) (by kernel_rfl) (fun _ _ _ h => h) (Or.inl ⟨by rfl, ?_⟩) hHeld ?_
        rotate_left
        · (intro w' hSw; (try dsimp only at hSw); go_simp <;> with_reducible rfl)
        try simp only [Act.put, List.getElem_toArray, List.getElem_cons_succ, List.getElem_cons_zero, List.setIfInBounds_toArray, List.set_cons_zero, List.set_cons_succ]
        refine wpAnyH_ready (rs := [1, 16]) (by kernel_rfl) (by simp) (AllReadyH.cons (o := _) rfl (fun K hK => ?_) (AllReadyH.cons (o := _) rfl (fun K hK => ?_) AllReadyH.nil))
        · skip
          try simp only [Act.put, List.getElem_toArray, List.getElem_cons_succ, List.getElem_cons_zero, List.setIfInBounds_toArray, List.set_cons_zero, List.set_cons_succ]
          go_simp
          refine hK.out _ _ (HK.out _ S5) (fun hHeld => ?_)
          clear hK K
          try simp only [Act.put, List.getElem_toArray, List.getElem_cons_succ, List.getElem_cons_zero, List.setIfInBounds_toArray, List.set_cons_zero, List.set_cons_succ]
          refine wpAnyH_ready (rs := [16]) (by kernel_rfl) (by simp) (AllReadyH.cons (o := _) rfl (fun K hK => ?_) AllReadyH.nil)
          try simp only [Act.put, List.getElem_toArray, List.getElem_cons_succ, List.getElem_cons_zero, List.setIfInBounds_toArray, List.set_cons_zero, List.set_cons_succ]
          go_simp
          refine hK.out _ _ (HK.out _ Sa5) (fun hHeld => ?_)
          clear hK K
          try simp only [Act.put, List.getElem_toArray, List.getElem_cons_succ, List.getElem_cons_zero, List.setIfInBounds_toArray, List.set_cons_zero, List.set_cons_succ]
          refine wpAnyH_ready (rs := [17]) (by kernel_rfl) (by simp) (AllReadyH.cons (o := _) rfl (fun K hK => ?_) AllReadyH.nil)
          try simp only [Act.put, List.getElem_toArray, List.getElem_cons_succ, List.getElem_cons_zero, List.setIfInBounds_toArray, List.set_cons_zero, List.set_cons_succ]
          rw [if_pos (by rfl)]
          refine op_append_row _ (by rfl) _ _ 24 (by rfl) w.heap.size 84 i0 (.agg #[.int .i64 0, .slice none 0 0]) 2 32 Try.underlying24 hi hz0 hz1 hz2 rfl (by decide) (.slice Aa out.length ca) out.length ys (by rfl) oA _ (some ⟨w5.heap.size, 0, none⟩) 1 1 [.int .i64 a.t, .slice A5 a.os.length c5] (by rfl) rA rfl (ar_cells _ _ _ _) (by unfold maxLen; omega) (by omega) (by simp; omega) ?_
          intro v7 w7 hown hg
          obtain ⟨Aa7, ca7, rfl, ⟨k1, kf, k2, kb⟩, S7⟩ := S5.put (a := a) hrow har o5 hc5 hown hg
          clear hown hg oA rA hrow har o5
          refine hK.out _ _ (HG.out _ k2 kb) (fun hHeld => ?_)
          clear hK K
          try simp only [Act.put, List.getElem_toArray, List.getElem_cons_succ, List.getElem_cons_zero, List.setIfInBounds_toArray, List.set_cons_zero, List.set_cons_succ]
          refine wpAnyH_take (i := 18) (oi := _) (v := ?_) rfl (by kernel_rfl) (by kernel_rfl) (by kernel_rfl) (fun _ _ _ h => h) (Or.inl ⟨by rfl, ?_⟩) hHeld ?_
          rotate_left
          · (intro w' hSw; (try dsimp only at hSw); go_simp <;> with_reducible rfl)
          try simp only [Act.put, List.getElem_toArray, List.getElem_cons_succ, List.getElem_cons_zero, List.setIfInBounds_toArray, List.set_cons_zero, List.set_cons_succ]
          refine wpAnyH_ready (rs := [19]) (by kernel_rfl) (by simp) (AllReadyH.cons (o := _) rfl (fun K hK => ?_) AllReadyH.nil)
          try simp only [Act.put, List.getElem_toArray, List.getElem_cons_succ, List.getElem_cons_zero, List.setIfInBounds_toArray, List.set_cons_zero, List.set_cons_succ]
          go_simp
          refine hK.out _ _ (HC.out S7) (fun hHeld => ?_)
          clear hK K
          try simp only [Act.put, List.getElem_toArray, List.getElem_cons_succ, List.getElem_cons_zero, List.setIfInBounds_toArray, List.set_cons_zero, List.set_cons_succ]
          refine wpAnyH_done (by kernel_rfl) ?_ _
          go_wp2
          go_roundw
          case rel => exact ⟨k + 1, by omega, by go_num, by rw [hT.out]; exact S7⟩
          case measure => simp [intOf]; omega
        · skip
          try simp only [Act.put, List.getElem_toArray, List.getElem_cons_succ, List.getElem_cons_zero, List.setIfInBounds_toArray, List.set_cons_zero, List.set_cons_succ]
          go_simp
          refine hK.out _ _ (HK.out _ Sa5) (fun hHeld => ?_)
          clear hK K
          try simp only [Act.put, List.getElem_toArray, List.getElem_cons_succ, List.getElem_cons_zero, List.setIfInBounds_toArray, List.set_cons_zero, List.set_cons_succ]
          refine wpAnyH_ready (rs := [1]) (by kernel_rfl) (by simp) (AllReadyH.cons (o := _) rfl (fun K hK => ?_) AllReadyH.nil)
          try simp only [Act.put, List.getElem_toArray, List.getElem_cons_succ, List.getElem_cons_zero, List.setIfInBounds_toArray, List.set_cons_zero, List.set_cons_succ]
          go_simp
          refine hK.out _ _ (HK.out _ Sa5) (fun hHeld => ?_)
          clear hK K
          try simp only [Act.put, List.getElem_toArray, List.getElem_cons_succ, List.getElem_cons_zero, List.setIfInBounds_toArray, List.set_cons_zero, List.set_cons_succ]
          refine wpAnyH_ready (rs := [17]) (by kernel_rfl) (by simp) (AllReadyH.cons (o := _) rfl (fun K hK => ?_) AllReadyH.nil)
          try simp only [Act.put, List.getElem_toArray, List.getElem_cons_succ, List.getElem_cons_zero, List.setIfInBounds_toArray, List.set_cons_zero, List.set_cons_succ]
          rw [if_pos (by rfl)]
          refine op_append_row _ (by rfl) _ _ 24 (by rfl) w.heap.size 84 i0 (.agg #[.int .i64 0, .slice none 0 0]) 2 32 Try.underlying24 hi hz0 hz1 hz2 rfl (by decide) (.slice Aa out.length ca) out.length ys (by rfl) oA _ (some ⟨w5.heap.size, 0, none⟩) 1 1 [.int .i64 a.t, .slice A5 a.os.length c5] (by rfl) rA rfl (ar_cells _ _ _ _) (by unfold maxLen; omega) (by omega) (by simp; omega) ?_
          intro v7 w7 hown hg
          obtain ⟨Aa7, ca7, rfl, ⟨k1, kf, k2, kb⟩, S7⟩ := S5.put (a := a) hrow har o5 hc5 hown hg
          clear hown hg oA rA hrow har o5
          refine hK.out _ _ (HG.out _ k2 kb) (fun hHeld => ?_)
          clear hK K
          try simp only [Act.put, List.getElem_toArray, List.getElem_cons_succ, List.getElem_cons_zero, List.setIfInBounds_toArray, List.set_cons_zero, List.set_cons_succ]
          refine wpAnyH_take (i := 18) (oi := _) (v := ?_) rfl (by kernel_rfl) (by kernel_rfl) (by kernel_rfl) (fun _ _ _ h => h) (Or.inl ⟨by rfl, ?_⟩) hHeld ?_
          rotate_left
          · (intro w' hSw; (try dsimp only at hSw); go_simp <;> with_reducible rfl)
          try simp only [Act.put, List.getElem_toArray, List.getElem_cons_succ, List.getElem_cons_zero, List.setIfInBounds_toArray, List.set_cons_zero, List.set_cons_succ]
          refine wpAnyH_ready (rs := [19]) (by kernel_rfl) (by simp) (AllReadyH.cons (o := _) rfl (fun K hK => ?_) AllReadyH.nil)
          try simp only [Act.put, List.getElem_toArray, List.getElem_cons_succ, List.getElem_cons_zero, List.setIfInBounds_toArray, List.set_cons_zero, List.set_cons_succ]
          go_simp
          refine hK.out _ _ (HC.out S7) (fun hHeld => ?_)
          clear hK K
          try simp only [Act.put, List.getElem_toArray, List.getElem_cons_succ, List.getElem_cons_zero, List.setIfInBounds_toArray, List.set_cons_zero, List.set_cons_succ]
          refine wpAnyH_done (by kernel_rfl) ?_ _
          go_wp2
          go_roundw
          case rel => exact ⟨k + 1, by omega, by go_num, by rw [hT.out]; exact S7⟩
          case measure => simp [intOf]; omega
    · have hk' : k = q.rs.length := by omega
      subst hk'
      rw [List.take_length] at S
      obtain ⟨-, S1, S2, S3, S4, S5, S6⟩ := S
      obtain ⟨t0, t1, tf⟩ := id S1.reads
      have tf0 := tf 0
      have tf1 := tf 1
      go_wp2
      have u1 := (S1.set0 (.slice Am' q.m.length cm')).set1 (.slice Aa q.rs.length ca)
      obtain ⟨p0, p1, -⟩ := id u1.reads
      refine bodyPost_ret (v := .agg #[.slice Am' q.m.length cm', .slice Aa q.rs.length ca]) (by simp [results, Try.results68, go_sem, p0, p1]) rfl ⟨_, rfl, OwnQ.mk_ ((S4.farQ S1 0 _).farQ (S1.set0 _) 1 _) ((S5.farQ S1 0 _).farQ (S1.set0 _) 1 _), (S6.setCell (p := ⟨w.heap.size + 1, 0, none⟩) (Nat.le_succ _) _).setCell (p := ⟨w.heap.size + 1, 1, none⟩) (Nat.le_succ _) _⟩
end Go.Proofs.Ytblknnifccmpkaa
