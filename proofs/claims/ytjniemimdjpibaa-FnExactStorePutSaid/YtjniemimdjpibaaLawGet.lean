/-
  Walk of the exact law on StoreGet.
-/
import Derived.Test.YtjniemimdjpibaaMarks
namespace Go.Proofs.Ytjniemimdjpibaa
open Go.RowKit Wo Pu

def Got (o : Ob) (b : Bool) (w : World) (e : Ending) (w' : World) : Prop :=
  ∃ (A : Option Addr) (c : Nat), e = .returned (.tuple #[ob o.kd A o.zs.length c o.s, .bool b]) ∧ Own w' w.heap.size (.slice A o.zs.length c) o.zs ∧ Below w.heap.size w w'
theorem Got.of_ {f : Option Ob} {o : Ob} {b : Bool} {w w' : World} {e : Ending} (h : GotOb f w e w') (ho : f.getD ob0 = o) (hb : f.isSome = b) : Got o b w e w' := by
  subst ho hb
  exact h
theorem fnd_len {os : List Ob} {x : Int} {r m : Nat} (h : ∀ o ∈ os, o.zs.length ≤ m) : ((fndO os x r).getD ob0).zs.length ≤ m := by
  unfold fndO
  split
  · by_cases hr : r < os.length
    · by_cases hi : iOb os[r] = x
      · simp [hr, Option.filter, hi]
        exact h _ (List.getElem_mem hr)
      · simp [hr, Option.filter, hi, ob0]
    · simp [hr, ob0]
  · simp [ob0]
/-- A new variable with an object in it. -/
def putOb (w : World) (o : Ob) (A : Option Addr) (c : Nat) : World := w.alloc (.cells #[.int .i64 o.kd, .slice A o.zs.length c, .string o.s] 26)
theorem putOb_facts (w : World) (o : Ob) (A : Option Addr) (c : Nat) : Blk (putOb w o A c) w.heap.size 26 (.int .i64 o.kd) (.slice A o.zs.length c) (.string o.s) ∧ Below w.heap.size w (putOb w o A c) ∧ (putOb w o A c).heap.size = w.heap.size + 1 :=
  ⟨Blk.new_ w _ _ _ _, (Below.refl w.heap.size w).alloc (Nat.le_refl _) _, by simp [putOb]⟩
theorem Own.lt_ {w : World} {B : Nat} {A : Option Addr} {n c : Nat} {zs : List Int} (h : Own w B (.slice A n c) zs) : ∀ k, (Value.slice A n c).ownBlock = some k → B ≤ k ∧ k < w.heap.size := World.ownsRow.lt h
theorem Apart.size_ {B C : Nat} {w w' : World} (h : Apart B C w w') : w.heap.size ≤ w'.heap.size := h.1.size
theorem Own.row' {w : World} {B : Nat} {A : Option Addr} {n c : Nat} {zs : List Int} (h : Own w B (.slice A n c) zs) : Row w w.heap.size A (ints zs) := by
  obtain ⟨A2, c2, hv, hr⟩ := h.form
  injection hv with h1 h2 h3
  subst h1
  exact hr
theorem Apart.blk {B C : Nat} {w w' : World} (h : Apart B C w w') {g : Nat} {t : TypeId} {v0 v1 v2 : Value} (hb : Blk w g t v0 v1 v2) (hg : C ≤ g) : Blk w' g t v0 v1 v2 := (h.2 g hg hb.lt).trans hb
theorem Apart.own_ {B C D : Nat} {w w' : World} (h : Apart B C w w') {v : Value} {zs : List Int} (ho : Own w D v zs) (hD : C ≤ D) : Own w' D v zs := by
  have ho' := ho
  obtain ⟨h1, h2⟩ := ho
  refine ⟨h1, ?_⟩
  rcases h2 with h2 | ⟨g, cap, cur, hv, hB, hh, hr⟩
  · exact .inl h2
  · refine .inr ⟨g, cap, cur, hv, hB, ?_, hr⟩
    have hl := (World.ownsRow.lt ho' g (by rw [hv]; rfl)).2
    rw [h.2 g (by omega) hl]
    exact hh

set_option maxHeartbeats 4000000 in
theorem exactStoreGet_any (A : Option Addr) (c : Nat) (os : List Ob) (x : Int) (w : World) (h : Objs w w.heap.size A os) (hf : Fit os) (hn : os.length ≤ maxLen) (_hx : (Lit.int .i64 x).wf = true) :
    Calls Try.prog 5 #[.slice A os.length c, .int .i64 x] w (Ret (.bool true) w) := by
  go_enter Try.func5, Try.ntmps5
  go_wp2_with fail
  refine (szObjectS_any A c os 1048576 w h hf hn (by omega) (by omega)).mono ?_
  rintro e w1 ⟨q, rfl, hr, b1⟩
  rcases hr with rfl | ⟨hr0, hre⟩
  · go_wp2
    go_ret
    exact .mk_ b1
  · obtain ⟨hl, hsz⟩ := allSz_fits (os := os) (m := 1048576) (by omega)
    have hs1 : ∀ o ∈ os, o.zs.length ≤ 1048576 := fun o ho => (hsz o ho).1
    clear hre hsz
    obtain ⟨r, hrr⟩ := at_ex os x
    have HR : Hid (At_ os x r) := hrr
    have hlen : ((fndO os x r).getD ob0).zs.length ≤ 1048576 := fnd_len hs1
    have specG := fun A c w h => specStoreGet_Any A c os x r w h hf hn HR
    have implG := fun A c w h => implStoreGet_Any A c os x r w h hf hn HR
    generalize ho : (fndO os x r).getD ob0 = o at *
    generalize hb : (fndO os x r).isSome = b at *
    have HO := hid ho
    have HB := hid hb
    clear ho hb hrr
    go_wp2_with fail
    refine (toObjectS_any A c os w1 ((h.below b1 (Nat.le_refl _)).more b1.size) hl hs1).mono ?_
    rintro e w2 ⟨g2, rfl, f2, hb2⟩
    have b2 := b1.trans (hb2.mono b1.size)
    clear hb2
    go_wp2_with fail
    refine (specG _ _ w2 f2.objs).mono ?_
    rintro e w3 hG
    obtain ⟨A3, c3, rfl, o3, hb3⟩ := Got.of_ hG HO.out HB.out
    unfold ob
    have b3 := b2.trans (hb3.mono b2.size)
    have zw3 := b3.size
    have r3 : Row w3 w3.heap.size A3 (ints o.zs) := o3.row
    clear hb3 f2 hG o3
    go_wp2_with fail
    obtain ⟨p3, d3, z3⟩ := putOb_facts w3 o A3 c3
    have b3' := b3.trans (d3.mono b3.size)
    refine (toObjectS_any A c os (putOb w3 o A3 c3) ((h.below b3' (Nat.le_refl _)).more b3'.size) hl hs1).mono ?_
    rintro e w4 ⟨g4, rfl, f4, hb4⟩
    have z34 : w3.heap.size + 1 ≤ w4.heap.size := by have := hb4.size; omega
    have b4 := b3'.trans (hb4.mono b3'.size)
    have t4 := p3.below hb4 p3.lt
    have r4 := (r3.below d3 (Nat.le_refl _)).below hb4 (by omega)
    have l4 := f4.lists
    rw [z3] at f4 l4
    clear hb4 p3 r3 d3 b3 b3' z3
    go_wp2_with fail
    refine (implG _ _ w4 f4.objs).mono ?_
    rintro e w5 hG
    obtain ⟨A5, c5, rfl, o5, hb5⟩ := Got.of_ hG HO.out HB.out
    unfold ob
    have b5 := b4.trans (hb5.mono b4.size)
    have z45 := hb5.size
    have t5 := t4.below hb5 t4.lt
    have oo5 := r4.below hb5 (by omega)
    have l5 := l4.below hb5 (Nat.le_refl _)
    have f5 := f4.below hb5
    clear hb5 hG t4 r4 l4 f4 b4
    obtain ⟨p5, d5, z5⟩ := putOb_facts w5 o A5 c5
    have b6 := b5.trans (d5.mono b5.size)
    have t6 := t5.below d5 t5.lt
    have oo6 := oo5.below d5 (by omega)
    have o6 := o5.below d5 (Nat.le_refl _)
    have l6 := l5.below d5 z45
    have f6 := f5.below d5
    obtain ⟨y0, y1, y2, -⟩ := id t6.reads
    obtain ⟨x0, x1, x2, -⟩ := id p5.reads
    clear t5 oo5 o5 l5 f5 b5 d5
    unfold putOb at y0 y1 y2 x0 x1 x2
    go_wp2_with fail
    refine (eqObject_same _ _ A5 A3 c5 c3 o.kd o.zs o.s (putOb w5 o A5 c5) o6.row oo6 (Nat.le_refl _) (by omega) (by unfold maxLen; omega)).mono ?_
    rintro e w6 ⟨rfl, hb6⟩
    have b7 := b6.trans (hb6.mono b6.size)
    have t7 := t6.below hb6 t6.lt
    have p7 := p5.below hb6 p5.lt
    have oo7 := oo6.below hb6 (by omega)
    have o7 := o6.below hb6 (Nat.le_refl _)
    have l7 := l6.below hb6 (by omega)
    have f7 := f6.below hb6
    have z7 := hb6.size
    rw [z5] at z7
    clear t6 p5 oo6 o6 l6 f6 b6 hb6 z5 y0 y1 y2 x0 x1 x2
    go_wp2_with fail
    refine (toObjectS_any A c os w6 ((h.below b7 (Nat.le_refl _)).more b7.size) hl hs1).mono ?_
    rintro e w7 ⟨g7, rfl, fn, hb⟩
    have f8 := f7.below hb
    have b8 := b7.trans (hb.mono b7.size)
    have t8 := t7.below hb t7.lt
    have p8 := p7.below hb p7.lt
    have oo8 := oo7.below hb (by omega)
    have o8 := o7.below hb (Nat.le_refl _)
    have l8 := l7.below hb (by omega)
    have z8 := hb.size
    clear f7 b7 t7 p7 oo7 o7 l7 hb
    go_wp2_with fail
    refine (eqObjectS_same _ _ _ _ os w7 f8.objs fn.objs hl hs1).mono ?_
    rintro e w8 ⟨rfl, hb⟩
    have b9 := b8.trans (hb.mono b8.size)
    have t9 := t8.below hb t8.lt
    have p9 := p8.below hb p8.lt
    have oo9 := oo8.below hb (by omega)
    have o9 := o8.below hb (Nat.le_refl _)
    have l9 := l8.below hb (by omega)
    have z9 := hb.size
    clear f8 fn b8 t8 p8 oo8 o8 l8 hb
    go_wp2_with fail
    refine (markObjectS_any (w3.heap.size + 1) w4.heap.size g4 os w8 l9 (by omega) z34 hl hs1).mono ?_
    rintro e w9 ⟨k9, rfl, hk9, ha⟩
    have b10 := b9.trans (ha.1.mono (by omega))
    have t10 := t9.below ha.1 (by omega)
    have p10 := ha.blk p9 z45
    have oo10 := oo9.below ha.1 (by omega)
    have o10 := ha.own_ o9 (Nat.le_refl _)
    have z10 := ha.1.size
    have z10' : w8.heap.size ≤ w9.heap.size := ha.size_
    clear ha l9 b9 t9 p9 oo9 o9
    obtain ⟨y0, y1, y2, -⟩ := id t10.reads
    obtain ⟨x0, x1, x2, -⟩ := id p10.reads
    go_wp2_with fail
    refine (eqObject_same _ _ A5 A3 c5 c3 o.kd o.zs o.s w9 o10.row oo10 (Nat.le_refl _) (by omega) (by unfold maxLen; omega)).mono ?_
    rintro e w10 ⟨rfl, hb⟩
    clear x0 x1 x2 y0 y1 y2
    have b11 := b10.trans (hb.mono b10.size)
    have t11 := t10.below hb t10.lt
    have p11 := p10.below hb p10.lt
    have oo11 := oo10.below hb (by omega)
    have o11 := o10.below hb (Nat.le_refl _)
    have z11 := hb.size
    clear b10 t10 p10 oo10 o10 hb
    obtain ⟨x0, x1, x2, -⟩ := id p11.reads
    go_wp2_with fail
    refine (markObject_any _ A5 c5 o 1 w10 o11 hlen (by omega) (by omega)).mono ?_
    rintro e w11 ⟨rfl, o12, hg⟩
    clear x0 x1 x2
    have ho := o11.ne_ p11
    have hbC : Below w4.heap.size w10 w11 := (Below.refl _ _).grown hg (by omega) (fun k hk => (o11.lt_ k hk).1)
    have b12 := b11.trans (hbC.mono (by omega))
    have t12 := t11.below hbC (by omega)
    have p12 := p11.grown hg (fun e => ho e.symm)
    have oo12 := oo11.below hbC (by omega)
    have z12 := hg.size
    clear b11 t11 p11 oo11 o11 hg hbC ho
    have r12 : Row w11 w11.heap.size A5 (ints (marks 1 o.zs.length)) := o12.row'
    clear o12
    obtain ⟨x0, x1, x2, -⟩ := id p12.reads
    go_wp2_with fail
    refine (heldObject_any _ A5 c5 o.zs.length o.kd o.s 1 w11 r12 (Nat.le_refl _) hlen (by omega) (by omega)).mono ?_
    rintro e w12 ⟨rfl, hb⟩
    clear x0 x1 x2
    have b13 := b12.trans (hb.mono b12.size)
    have t13 := t12.below hb t12.lt
    have p13 := p12.below hb p12.lt
    have oo13 := oo12.below hb (by omega)
    have r13 := r12.below hb (Nat.le_refl _)
    have z13 := hb.size
    clear b12 t12 p12 oo12 r12 hb
    go_wp2_with fail
    refine (toObjectS_any A c os w12 ((h.below b13 (Nat.le_refl _)).more b13.size) hl hs1).mono ?_
    rintro e w13 ⟨g13, rfl, f14, hb⟩
    have b14 := b13.trans (hb.mono b13.size)
    have t14 := t13.below hb t13.lt
    have p14 := p13.below hb p13.lt
    have oo14 := oo13.below hb (by omega)
    have r14 := r13.below hb (by omega)
    have z14 := hb.size
    clear b13 t13 p13 oo13 r13 hb
    go_wp2_with fail
    refine (implG _ _ w13 f14.objs).mono ?_
    rintro e w14 hG
    obtain ⟨A7, c7, rfl, o15, hb⟩ := Got.of_ hG HO.out HB.out
    unfold ob
    have b15 := b14.trans (hb.mono b14.size)
    have t15 := t14.below hb t14.lt
    have p15 := p14.below hb p14.lt
    have oo15 := oo14.below hb (by omega)
    have r15 := r14.below hb (by omega)
    have z15 := hb.size
    clear b14 t14 p14 oo14 r14 hb hG f14
    obtain ⟨p7, d7, z7'⟩ := putOb_facts w14 o A7 c7
    have b16 := b15.trans (d7.mono b15.size)
    have t16 := t15.below d7 t15.lt
    have p16 := p15.below d7 p15.lt
    have oo16 := oo15.below d7 (by omega)
    have r16 := r15.below d7 (by omega)
    have o16 := o15.below d7 (Nat.le_refl _)
    clear b15 t15 p15 oo15 r15 o15 d7
    obtain ⟨y0, y1, y2, -⟩ := id t16.reads
    obtain ⟨x0, x1, x2, -⟩ := id p7.reads
    unfold putOb at y0 y1 y2 x0 x1 x2
    go_wp2_with fail
    refine (eqObject_same _ _ A7 A3 c7 c3 o.kd o.zs o.s (putOb w14 o A7 c7) o16.row oo16 (Nat.le_refl _) (by omega) (by unfold maxLen; omega)).mono ?_
    rintro e w15 ⟨rfl, hb⟩
    clear x0 x1 x2 y0 y1 y2
    have b17 := b16.trans (hb.mono b16.size)
    have p17 := p16.below hb p16.lt
    have r17 := r16.below hb (by omega)
    have z17 := hb.size
    clear b16 t16 p16 oo16 r16 o16 hb p7
    obtain ⟨x0, x1, x2, -⟩ := id p17.reads
    go_wp2_with fail
    refine (heldObject_any _ A5 c5 o.zs.length o.kd o.s 1 w15 r17 (by omega) hlen (by omega) (by omega)).mono ?_
    rintro e w16 ⟨rfl, hb⟩
    clear x0 x1 x2
    go_wp2
    go_ret
    exact .mk_ (b17.trans (hb.mono b17.size))
end Go.Proofs.Ytjniemimdjpibaa
