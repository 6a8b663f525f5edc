/-
  Walk of the law on the order of puts.
-/
import Derived.Test.YtkflpgdbookdhaaLawPut
namespace Go.Proofs.Ytkflpgdbookdhaa
open Go.RowKit Wo Pu

theorem fit_put {os os1 : List Ob} {o : Ob} {r : Nat} {b : Bool} (h : PutAll os o r os1 b) (hf : Fit os) (ho : o.zs.length ≤ maxLen ∧ o.s.size ≤ maxLen) : Fit os1 := fun x hx => by
  rcases h.mem x hx with e | e
  · exact hf x e
  · rw [e]; exact ho

theorem FnStoreOrder_no (A : Option Addr) (c : Nat) (bs : List Int) (A' : Option Addr) (c' : Nat) (bs' : List Int) (w : World) (h : Code_ w A c bs) (h' : Code_ w A' c' bs') (hl : ¬ (bs.length ≤ 1048576 ∧ bs'.length ≤ 1048576)) :
    Calls Try.prog 5 #[.slice A bs.length c, .slice A' bs'.length c'] w (Ret (.bool true) w) := by
  have hc := h.2.1
  have hm := h.2.2.1
  have hc' := h'.2.1
  have hm' := h'.2.2.1
  unfold maxLen at hm hm'
  by_cases h1 : bs.length ≤ 1048576
  · have h2 : ¬ bs'.length ≤ 1048576 := fun e => hl ⟨h1, e⟩
    clear hl
    go_enter Try.func5, Try.ntmps5
    go_wp2
    go_ret
    exact .mk_ (Below.refl _ _)
  · clear hl
    go_enter Try.func5, Try.ntmps5
    go_wp2
    go_ret
    exact .mk_ (Below.refl _ _)
set_option maxHeartbeats 8000000 in
theorem FnStoreOrder_yes (A : Option Addr) (c : Nat) (bs : List Int) (A' : Option Addr) (c' : Nat) (bs' : List Int) (w : World) (h : Code_ w A c bs) (h' : Code_ w A' c' bs') (hl : bs.length ≤ 1048576) (hl' : bs'.length ≤ 1048576) :
    Calls Try.prog 5 #[.slice A bs.length c, .slice A' bs'.length c'] w (Ret (.bool true) w) := by
  go_enter Try.func5, Try.ntmps5
  go_wp2_with fail
  refine (DrawStorePut_any A c bs _ h).mono ?_
  rintro e w1 ⟨A1, c1, os, A2, c2, o, rfl, h1, hc1, hl22, hv, hro1, hz, hs9, b1⟩
  unfold ob
  obtain ⟨r, hrr⟩ := at_ex os (iOb o)
  have HR : Hid (At_ os (iOb o) r) := hrr
  have hf := fit_of hv
  have HV := hid hv
  have hn : os.length ≤ maxLen := by unfold maxLen; omega
  have hfo : o.zs.length ≤ maxLen ∧ o.s.size ≤ maxLen := by unfold maxLen; omega
  clear hrr hv
  obtain ⟨p2, d2, z2⟩ := putOb_facts w1 o A2 c2
  have h2 := (h1.below d2 (Nat.le_refl _)).more d2.size
  have hro2 := (hro1.below d2 (Nat.le_refl _)).more d2.size
  have b2 := b1.trans (d2.mono b1.size)
  obtain ⟨y0, y1, y2, -⟩ := id p2.reads
  unfold putOb at y0 y1 y2
  clear d2 h1 hro1
  go_wp2_with fail
  refine (implStorePut_any A1 c1 os A2 c2 o r (putOb w1 o A2 c2) h2 hf hn hro2 hfo HR).mono ?_
  rintro e w3 ⟨v3, os1, b, rfl, hp3, ho3, bb3⟩
  obtain ⟨A3, c3, rfl, h3o, hc3⟩ := ho3.form2
  have p3 := p2.below bb3 p2.lt
  have h3 := (h2.below bb3 (Nat.le_refl _)).more bb3.size
  have hro3 := (hro2.below bb3 (Nat.le_refl _)).more bb3.size
  have b3 := b2.trans (bb3.mono b2.size)
  clear y0 y1 y2 p2 h2 hro2 bb3 ho3 b2 b1 z2
  obtain ⟨y0, y1, y2, -⟩ := id p3.reads
  go_wp2_with fail
  refine (specStorePut_any A1 c1 os A2 c2 o r w3 h3 hf hn hc1 hro3 hfo HR).mono ?_
  rintro e w4 ⟨v4, os1', b', rfl, hp4, ho4, bb4⟩
  obtain ⟨rfl, rfl⟩ := hp3.one hp4
  have HP : Hid (PutAll os o r os1 b) := hp3
  obtain ⟨A4, c4, rfl, h4o, hc4⟩ := ho4.form2
  have p4 := p3.below bb4 p3.lt
  have h4 := (h3.below bb4 (Nat.le_refl _)).more bb4.size
  have hro4 := (hro3.below bb4 (Nat.le_refl _)).more bb4.size
  have q4 := (h3o.below bb4 (Nat.le_refl _)).more bb4.size
  have b4 := b3.trans (bb4.mono b3.size)
  have hlen1 : os1.length ≤ os.length + 1 := HP.out.len
  have hn1 : os1.length ≤ maxLen := by unfold maxLen; omega
  have hn1' : os1.length ≤ 1048576 := by omega
  have hf1 : Fit os1 := fun x hx => by
    rcases HP.out.mem x hx with e | e
    · exact hf x e
    · rw [e]; exact hfo
  clear y0 y1 y2 p3 h3 hro3 bb4 ho4 b3 h3o hp3 hp4
  go_wp2_with fail
  refine (sameObjects_same A3 A4 c3 c4 os1 w4 q4 h4o hn1' hf1).mono ?_
  rintro e w5 ⟨rfl, bb5⟩
  have p5 := p4.below bb5 p4.lt
  have h5 := (h4.below bb5 (Nat.le_refl _)).more bb5.size
  have hro5 := (hro4.below bb5 (Nat.le_refl _)).more bb5.size
  have q5 := (q4.below bb5 (Nat.le_refl _)).more bb5.size
  have s5 := (h4o.below bb5 (Nat.le_refl _)).more bb5.size
  have b5 := b4.trans (bb5.mono b4.size)
  clear p4 h4 hro4 q4 h4o bb5 b4
  obtain ⟨y0, y1, y2, -⟩ := id p5.reads
  cases b
  · skip
    go_wp2_with fail
    refine (sameObjects_same A3 A4 c3 c4 os1 w5 q5 s5 hn1' hf1).mono ?_
    rintro e w6 ⟨rfl, bb6⟩
    go_wp2
    go_ret
    exact .mk_ (b5.trans (bb6.mono b5.size))
  · go_wp2_with fail
    refine (DrawStorePut_any A' c' bs' _ (h'.below b5)).mono ?_
    rintro e w6 ⟨A6, c6, osx, A7, c7, p, rfl, -, -, -, -, hrp6, hzp, hsp, bb6⟩
    unfold ob
    have hfp : p.zs.length ≤ maxLen ∧ p.s.size ≤ maxLen := by unfold maxLen; omega
    have p6 := p5.below bb6 p5.lt
    have h6 := (h5.below bb6 (Nat.le_refl _)).more bb6.size
    have hro6 := (hro5.below bb6 (Nat.le_refl _)).more bb6.size
    have q6 := (q5.below bb6 (Nat.le_refl _)).more bb6.size
    have b6 := b5.trans (bb6.mono b5.size)
    clear p5 h5 hro5 q5 s5 b5 bb6 y0 y1 y2
    obtain ⟨pp7, d7, z7⟩ := putOb_facts w6 p A7 c7
    have p7 := p6.below d7 p6.lt
    have h7 := (h6.below d7 (Nat.le_refl _)).more d7.size
    have hro7 := (hro6.below d7 (Nat.le_refl _)).more d7.size
    have q7 := (q6.below d7 (Nat.le_refl _)).more d7.size
    have hrp7 := (hrp6.below d7 (Nat.le_refl _)).more d7.size
    have b7 := b6.trans (d7.mono b6.size)
    clear p6 h6 hro6 q6 hrp6 b6 d7 z7
    obtain ⟨x0, x1, x2, -⟩ := id pp7.reads
    unfold putOb at x0 x1 x2
    obtain ⟨r1, hrr1⟩ := at_ex os1 (iOb p)
    have HR1 : Hid (At_ os1 (iOb p) r1) := hrr1
    clear hrr1
    go_wp2_with fail
    refine (implStorePut_any A3 c3 os1 A7 c7 p r1 (putOb w6 p A7 c7) q7 hf1 hn1 hrp7 hfp HR1).mono ?_
    rintro e w8 ⟨v8, os2, b8, rfl, hp8, ho8, bb8⟩
    have HP2 : Hid (PutAll os1 p r1 os2 b8) := hp8
    obtain ⟨A8, c8, rfl, a8, hc8⟩ := ho8.form2
    have pp8 := pp7.below bb8 pp7.lt
    have p8 := p7.below bb8 p7.lt
    have h8 := (h7.below bb8 (Nat.le_refl _)).more bb8.size
    have hro8 := (hro7.below bb8 (Nat.le_refl _)).more bb8.size
    have hrp8 := (hrp7.below bb8 (Nat.le_refl _)).more bb8.size
    have b8' := b7.trans (bb8.mono b7.size)
    clear pp7 p7 h7 hro7 q7 hrp7 b7 bb8 ho8 hp8 x0 x1 x2
    obtain ⟨x0, x1, x2, -⟩ := id pp8.reads
    obtain ⟨r2, hrr2⟩ := at_ex os (iOb p)
    have HR2 : Hid (At_ os (iOb p) r2) := hrr2
    clear hrr2
    go_wp2_with fail
    refine (implStorePut_any A1 c1 os A7 c7 p r2 w8 h8 hf hn hrp8 hfp HR2).mono ?_
    rintro e w9 ⟨v9, os3, b9, rfl, hp9, ho9, bb9⟩
    have HP3 : Hid (PutAll os p r2 os3 b9) := hp9
    obtain ⟨A9, c9, rfl, a9, hc9⟩ := ho9.form2
    have p9 := p8.below bb9 p8.lt
    have hro9 := (hro8.below bb9 (Nat.le_refl _)).more bb9.size
    have a8' := (a8.below bb9 (Nat.le_refl _)).more bb9.size
    have b9' := b8'.trans (bb9.mono b8'.size)
    clear pp8 p8 h8 hro8 hrp8 b8' bb9 ho9 hp9 x0 x1 x2 a8
    obtain ⟨y0, y1, y2, -⟩ := id p9.reads
    cases b8
    · go_wp2
      go_ret
      exact .mk_ b9'
    · cases b9
      · go_wp2
        go_ret
        exact .mk_ b9'
      · have hlen2 : os2.length ≤ os1.length + 1 := HP2.out.len
        have hlen3 : os3.length ≤ os.length + 1 := HP3.out.len
        have hn3 : os3.length ≤ maxLen := by unfold maxLen; omega
        have hn2 : os2.length ≤ 1048576 := by omega
        have hf3 : Fit os3 := fit_put HP3.out hf hfp
        have hf2 : Fit os2 := fit_put HP2.out hf1 hfp
        obtain ⟨r3, hrr3⟩ := at_ex os3 (iOb o)
        have HR3 : Hid (At_ os3 (iOb o) r3) := hrr3
        clear hrr3
        go_wp2_with fail
        refine (implStorePut_any A9 c9 os3 A2 c2 o r3 w9 a9 hf3 hn3 hro9 hfo HR3).mono ?_
        rintro e w10 ⟨v10, os4, b10, rfl, hp10, ho10, bb10⟩
        obtain ⟨rfl, rfl⟩ := PutAll.order HR.out HR1.out HR2.out HR3.out HP.out HP2.out HP3.out hp10
        obtain ⟨A10, c10, rfl, a10, hc10⟩ := ho10.form2
        have a8'' := (a8'.below bb10 (Nat.le_refl _)).more bb10.size
        have b10' := b9'.trans (bb10.mono b9'.size)
        clear a8' a9 p9 hro9 b9' bb10 ho10 hp10 y0 y1 y2
        go_wp2_with fail
        refine (sameObjects_same A10 A8 c10 c8 os4 w10 a10 a8'' hn2 hf2).mono ?_
        rintro e w11 ⟨rfl, bb11⟩
        go_wp2
        go_ret
        exact .mk_ (b10'.trans (bb11.mono b10'.size))
theorem FnStoreOrder_any (A : Option Addr) (c : Nat) (bs : List Int) (A' : Option Addr) (c' : Nat) (bs' : List Int) (w : World) (f1 : Row w w.heap.size A (bs.map (Value.int .u8))) (f2 : bs.length ≤ c) (f3 : c ≤ maxLen) (f4 : ∀ n ∈ bs, 0 ≤ n ∧ n < 256) (g1 : Row w w.heap.size A' (bs'.map (Value.int .u8))) (g2 : bs'.length ≤ c') (g3 : c' ≤ maxLen) (g4 : ∀ n ∈ bs', 0 ≤ n ∧ n < 256) :
    Calls Try.prog 5 #[.slice A bs.length c, .slice A' bs'.length c'] w (Ret (.bool true) w) := by
  by_cases hl : bs.length ≤ 1048576 ∧ bs'.length ≤ 1048576
  · exact FnStoreOrder_yes A c bs A' c' bs' w ⟨f1, f2, f3, f4⟩ ⟨g1, g2, g3, g4⟩ hl.1 hl.2
  · exact FnStoreOrder_no A c bs A' c' bs' w ⟨f1, f2, f3, f4⟩ ⟨g1, g2, g3, g4⟩ hl
end Go.Proofs.Ytkflpgdbookdhaa
