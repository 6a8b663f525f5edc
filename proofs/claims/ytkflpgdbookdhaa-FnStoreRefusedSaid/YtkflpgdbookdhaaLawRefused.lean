/-
  Walk of the law on refused puts.
-/
import Derived.Test.YtkflpgdbookdhaaSameB
namespace Go.Proofs.Ytkflpgdbookdhaa
open Go.RowKit Wo Pu

theorem FnStoreRefused_no (A : Option Addr) (c : Nat) (bs : List Int) (w : World) (h : Code_ w A c bs) (hl : ¬ bs.length ≤ 1048576) :
    Calls Try.prog 6 #[.slice A bs.length c] w (Ret (.bool true) w) := by
  have hc := h.2.1
  have hm := h.2.2.1
  unfold maxLen at hm
  go_enter Try.func6, Try.ntmps6
  go_wp2
  go_ret
  exact .mk_ (Below.refl _ _)
set_option maxHeartbeats 8000000 in
theorem FnStoreRefused_yes (A : Option Addr) (c : Nat) (bs : List Int) (w : World) (h : Code_ w A c bs) (hl : bs.length ≤ 1048576) :
    Calls Try.prog 6 #[.slice A bs.length c] w (Ret (.bool true) w) := by
  go_enter Try.func6, Try.ntmps6
  go_wp2_with fail
  refine (DrawStorePut_any A c bs _ h).mono ?_
  rintro e w1 ⟨A1, c1, os, A2, c2, o, rfl, h1, hc1, hl22, hv, hro1, hz, hs9, b1⟩
  unfold ob
  obtain ⟨r, hrr⟩ := at_ex os (iOb o)
  have HR : Hid (At_ os (iOb o) r) := hrr
  have hf := fit_of hv
  have HV := hid hv
  have hn : os.length ≤ maxLen := by unfold maxLen; omega
  have hfo : o.zs.length ≤ maxLen ∧ o.s.size ≤ maxLen := by unfold maxLen; omega
  clear hrr hv
  obtain ⟨p2, d2, z2⟩ := putOb_facts w1 o A2 c2
  have h2 := (h1.below d2 (Nat.le_refl _)).more d2.size
  have hro2 := (hro1.below d2 (Nat.le_refl _)).more d2.size
  have b2 := b1.trans (d2.mono b1.size)
  obtain ⟨y0, y1, y2, -⟩ := id p2.reads
  unfold putOb at y0 y1 y2
  clear d2 h1 hro1
  go_wp2_with fail
  refine (implStorePut_any A1 c1 os A2 c2 o r (putOb w1 o A2 c2) h2 hf hn hro2 hfo HR).mono ?_
  rintro e w3 ⟨v3, os1, b, rfl, hp3, ho3, bb3⟩
  obtain ⟨A3, c3, rfl, h3o, hc3⟩ := ho3.form2
  have p3 := p2.below bb3 p2.lt
  have h3 := (h2.below bb3 (Nat.le_refl _)).more bb3.size
  have hro3 := (hro2.below bb3 (Nat.le_refl _)).more bb3.size
  have b3 := b2.trans (bb3.mono b2.size)
  clear y0 y1 y2 p2 h2 hro2 bb3 ho3 b2 b1 z2
  obtain ⟨y0, y1, y2, -⟩ := id p3.reads
  go_wp2_with fail
  refine (specStorePut_any A1 c1 os A2 c2 o r w3 h3 hf hn hc1 hro3 hfo HR).mono ?_
  rintro e w4 ⟨v4, os1', b', rfl, hp4, ho4, bb4⟩
  obtain ⟨rfl, rfl⟩ := hp3.one hp4
  have HP : Hid (PutAll os o r os1 b) := hp3
  obtain ⟨A4, c4, rfl, h4o, hc4⟩ := ho4.form2
  have p4 := p3.below bb4 p3.lt
  have h4 := (h3.below bb4 (Nat.le_refl _)).more bb4.size
  have hro4 := (hro3.below bb4 (Nat.le_refl _)).more bb4.size
  have q4 := (h3o.below bb4 (Nat.le_refl _)).more bb4.size
  have b4 := b3.trans (bb4.mono b3.size)
  have hlen1 : os1.length ≤ os.length + 1 := HP.out.len
  have hn1 : os1.length ≤ maxLen := by unfold maxLen; omega
  have hn1' : os1.length ≤ 1048576 := by omega
  have hf1 : Fit os1 := fun x hx => by
    rcases HP.out.mem x hx with e | e
    · exact hf x e
    · rw [e]; exact hfo
  clear y0 y1 y2 p3 h3 hro3 bb4 ho4 b3 h3o hp3 hp4
  go_wp2_with fail
  refine (sameObjects_same A3 A4 c3 c4 os1 w4 q4 h4o hn1' hf1).mono ?_
  rintro e w5 ⟨rfl, bb5⟩
  have p5 := p4.below bb5 p4.lt
  have h5 := (h4.below bb5 (Nat.le_refl _)).more bb5.size
  have hro5 := (hro4.below bb5 (Nat.le_refl _)).more bb5.size
  have q5 := (q4.below bb5 (Nat.le_refl _)).more bb5.size
  have s5 := (h4o.below bb5 (Nat.le_refl _)).more bb5.size
  have b5 := b4.trans (bb5.mono b4.size)
  clear p4 h4 hro4 q4 h4o bb5 b4
  obtain ⟨y0, y1, y2, -⟩ := id p5.reads
  cases b
  · cases hst : storeB os
    · go_wp2_with fail
      refine (specStoreValid_any A1 c1 os w5 h5 hf hn).mono ?_
      rintro e w6 ⟨rfl, bb6⟩
      rw [hst]
      have q6 := (q5.below bb6 (Nat.le_refl _)).more bb6.size
      have s6 := (s5.below bb6 (Nat.le_refl _)).more bb6.size
      have b6 := b5.trans (bb6.mono b5.size)
      clear p5 h5 hro5 q5 s5 b5 bb6 y0 y1 y2
      go_wp2_with fail
      refine (sameObjects_same A3 A4 c3 c4 os1 w6 q6 s6 hn1' hf1).mono ?_
      rintro e w7 ⟨rfl, bb7⟩
      go_wp2
      go_ret
      exact .mk_ (b6.trans (bb7.mono b6.size))
    · cases hvo : vOb o
      · go_wp2_with fail
        refine (specStoreValid_any A1 c1 os w5 h5 hf hn).mono ?_
        rintro e w6 ⟨rfl, bb6⟩
        rw [hst]
        have p6 := p5.below bb6 p5.lt
        have hro6 := (hro5.below bb6 (Nat.le_refl _)).more bb6.size
        have q6 := (q5.below bb6 (Nat.le_refl _)).more bb6.size
        have s6 := (s5.below bb6 (Nat.le_refl _)).more bb6.size
        have b6 := b5.trans (bb6.mono b5.size)
        clear p5 h5 hro5 q5 s5 b5 bb6 y0 y1 y2
        obtain ⟨y0, y1, y2, -⟩ := id p6.reads
        go_wp2_with fail
        refine (specValid_val false _ A2 c2 o.kd o.zs o.s w6 hvo hro6 (Nat.le_refl _) hfo.1 hfo.2).mono ?_
        rintro e w7 ⟨rfl, bb7⟩
        have q7 := (q6.below bb7 (Nat.le_refl _)).more bb7.size
        have s7 := (s6.below bb7 (Nat.le_refl _)).more bb7.size
        have b7 := b6.trans (bb7.mono b6.size)
        clear p6 hro6 q6 s6 b6 bb7 y0 y1 y2
        go_wp2_with fail
        refine (sameObjects_same A3 A4 c3 c4 os1 w7 q7 s7 hn1' hf1).mono ?_
        rintro e w8 ⟨rfl, bb8⟩
        go_wp2
        go_ret
        exact .mk_ (b7.trans (bb8.mono b7.size))
      · have HI : Hid (PutIs os o r os1 false) := HP.out.1 hst hvo
        have H16 : Hid (os.length ≤ 16) := (storeB_parts hst).2
        have HST := hid hst
        go_wp2_with fail
        refine (specStoreValid_any A1 c1 os w5 h5 hf hn).mono ?_
        rintro e w6 ⟨rfl, bb6⟩
        rw [hst]
        have p6 := p5.below bb6 p5.lt
        have h6 := (h5.below bb6 (Nat.le_refl _)).more bb6.size
        have hro6 := (hro5.below bb6 (Nat.le_refl _)).more bb6.size
        have q6 := (q5.below bb6 (Nat.le_refl _)).more bb6.size
        have b6 := b5.trans (bb6.mono b5.size)
        clear p5 h5 hro5 q5 s5 b5 bb6 y0 y1 y2 hst
        obtain ⟨y0, y1, y2, -⟩ := id p6.reads
        go_wp2_with fail
        refine (specValid_val true _ A2 c2 o.kd o.zs o.s w6 hvo hro6 (Nat.le_refl _) hfo.1 hfo.2).mono ?_
        rintro e w7 ⟨rfl, bb7⟩
        have p7 := p6.below bb7 p6.lt
        have h7 := (h6.below bb7 (Nat.le_refl _)).more bb7.size
        have hro7 := (hro6.below bb7 (Nat.le_refl _)).more bb7.size
        have q7 := (q6.below bb7 (Nat.le_refl _)).more bb7.size
        have b7 := b6.trans (bb7.mono b6.size)
        clear p6 h6 hro6 q6 b6 bb7 y0 y1 y2 hvo
        obtain ⟨y0, y1, y2, -⟩ := id p7.reads
        go_wp2_with fail
        refine (implObjectId_val (iOb o) _ A2 c2 o w7 hro7 (Nat.le_refl _) hfo.1 hfo.2 rfl).mono ?_
        rintro e w8 ⟨rfl, bb8⟩
        have p8 := p7.below bb8 p7.lt
        have h8 := (h7.below bb8 (Nat.le_refl _)).more bb8.size
        have hro8 := (hro7.below bb8 (Nat.le_refl _)).more bb8.size
        have q8 := (q7.below bb8 (Nat.le_refl _)).more bb8.size
        have b8 := b7.trans (bb8.mono b7.size)
        clear p7 h7 hro7 q7 b7 bb8 y0 y1 y2
        go_wp2_with fail
        refine (implStoreGet_Any A1 c1 os (iOb o) r w8 h8 hf hn HR).mono ?_
        rintro e w9 hG
        have HO : Hid (((fndO os (iOb o) r).getD ob0) = ((fndO os (iOb o) r).getD ob0)) := rfl
        obtain ⟨A5, c5, rfl, o9, bb9⟩ := hG
        have hB1 : (fndO os (iOb o) r).isSome = true → SameOb ((fndO os (iOb o) r).getD ob0) o → False := fun hx hy => by
          by_cases hex : ∃ h : r < os.length, iOb os[r] = iOb o
          · obtain ⟨g1, g2⟩ := hex
            rw [fnd_b HST.out g1 g2] at hy
            have := (HI.out.1 g1 g2).2.2 hy
            cases this
          · rw [fnd_c hex] at hx; cases hx
        have hB2 : (fndO os (iOb o) r).isSome = false → (os.length : Int) = 16 := fun hx => by
          by_cases hex : ∃ h : r < os.length, iOb os[r] = iOb o
          · obtain ⟨g1, g2⟩ := hex
            rw [fnd_b HST.out g1 g2] at hx; cases hx
          · by_cases h6 : 16 ≤ os.length
            · have := H16.out; omega
            · have := (HI.out.2.2 hex (by omega)).2; cases this
        have hos : os1 = os := by
          by_cases hex : ∃ h : r < os.length, iOb os[r] = iOb o
          · obtain ⟨g1, g2⟩ := hex
            exact (HI.out.1 g1 g2).1
          · by_cases h6 : 16 ≤ os.length
            · exact (HI.out.2.1 hex h6).1
            · have := (HI.out.2.2 hex (by omega)).2; cases this
        have hlx : ((fndO os (iOb o) r).getD ob0).zs.length ≤ 1048576 := fnd_len (fun p hp => links_few (HV.out p hp))
        clear HP HI HO
        subst hos
        generalize (fndO os1 (iOb o) r).getD ob0 = x at *
        generalize (fndO os1 (iOb o) r).isSome = fb at *
        have HB1 := hid hB1
        have HB2 := hid hB2
        clear hB1 hB2
        have p9 := p8.below bb9 p8.lt
        have h9 := (h8.below bb9 (Nat.le_refl _)).more bb9.size
        have hro9 := (hro8.below bb9 (Nat.le_refl _)).more bb9.size
        have q9 := (q8.below bb9 (Nat.le_refl _)).more bb9.size
        have b9 := b8.trans (bb9.mono b8.size)
        have rx9 : Row w9 w9.heap.size A5 (ints x.zs) := o9.row
        clear p8 h8 hro8 q8 b8 bb9 o9
        unfold ob
        obtain ⟨px, d, z⟩ := putOb_facts w9 x A5 c5
        have p10 := p9.below d p9.lt
        have h10 := (h9.below d (Nat.le_refl _)).more d.size
        have hro10 := (hro9.below d (Nat.le_refl _)).more d.size
        have q10 := (q9.below d (Nat.le_refl _)).more d.size
        have rx10 := (rx9.below d (Nat.le_refl _)).more d.size
        have b10 := b9.trans (d.mono b9.size)
        clear p9 h9 hro9 q9 rx9 d z b9
        obtain ⟨y0, y1, y2, -⟩ := id p10.reads
        obtain ⟨x0, x1, x2, -⟩ := id px.reads
        unfold putOb at y0 y1 y2 x0 x1 x2
        go_wp2_with fail
        refine (sameObjects_same A3 A1 c3 c1 os1 (putOb w9 x A5 c5) q10 h10 hn1' hf1).mono ?_
        rintro e w11 ⟨rfl, bb11⟩
        have p11 := p10.below bb11 p10.lt
        have px11 := px.below bb11 px.lt
        have hro11 := (hro10.below bb11 (Nat.le_refl _)).more bb11.size
        have rx11 := (rx10.below bb11 (Nat.le_refl _)).more bb11.size
        have b11 := b10.trans (bb11.mono b10.size)
        clear p10 px h10 hro10 q10 rx10 bb11 b10 x0 x1 x2 y0 y1 y2
        obtain ⟨y0, y1, y2, -⟩ := id p11.reads
        obtain ⟨x0, x1, x2, -⟩ := id px11.reads
        cases fb
        · have e16 := HB2.out rfl
          go_wp2
          go_ret
          exact .mk_ b11
        · have HF : Hid ((false : Bool) = true ↔ SameOb x o) := ⟨fun e => (nomatch e), fun e => (HB1.out rfl e).elim⟩
          go_wp2_with fail
          refine (sameObs_any _ _ A5 A2 c5 c2 x o w11 rx11 hro11 (Nat.le_refl _) (Nat.le_refl _) hlx false HF).mono ?_
          rintro e w12 ⟨rfl, bb12⟩
          go_wp2
          go_ret
          exact .mk_ (b11.trans (bb12.mono b11.size))
  · skip
    go_wp2_with fail
    refine (sameObjects_same A3 A4 c3 c4 os1 w5 q5 s5 hn1' hf1).mono ?_
    rintro e w6 ⟨rfl, bb6⟩
    go_wp2
    go_ret
    exact .mk_ (b5.trans (bb6.mono b5.size))
theorem FnStoreRefused_any (A : Option Addr) (c : Nat) (bs : List Int) (w : World) (f1 : Row w w.heap.size A (bs.map (Value.int .u8))) (f2 : bs.length ≤ c) (f3 : c ≤ maxLen) (f4 : ∀ n ∈ bs, 0 ≤ n ∧ n < 256) :
    Calls Try.prog 6 #[.slice A bs.length c] w (Ret (.bool true) w) := by
  by_cases hl : bs.length ≤ 1048576
  · exact FnStoreRefused_yes A c bs w ⟨f1, f2, f3, f4⟩ hl
  · exact FnStoreRefused_no A c bs w ⟨f1, f2, f3, f4⟩ hl
end Go.Proofs.Ytkflpgdbookdhaa
