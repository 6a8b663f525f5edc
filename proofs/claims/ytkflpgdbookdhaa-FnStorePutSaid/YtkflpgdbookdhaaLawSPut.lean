/-
  Walk of the law on what a put gives.
-/
import Derived.Test.YtkflpgdbookdhaaSameB
namespace Go.Proofs.Ytkflpgdbookdhaa
open Go.RowKit Wo Pu

theorem FnStorePut_no (A : Option Addr) (c : Nat) (bs : List Int) (w : World) (h : Code_ w A c bs) (hl : ¬ bs.length ≤ 1048576) :
    Calls Try.prog 3 #[.slice A bs.length c] w (Ret (.bool true) w) := by
  have hc := h.2.1
  have hm := h.2.2.1
  unfold maxLen at hm
  go_enter Try.func3, Try.ntmps3
  go_wp2
  go_ret
  exact .mk_ (Below.refl _ _)
set_option maxHeartbeats 8000000 in
theorem FnStorePut_yes (A : Option Addr) (c : Nat) (bs : List Int) (w : World) (h : Code_ w A c bs) (hl : bs.length ≤ 1048576) :
    Calls Try.prog 3 #[.slice A bs.length c] w (Ret (.bool true) w) := by
  go_enter Try.func3, Try.ntmps3
  go_wp2_with fail
  refine (DrawStorePut_any A c bs _ h).mono ?_
  rintro e w1 ⟨A1, c1, os, A2, c2, o, rfl, h1, hc1, hl22, hv, hro1, hz, hs9, b1⟩
  unfold ob
  obtain ⟨r, hrr⟩ := at_ex os (iOb o)
  have HR : Hid (At_ os (iOb o) r) := hrr
  have hf := fit_of hv
  have HV := hid hv
  have hn : os.length ≤ maxLen := by unfold maxLen; omega
  have hfo : o.zs.length ≤ maxLen ∧ o.s.size ≤ maxLen := by unfold maxLen; omega
  clear hrr hv
  obtain ⟨p2, d2, z2⟩ := putOb_facts w1 o A2 c2
  have h2 := (h1.below d2 (Nat.le_refl _)).more d2.size
  have hro2 := (hro1.below d2 (Nat.le_refl _)).more d2.size
  have b2 := b1.trans (d2.mono b1.size)
  obtain ⟨y0, y1, y2, -⟩ := id p2.reads
  unfold putOb at y0 y1 y2
  clear d2 h1 hro1
  go_wp2_with fail
  refine (implStorePut_any A1 c1 os A2 c2 o r (putOb w1 o A2 c2) h2 hf hn hro2 hfo HR).mono ?_
  rintro e w3 ⟨v3, os1, b, rfl, hp3, ho3, bb3⟩
  obtain ⟨A3, c3, rfl, h3o, hc3⟩ := ho3.form2
  have p3 := p2.below bb3 p2.lt
  have h3 := (h2.below bb3 (Nat.le_refl _)).more bb3.size
  have hro3 := (hro2.below bb3 (Nat.le_refl _)).more bb3.size
  have b3 := b2.trans (bb3.mono b2.size)
  clear y0 y1 y2 p2 h2 hro2 bb3 ho3 b2 b1 z2
  obtain ⟨y0, y1, y2, -⟩ := id p3.reads
  go_wp2_with fail
  refine (specStorePut_any A1 c1 os A2 c2 o r w3 h3 hf hn hc1 hro3 hfo HR).mono ?_
  rintro e w4 ⟨v4, os1', b', rfl, hp4, ho4, bb4⟩
  obtain ⟨rfl, rfl⟩ := hp3.one hp4
  have HP : Hid (PutAll os o r os1 b) := hp3
  obtain ⟨A4, c4, rfl, h4o, hc4⟩ := ho4.form2
  have p4 := p3.below bb4 p3.lt
  have h4 := (h3.below bb4 (Nat.le_refl _)).more bb4.size
  have hro4 := (hro3.below bb4 (Nat.le_refl _)).more bb4.size
  have q4 := (h3o.below bb4 (Nat.le_refl _)).more bb4.size
  have b4 := b3.trans (bb4.mono b3.size)
  have hlen1 : os1.length ≤ os.length + 1 := HP.out.len
  have hn1 : os1.length ≤ maxLen := by unfold maxLen; omega
  have hn1' : os1.length ≤ 1048576 := by omega
  have hf1 : Fit os1 := fun x hx => by
    rcases HP.out.mem x hx with e | e
    · exact hf x e
    · rw [e]; exact hfo
  clear y0 y1 y2 p3 h3 hro3 bb4 ho4 b3 h3o hp3 hp4
  go_wp2_with fail
  refine (sameObjects_same A3 A4 c3 c4 os1 w4 q4 h4o hn1' hf1).mono ?_
  rintro e w5 ⟨rfl, bb5⟩
  have p5 := p4.below bb5 p4.lt
  have h5 := (h4.below bb5 (Nat.le_refl _)).more bb5.size
  have hro5 := (hro4.below bb5 (Nat.le_refl _)).more bb5.size
  have q5 := (q4.below bb5 (Nat.le_refl _)).more bb5.size
  have s5 := (h4o.below bb5 (Nat.le_refl _)).more bb5.size
  have b5 := b4.trans (bb5.mono b4.size)
  clear p4 h4 hro4 q4 h4o bb5 b4
  obtain ⟨y0, y1, y2, -⟩ := id p5.reads
  cases b
  · skip
    go_wp2_with fail
    refine (sameObjects_same A3 A4 c3 c4 os1 w5 q5 s5 hn1' hf1).mono ?_
    rintro e w6 ⟨rfl, bb6⟩
    go_wp2
    go_ret
    exact .mk_ (b5.trans (bb6.mono b5.size))
  · have HA : Hid (storeB os1 = true ∧ At_ os1 (iOb o) r ∧ (∀ x, x ∈ os1 ↔ x ∈ os ∨ x = o)) := by
      obtain ⟨hs, hvo, hp⟩ := HP.out.true_
      obtain ⟨a1, a2, a3, a4, _, _⟩ := hp.true_ hs hvo HR.out
      exact ⟨a1, a3, a4⟩
    have hlo : o.zs.length ≤ 1048576 := by
      obtain ⟨hs, hvo, hp⟩ := HP.out.true_
      exact links_few hvo
    go_wp2_with fail
    refine (implObjectId_val (iOb o) _ A2 c2 o w5 hro5 (Nat.le_refl _) hfo.1 hfo.2 rfl).mono ?_
    rintro e w6 ⟨rfl, bb6⟩
    have p6 := p5.below bb6 p5.lt
    have h6 := (h5.below bb6 (Nat.le_refl _)).more bb6.size
    have hro6 := (hro5.below bb6 (Nat.le_refl _)).more bb6.size
    have q6 := (q5.below bb6 (Nat.le_refl _)).more bb6.size
    have b6 := b5.trans (bb6.mono b5.size)
    clear p5 h5 hro5 q5 s5 b5 bb6 y0 y1 y2
    have HR1 : Hid (At_ os1 (iOb o) r) := HA.out.2.1
    have hGet := implStoreGet_Any A3 c3 os1 (iOb o) r w6 q6 hf1 hn1 HR1
    rw [fnd_mem HA.out.1 ((HA.out.2.2 o).2 (.inr rfl)) HA.out.2.1] at hGet
    go_wp2_with fail
    refine hGet.mono ?_
    clear hGet
    rintro e w7 hG
    obtain ⟨A5, c5, rfl, o7, bb7⟩ := Got.of_ (o := o) (b := true) hG rfl rfl
    have p7 := p6.below bb7 p6.lt
    have h7 := (h6.below bb7 (Nat.le_refl _)).more bb7.size
    have hro7 := (hro6.below bb7 (Nat.le_refl _)).more bb7.size
    have q7 := (q6.below bb7 (Nat.le_refl _)).more bb7.size
    have rx7 : Row w7 w7.heap.size A5 (ints o.zs) := o7.row
    have b7 := b6.trans (bb7.mono b6.size)
    clear p6 h6 hro6 q6 b6 bb7 o7 hG
    unfold ob
    obtain ⟨px, d, z⟩ := putOb_facts w7 o A5 c5
    have p8 := p7.below d p7.lt
    have h8 := (h7.below d (Nat.le_refl _)).more d.size
    have hro8 := (hro7.below d (Nat.le_refl _)).more d.size
    have q8 := (q7.below d (Nat.le_refl _)).more d.size
    have rx8 := (rx7.below d (Nat.le_refl _)).more d.size
    have b8 := b7.trans (d.mono b7.size)
    clear p7 h7 hro7 q7 rx7 d z b7
    go_wp2_with fail
    go_loopw [11] (fun i wr => ∃ k : Nat, k ≤ os.length ∧ i = .int .i64 k ∧ Below (putOb w7 o A5 c5).heap.size (putOb w7 o A5 c5) wr) (fun i _ => os.length - (intOf i).toNat)
    case atStart => exact ⟨0, Nat.zero_le _, rfl, Below.refl _ _⟩
    case round =>
      obtain ⟨k, hk, rfl, hb⟩ := hrel
      have p9 := p8.below hb p8.lt
      have px9 := px.below hb px.lt
      have h9 := (h8.below hb (Nat.le_refl _)).more hb.size
      have hro9 := (hro8.below hb (Nat.le_refl _)).more hb.size
      have q9 := (q8.below hb (Nat.le_refl _)).more hb.size
      have rx9 := (rx8.below hb (Nat.le_refl _)).more hb.size
      have b9 := b8.trans (hb.mono b8.size)
      by_cases hlt : k < os.length
      · obtain ⟨o2, ad, A', c', ho, rfl, ha, g0, g1, g2, g3⟩ := h9.obj hlt
        have hfo2 := hf _ (List.getElem_mem hlt)
        have few2 := links_few (HV.out _ (List.getElem_mem hlt))
        rw [ho] at hfo2 few2
        obtain ⟨r2, hr2⟩ := at_ex os1 (iOb o2)
        have HR2 : Hid (At_ os1 (iOb o2) r2) := hr2
        have HF2 : Hid (fndO os1 (iOb o2) r2 = some o2) := fnd_mem HA.out.1 ((HA.out.2.2 o2).2 (.inl (by rw [← ho]; exact List.getElem_mem hlt))) hr2
        have k0 : 0 ≤ (k : Int) := by omega
        have k1 : (k : Int) < (os.length : Int) := by omega
        clear hr2 rx9 px9 p9 hro9
        have HO2 := hid ho
        clear ho
        go_wp2_with fail
        refine (implObjectId_val (iOb o2) _ A' c' o2 wr g3 (Nat.le_refl _) hfo2.1 hfo2.2 rfl).mono ?_
        rintro e w10 ⟨rfl, bb10⟩
        have h10 := (h9.below bb10 (Nat.le_refl _)).more bb10.size
        have q10 := (q9.below bb10 (Nat.le_refl _)).more bb10.size
        have hbA := hb.trans (bb10.mono hb.size)
        clear g0 g1 g2 g3 ha h9 q9 bb10 b9 hb
        have hGet := implStoreGet_Any A3 c3 os1 (iOb o2) r2 w10 q10 hf1 hn1 HR2
        rw [HF2.out] at hGet
        go_wp2_with fail
        refine hGet.mono ?_
        clear hGet
        rintro e w11 hG
        obtain ⟨A6, c6, rfl, o11, bb11⟩ := Got.of_ (o := o2) (b := true) hG rfl rfl
        have h11 := (h10.below bb11 (Nat.le_refl _)).more bb11.size
        have ry11 : Row w11 w11.heap.size A6 (ints o2.zs) := o11.row
        have hbB := hbA.trans (bb11.mono hbA.size)
        clear h10 q10 bb11 hbA o11 hG
        unfold ob
        obtain ⟨py, dy, zy⟩ := putOb_facts w11 o2 A6 c6
        unfold putOb at py dy zy
        go_wp2_with fail
        generalize w11.alloc (.cells #[.int .i64 o2.kd, .slice A6 o2.zs.length c6, .string o2.s] 26) = W at *
        have h12 := (h11.below dy (Nat.le_refl _)).more dy.size
        have ry12 := (ry11.below dy (Nat.le_refl _)).more dy.size
        have hbC := hbB.trans (dy.mono hbB.size)
        clear h11 ry11 dy zy hbB
        obtain ⟨o3, ad3, A7, c7, ho3, he3, ha3, g0, g1, g2, g3⟩ := h12.obj hlt
        cases he3
        obtain rfl : o2 = o3 := by rw [← HO2.out, ← ho3]
        obtain ⟨x0, x1, x2, -⟩ := id py.reads
        have G0 := Later.cell g0 ha3
        have G1 := Later.cell (p := ⟨(ad.add (k * 3)).block, (ad.add (k * 3)).off + 1, none⟩) g1 ha3
        have G2 := Later.cell (p := ⟨(ad.add (k * 3)).block, (ad.add (k * 3)).off + 2, none⟩) g2 ha3
        have G3 := Later.cell (p := ⟨w11.heap.size, 0, none⟩) x0 py.lt
        have G4 := Later.cell (p := ⟨w11.heap.size, 1, none⟩) x1 py.lt
        have G5 := Later.cell (p := ⟨w11.heap.size, 2, none⟩) x2 py.lt
        have hmk : o2.zs.length ≤ maxLen := hfo2.1
        clear ho3 g0 g1 g2 x0 x1 x2
        refine wp_region_later W.heap.size (by kernel_rfl) (by kernel_rfl) ?_
        repeat (go_big_quiet_step ((go_at_call 23; exact Later.call (Nat.le_refl _) _ (sameOb_same A6 A7 c6 c7 o2 _ W.heap.size (ry12.later _) (g3.later _) (Later.size (Nat.le_refl _) _) hmk))))
        refine wpQuiet_nil ?_
        intro _ hw'
        obtain ⟨xx, hxx⟩ := hw'
        have hbx := xx.b
        subst hxx
        go_wp2
        go_roundw
        case rel => exact ⟨k + 1, by omega, by go_num, hbC.trans (hbx.mono hbC.size)⟩
        case measure => simp [intOf]; omega
      · have hk' : k = os.length := by omega
        subst hk'
        obtain ⟨y0, y1, y2, -⟩ := id p9.reads
        obtain ⟨x0, x1, x2, -⟩ := id px9.reads
        clear h9
        go_wp2_with fail
        refine (sameOb_same A5 A2 c5 c2 o wr wr.heap.size rx9 hro9 (Nat.le_refl _) hfo.1).mono ?_
        rintro e w10 ⟨rfl, bb10⟩
        have q10 := (q9.below bb10 (Nat.le_refl _)).more bb10.size
        have b10 := b9.trans (bb10.mono b9.size)
        clear p9 px9 hro9 rx9 q9 bb10 b9 hb x0 x1 x2 y0 y1 y2
        go_wp2_with fail
        refine (implStoreValid_any A3 c3 os1 w10 q10 hf1 hn1).mono ?_
        rintro e w11 ⟨rfl, bb11⟩
        rw [HA.out.1]
        have hle : (os1.length : Int) ≤ (os.length : Int) + 1 := by omega
        have b11 := b10.trans (bb11.mono b10.size)
        go_wp2
        go_ret
        exact .mk_ b11
theorem FnStorePut_any (A : Option Addr) (c : Nat) (bs : List Int) (w : World) (f1 : Row w w.heap.size A (bs.map (Value.int .u8))) (f2 : bs.length ≤ c) (f3 : c ≤ maxLen) (f4 : ∀ n ∈ bs, 0 ≤ n ∧ n < 256) :
    Calls Try.prog 3 #[.slice A bs.length c] w (Ret (.bool true) w) := by
  by_cases hl : bs.length ≤ 1048576
  · exact FnStorePut_yes A c bs w ⟨f1, f2, f3, f4⟩ hl
  · exact FnStorePut_no A c bs w ⟨f1, f2, f3, f4⟩ hl
end Go.Proofs.Ytkflpgdbookdhaa
