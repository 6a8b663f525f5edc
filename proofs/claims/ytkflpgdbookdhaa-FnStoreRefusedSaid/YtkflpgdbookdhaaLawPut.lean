/-
  Walks of the laws on StorePut.
-/
import Derived.Test.YtkflpgdbookdhaaPutI
import Derived.Test.YtkflpgdbookdhaaPutP
import Derived.Test.YtkflpgdbookdhaaDrawPutA
import Derived.Test.YtkflpgdbookdhaaLawSGet
namespace Go.Proofs.Ytkflpgdbookdhaa
open Go.RowKit Wo Pu

theorem sameOb_same (A A2 : Option Addr) (c c2 : Nat) (o : Ob) (w : World) (B : Nat) (hr : Row w B A (ints o.zs)) (hr' : Row w B A2 (ints o.zs)) (hB : B ≤ w.heap.size) (hm : o.zs.length ≤ maxLen) :
    Calls Try.prog 23 #[ob o.kd A o.zs.length c o.s, ob o.kd A2 o.zs.length c2 o.s] w (Ret (.bool true) w) := sameObject_same B B A A2 c c2 o.kd o.zs o.s w hr hr' hB hB hm

set_option maxHeartbeats 2000000 in
theorem sameObjects_same (A A2 : Option Addr) (c c2 : Nat) (os : List Ob) (w : World) (h : Objs w w.heap.size A os) (h2 : Objs w w.heap.size A2 os) (hn : os.length ≤ 1048576) (hf : Fit os) :
    Calls Try.prog 20 #[.slice A os.length c, .slice A2 os.length c2] w (Ret (.bool true) w) := by
  go_enter Try.func20, Try.ntmps20
  go_wp2
  go_loopw [5] (fun i wr => ∃ k : Nat, k ≤ os.length ∧ i = .int .i64 k ∧ Below w.heap.size w wr) (fun i _ => os.length - (intOf i).toNat)
  case atStart => exact ⟨0, Nat.zero_le _, rfl, Below.refl _ _⟩
  case round =>
    obtain ⟨k, hk, rfl, hb⟩ := hrel
    by_cases hlt : k < os.length
    · obtain ⟨o, ad, A', c', ho, rfl, ha1, g0, g1, g2, g3⟩ := (h.below hb (Nat.le_refl _)).obj hlt
      obtain ⟨o2, ad2, A2', c2', ho2, rfl, ha2, g20, g21, g22, g23⟩ := (h2.below hb (Nat.le_refl _)).obj hlt
      obtain rfl : o = o2 := by rw [← ho, ← ho2]
      have hmk : o.zs.length ≤ maxLen := by rw [← ho]; exact (hf _ (List.getElem_mem hlt)).1
      have k0 : 0 ≤ (k : Int) := by omega
      have k1 : (k : Int) < (os.length : Int) := by omega
      have hz := hb.size
      have G0 := Later.cell g0 ha1
      have G1 := Later.cell (p := ⟨(ad.add (k * 3)).block, (ad.add (k * 3)).off + 1, none⟩) g1 ha1
      have G2 := Later.cell (p := ⟨(ad.add (k * 3)).block, (ad.add (k * 3)).off + 2, none⟩) g2 ha1
      have G3 := Later.cell g20 ha2
      have G4 := Later.cell (p := ⟨(ad2.add (k * 3)).block, (ad2.add (k * 3)).off + 1, none⟩) g21 ha2
      have G5 := Later.cell (p := ⟨(ad2.add (k * 3)).block, (ad2.add (k * 3)).off + 2, none⟩) g22 ha2
      clear ho ho2 g0 g1 g2 g20 g21 g22
      go_wp2_with fail
      refine wp_region_later w.heap.size (by kernel_rfl) (by kernel_rfl) ?_
      repeat (go_big_quiet_step ((go_at_call 23; exact Later.call hz _ (sameOb_same A' A2' c' c2' o _ w.heap.size (g3.later _) (g23.later _) (Later.size hz _) hmk))))
      refine wpQuiet_nil ?_
      intro _ hw'
      obtain ⟨xx, hxx⟩ := hw'
      have hbx := xx.b
      subst hxx
      go_wp2
      go_roundw
      case rel => exact ⟨k + 1, by omega, by go_num, hb.trans hbx⟩
      case measure => simp [intOf]; omega
    · have hk' : k = os.length := by omega
      subst hk'
      go_wp2
      go_ret
      exact .mk_ hb

theorem PutAll.len {os : List Ob} {o : Ob} {r : Nat} {os1 : List Ob} {b : Bool} (h : PutAll os o r os1 b) : os1.length ≤ os.length + 1 := by
  cases hs : storeB os
  · rw [(h.2 (.inl hs)).1]; simp
  · cases hv : vOb o
    · rw [(h.2 (.inr hv)).1]; simp
    · exact ((h.1 hs hv).len).1
theorem PutAll.mem {os : List Ob} {o : Ob} {r : Nat} {os1 : List Ob} {b : Bool} (h : PutAll os o r os1 b) : ∀ x ∈ os1, x ∈ os ∨ x = o := by
  cases hs : storeB os
  · rw [(h.2 (.inl hs)).1]; intro x hx; cases hx
  · cases hv : vOb o
    · rw [(h.2 (.inr hv)).1]; intro x hx; cases hx
    · exact ((h.1 hs hv).len).2

theorem FnStoreTwice_no (A : Option Addr) (c : Nat) (bs : List Int) (w : World) (h : Code_ w A c bs) (hl : ¬ bs.length ≤ 1048576) :
    Calls Try.prog 4 #[.slice A bs.length c] w (Ret (.bool true) w) := by
  have hc := h.2.1
  have hm := h.2.2.1
  unfold maxLen at hm
  go_enter Try.func4, Try.ntmps4
  go_wp2
  go_ret
  exact .mk_ (Below.refl _ _)
set_option maxHeartbeats 4000000 in
theorem FnStoreTwice_yes (A : Option Addr) (c : Nat) (bs : List Int) (w : World) (h : Code_ w A c bs) (hl : bs.length ≤ 1048576) :
    Calls Try.prog 4 #[.slice A bs.length c] w (Ret (.bool true) w) := by
  go_enter Try.func4, Try.ntmps4
  go_wp2_with fail
  refine (DrawStorePut_any A c bs _ h).mono ?_
  rintro e w1 ⟨A1, c1, os, A2, c2, o, rfl, h1, hc1, hl22, hv, hro1, hz, hs9, b1⟩
  unfold ob
  obtain ⟨r, hrr⟩ := at_ex os (iOb o)
  have HR : Hid (At_ os (iOb o) r) := hrr
  have hf := fit_of hv
  have HV := hid hv
  have hn : os.length ≤ maxLen := by unfold maxLen; omega
  have hfo : o.zs.length ≤ maxLen ∧ o.s.size ≤ maxLen := by unfold maxLen; omega
  clear hrr hv
  obtain ⟨p2, d2, z2⟩ := putOb_facts w1 o A2 c2
  have h2 := (h1.below d2 (Nat.le_refl _)).more d2.size
  have hro2 := (hro1.below d2 (Nat.le_refl _)).more d2.size
  have b2 := b1.trans (d2.mono b1.size)
  obtain ⟨y0, y1, y2, -⟩ := id p2.reads
  unfold putOb at y0 y1 y2
  clear d2 h1 hro1
  go_wp2_with fail
  refine (implStorePut_any A1 c1 os A2 c2 o r (putOb w1 o A2 c2) h2 hf hn hro2 hfo HR).mono ?_
  rintro e w3 ⟨v3, os1, b, rfl, hp3, ho3, bb3⟩
  obtain ⟨A3, c3, rfl, h3o, hc3⟩ := ho3.form2
  have p3 := p2.below bb3 p2.lt
  have h3 := (h2.below bb3 (Nat.le_refl _)).more bb3.size
  have hro3 := (hro2.below bb3 (Nat.le_refl _)).more bb3.size
  have b3 := b2.trans (bb3.mono b2.size)
  clear y0 y1 y2 p2 h2 hro2 bb3 ho3 b2 b1 z2
  obtain ⟨y0, y1, y2, -⟩ := id p3.reads
  go_wp2_with fail
  refine (specStorePut_any A1 c1 os A2 c2 o r w3 h3 hf hn hc1 hro3 hfo HR).mono ?_
  rintro e w4 ⟨v4, os1', b', rfl, hp4, ho4, bb4⟩
  obtain ⟨rfl, rfl⟩ := hp3.one hp4
  have HP : Hid (PutAll os o r os1 b) := hp3
  obtain ⟨A4, c4, rfl, h4o, hc4⟩ := ho4.form2
  have p4 := p3.below bb4 p3.lt
  have h4 := (h3.below bb4 (Nat.le_refl _)).more bb4.size
  have hro4 := (hro3.below bb4 (Nat.le_refl _)).more bb4.size
  have q4 := (h3o.below bb4 (Nat.le_refl _)).more bb4.size
  have b4 := b3.trans (bb4.mono b3.size)
  have hlen1 : os1.length ≤ os.length + 1 := HP.out.len
  have hn1 : os1.length ≤ maxLen := by unfold maxLen; omega
  have hn1' : os1.length ≤ 1048576 := by omega
  have hf1 : Fit os1 := fun x hx => by
    rcases HP.out.mem x hx with e | e
    · exact hf x e
    · rw [e]; exact hfo
  clear y0 y1 y2 p3 h3 hro3 bb4 ho4 b3 h3o hp3 hp4
  go_wp2_with fail
  refine (sameObjects_same A3 A4 c3 c4 os1 w4 q4 h4o hn1' hf1).mono ?_
  rintro e w5 ⟨rfl, bb5⟩
  have p5 := p4.below bb5 p4.lt
  have h5 := (h4.below bb5 (Nat.le_refl _)).more bb5.size
  have hro5 := (hro4.below bb5 (Nat.le_refl _)).more bb5.size
  have q5 := (q4.below bb5 (Nat.le_refl _)).more bb5.size
  have s5 := (h4o.below bb5 (Nat.le_refl _)).more bb5.size
  have b5 := b4.trans (bb5.mono b4.size)
  clear p4 h4 hro4 q4 h4o bb5 b4
  obtain ⟨y0, y1, y2, -⟩ := id p5.reads
  cases b
  · skip
    go_wp2_with fail
    refine (sameObjects_same A3 A4 c3 c4 os1 w5 q5 s5 hn1' hf1).mono ?_
    rintro e w6 ⟨rfl, bb6⟩
    go_wp2
    go_ret
    exact .mk_ (b5.trans (bb6.mono b5.size))
  · have HR1 : Hid (At_ os1 (iOb o) r) := by
      obtain ⟨hs, hvo, hp⟩ := HP.out.true_
      exact (hp.true_ hs hvo HR.out).2.2.1
    go_wp2_with fail
    refine (implStorePut_any A3 c3 os1 A2 c2 o r w5 q5 hf1 hn1 hro5 hfo HR1).mono ?_
    rintro e w6 ⟨v6, os6, b6, rfl, hp6, ho6, bb6⟩
    obtain ⟨rfl, rfl⟩ := HP.out.again HR.out hp6
    obtain ⟨A6, c6, rfl, h6o, hc6⟩ := ho6.form2
    have q6 := (q5.below bb6 (Nat.le_refl _)).more bb6.size
    have b6 := b5.trans (bb6.mono b5.size)
    clear ho6
    go_wp2_with fail
    refine (sameObjects_same A6 A3 c6 c3 os6 w6 h6o q6 hn1' hf1).mono ?_
    rintro e w7 ⟨rfl, bb7⟩
    go_wp2
    go_ret
    exact .mk_ (b6.trans (bb7.mono b6.size))
theorem FnStoreTwice_any (A : Option Addr) (c : Nat) (bs : List Int) (w : World) (f1 : Row w w.heap.size A (bs.map (Value.int .u8))) (f2 : bs.length ≤ c) (f3 : c ≤ maxLen) (f4 : ∀ n ∈ bs, 0 ≤ n ∧ n < 256) :
    Calls Try.prog 4 #[.slice A bs.length c] w (Ret (.bool true) w) := by
  by_cases hl : bs.length ≤ 1048576
  · exact FnStoreTwice_yes A c bs w ⟨f1, f2, f3, f4⟩ hl
  · exact FnStoreTwice_no A c bs w ⟨f1, f2, f3, f4⟩ hl
end Go.Proofs.Ytkflpgdbookdhaa
