/-
  Walk: the program's StorePut.
-/
import Derived.Test.YtjniemimdjpibaaPuts
import Derived.Test.YtjniemimdjpibaaInsert
import Derived.Test.YtjniemimdjpibaaCopyObs
namespace Go.Proofs.Ytjniemimdjpibaa
open Go.RowKit Wo Pu

theorem implValid_val (v : Bool) (B : Nat) (A : Option Addr) (c : Nat) (o : Ob) (w : World) (hv : vOb o = v) (hr : Row w B A (ints o.zs)) (hB : B ≤ w.heap.size) (hm : o.zs.length ≤ maxLen) (hs : o.s.size ≤ maxLen) :
    Calls Try.prog 31 #[ob o.kd A o.zs.length c o.s] w (Ret (.bool v) w) := by
  subst hv
  exact implValid_any B A c o.kd o.zs o.s w hr hB hm hs
theorem implId_val (v : Int) (B : Nat) (A : Option Addr) (c : Nat) (o : Ob) (w : World) (hr : Row w B A (ints o.zs)) (hB : B ≤ w.heap.size) (hm : o.zs.length ≤ maxLen) (hs : o.s.size ≤ maxLen) (e : iOb o = v) :
    Calls Try.prog 34 #[ob o.kd A o.zs.length c o.s] w (Ret (.int .i64 v) w) := by
  subst e
  exact implId_any B A c o.kd o.zs o.s w hr hB hm hs

set_option maxHeartbeats 4000000 in
theorem implStorePut_any (A : Option Addr) (c : Nat) (os : List Ob) (A' : Option Addr) (c' : Nat) (o : Ob) (r : Nat) (w : World) (h : Objs w w.heap.size A os) (hf : Fit os) (hn : os.length ≤ maxLen)
    (hro : Row w w.heap.size A' (ints o.zs)) (hfo : o.zs.length ≤ maxLen ∧ o.s.size ≤ maxLen) (hr : Hid (At_ os (iOb o) r)) :
    Calls Try.prog 7 #[.slice A os.length c, ob o.kd A' o.zs.length c' o.s] w (PuttedAll os o r w) := by
  unfold ob
  have h1 : Objs (w.alloc (.cells #[.int .i64 o.kd, .slice A' o.zs.length c', .string o.s] 26)) (w.alloc (.cells #[.int .i64 o.kd, .slice A' o.zs.length c', .string o.s] 26)).heap.size A os :=
    (h.below ((Below.refl w.heap.size w).alloc (Nat.le_refl _) _) (Nat.le_refl _)).more (by simp)
  rcases hst : storeB os with _ | _
  · go_enter Try.func7, Try.ntmps7
    go_wp2_with fail
    refine (implStoreValid_any A c os _ h1 hf hn).mono ?_
    rintro e w1 ⟨rfl, hb1⟩
    obtain ⟨p1, b1, z1⟩ := box_facts hb1 rfl
    clear hb1
    rw [hst]
    go_wp2_with fail
    refine bodyPost_ret (v := .tuple #[.slice (some ⟨w1.heap.size, 0, none⟩) 0 0, .bool false]) (by simp [results, Try.results7, go_sem]) rfl (PuttedAll.none_ b1 (.inl hst))
  · rcases hvo : vOb o with _ | _
    · go_enter Try.func7, Try.ntmps7
      go_wp2_with fail
      refine (implStoreValid_any A c os _ h1 hf hn).mono ?_
      rintro e w1 ⟨rfl, hb1⟩
      obtain ⟨p1, b1, z1⟩ := box_facts hb1 rfl
      clear hb1
      rw [hst]
      obtain ⟨x0, x1, x2, -⟩ := id p1.reads
      go_wp2_with fail
      refine (implValid_val false w.heap.size A' c' o w1 hvo (hro.below b1 (Nat.le_refl _)) b1.size hfo.1 hfo.2).mono ?_
      rintro e w2 ⟨rfl, hb2⟩
      have b2 := b1.trans (hb2.mono b1.size)
      go_wp2_with fail
      refine bodyPost_ret (v := .tuple #[.slice (some ⟨w2.heap.size, 0, none⟩) 0 0, .bool false]) (by simp [results, Try.results7, go_sem]) rfl (PuttedAll.none_ b2 (.inr hvo))
    · have hn16 := (storeB_parts hst).2
      have hn6 : os.length ≤ 1048576 := by omega
      have hsO : ∀ p ∈ os, p.zs.length ≤ 1048576 := fun p hp => by
        obtain ⟨i, hi, rfl⟩ := List.mem_iff_getElem.1 hp
        exact links_few (storeB_valid hst i hi)
      have HST := hid hst
      have HVO := hid hvo
      go_enter Try.func7, Try.ntmps7
      go_wp2_with fail
      refine (implStoreValid_any A c os _ h1 hf hn).mono ?_
      rintro e w1 ⟨rfl, hb1⟩
      obtain ⟨p1, b1, z1⟩ := box_facts hb1 rfl
      clear hb1
      rw [hst]
      obtain ⟨x0, x1, x2, -⟩ := id p1.reads
      go_wp2_with fail
      refine (implValid_val true w.heap.size A' c' o w1 hvo (hro.below b1 (Nat.le_refl _)) b1.size hfo.1 hfo.2).mono ?_
      rintro e w2 ⟨rfl, hb2⟩
      have p2 := p1.below hb2 p1.lt
      have b2 := b1.trans (hb2.mono b1.size)
      clear x0 x1 x2 p1 b1 hb2 hst hvo h1 z1
      obtain ⟨x0, x1, x2, -⟩ := id p2.reads
      go_wp2_with fail
      refine (copyObjects_any A c os w2 ((h.below b2 (Nat.le_refl _)).more b2.size) hn6 hsO).mono ?_
      rintro e w3 ⟨g, rfl, hv3, hb3⟩
      have p3 := p2.below hb3 p2.lt
      have b3 := b2.trans (hb3.mono b2.size)
      have z2 := b2.size
      have za := hb3.size
      clear x0 x1 x2 p2 hb3
      obtain ⟨x0, x1, x2, -⟩ := id p3.reads
      obtain ⟨id0, hid0⟩ : ∃ x, iOb o = x := ⟨_, rfl⟩
      have HID := hid hid0
      go_wp2_with fail
      refine (implId_val id0 w.heap.size A' c' o w3 (hro.below b3 (Nat.le_refl _)) b3.size hfo.1 hfo.2 hid0).mono ?_
      rintro e w4 ⟨rfl, hb4⟩
      have p4 := p3.below hb4 p3.lt
      have b4 := b3.trans (hb4.mono b3.size)
      have hv4 := hv3.below hb4
      have zb := Nat.le_trans za hb4.size
      clear za x0 x1 x2 p3 hb4 hv3 hid0 b3
      go_wp2_with fail
      refine (findObject_any A c os id0 r w4 ((h.below b4 (Nat.le_refl _)).more b4.size) hf hn (by rw [← HID.out]; exact hr)).mono ?_
      rintro e w5 ⟨b, rfl, hbx, hb5⟩
      have p5 := p4.below hb5 p4.lt
      have b5 := b4.trans (hb5.mono b4.size)
      have hv5 := hv4.below hb5
      have zc := Nat.le_trans zb hb5.size
      clear zb p4 hb5 hv4 b4
      have HBX : Hid (b = true ↔ ∃ h : r < os.length, iOb os[r] = iOb o) := by show _ ↔ _; rw [HID.out]; exact hbx
      clear hbx
      obtain ⟨x0, x1, x2, -⟩ := id p5.reads
      have hz5 := b5.size
      cases b
      · have hex : ¬ ∃ h : r < os.length, iOb os[r] = iOb o := fun e => by have := HBX.out.2 e; cases this
        have HEX := hid hex
        clear hex HBX
        by_cases h16 : os.length = 16
        · have e16 : (((os.length : Nat) : Int) == 16) = true := by rw [h16]; rfl
          have H16 := hid h16
          clear h16
          go_wp2_with fail
          refine bodyPost_ret (v := .tuple #[.slice (some ⟨g, 0, none⟩) os.length os.length, .bool false]) (by simp [results, Try.results7, go_sem]) rfl ⟨_, os, false, rfl, ⟨fun _ _ => ⟨fun h1 h2 => absurd ⟨h1, h2⟩ HEX.out, fun _ _ => ⟨rfl, rfl⟩, fun _ hx => absurd hx (by rw [H16.out]; omega)⟩, fun hx => ?_⟩, hv5.base z2, b5⟩
          rw [HST.out, HVO.out] at hx
          rcases hx with hx | hx <;> cases hx
        · have e16 : (((os.length : Nat) : Int) == 16) = false := by rw [beq_eq_false_iff_ne]; omega
          have H16 : Hid (os.length < 16) := by show os.length < 16; omega
          clear h16
          have hzo : o.zs.length ≤ 1048576 := links_few HVO.out
          go_wp2_with fail
          refine (copied_any w.heap.size A' c' o w5 (hro.below b5 (Nat.le_refl _)) hz5 hzo).mono ?_
          rintro e w6 ⟨A6, c6, rfl, hl6, hb6⟩
          unfold ob
          have b6 := b5.trans (hb6.mono hz5)
          have hv6 := hv5.below hb6
          have al := (Below.refl w6.heap.size w6).alloc (Nat.le_refl _) (.cells #[.int .i64 o.kd, .slice A6 o.zs.length c6, .string o.s] 26)
          have hz6 := Nat.le_trans zc hb6.size
          have hv7 := hv6.below al
          have hl7 := (hl6.base zc).below al (Nat.le_refl _)
          have u7 := Blk.new_ w6 26 (.int .i64 o.kd) (.slice A6 o.zs.length c6) (.string o.s)
          have b7 := b6.trans (al.mono b6.size)
          have HI := hid (insert_any w2.heap.size g w6.heap.size r c6 A6 os o _ hv7 u7 hl7 hr.out.1 (by omega) (by simp; omega))
          clear hb6 hl6 hv5 hv6 al hv7 hl7 u7 x0 x1 x2 p5
          go_wp2_with fail
          refine (HI.out).mono ?_
          rintro e w8 ⟨v8, rfl, hv8, b8⟩
          obtain ⟨A8, c8, rfl, _⟩ := hv8.form
          go_wp2_with fail
          refine bodyPost_ret (v := .tuple #[.slice A8 (os.take r ++ o :: os.drop r).length c8, .bool true]) (by simp [results, Try.results7, go_sem]) rfl ⟨_, _, true, rfl, ⟨fun _ _ => ⟨fun h1 h2 => absurd ⟨h1, h2⟩ HEX.out, fun _ hx => absurd H16.out (by omega), fun _ _ => ⟨rfl, rfl⟩⟩, fun hx => ?_⟩, hv8.base z2, b7.trans (b8.mono z2)⟩
          rw [HST.out, HVO.out] at hx
          rcases hx with hx | hx <;> cases hx
      · obtain ⟨hlt, he⟩ := HBX.out.1 rfl
        obtain ⟨o2, ad, A2, c2, ho2, rfl, ha, g0, g1, g2, g3⟩ := (h.below b5 (Nat.le_refl _)).obj hlt
        obtain ⟨bb, hbb⟩ : ∃ bb : Bool, Hid (bb = true ↔ o2.kd = o.kd ∧ o2.s.toList = o.s.toList ∧ o2.zs = o.zs) := by
          by_cases hs : o2.kd = o.kd ∧ o2.s.toList = o.s.toList ∧ o2.zs = o.zs
          · exact ⟨true, ⟨fun _ => hs, fun _ => rfl⟩⟩
          · exact ⟨false, ⟨fun e => (by cases e), fun e => absurd e hs⟩⟩
        have hPut : Hid (PutIs os o r os bb) := ⟨fun _ _ => ⟨rfl, by rw [ho2]; exact hbb.out⟩, fun hx => absurd ⟨hlt, he⟩ hx, fun hx => absurd ⟨hlt, he⟩ hx⟩
        have few2 : o2.zs.length ≤ 1048576 := by rw [← ho2]; exact hsO _ (List.getElem_mem hlt)
        have ha5 := Nat.lt_of_lt_of_le ha hz5
        have G0 := Later.cell g0 ha5
        have G1 := Later.cell (p := ⟨(ad.add (r * 3)).block, (ad.add (r * 3)).off + 1, none⟩) g1 ha5
        have G2 := Later.cell (p := ⟨(ad.add (r * 3)).block, (ad.add (r * 3)).off + 2, none⟩) g2 ha5
        have G3 := Later.cell (p := ⟨w.heap.size, 0, none⟩) x0 p5.lt
        have G4 := Later.cell (p := ⟨w.heap.size, 1, none⟩) x1 p5.lt
        have G5 := Later.cell (p := ⟨w.heap.size, 2, none⟩) x2 p5.lt
        have rO : Row w5 w5.heap.size A' (ints o.zs) := (hro.below b5 (Nat.le_refl _)).more hz5
        have r2 := g3.more hz5
        have k0 : 0 ≤ (r : Int) := by omega
        have k1 : (r : Int) < (os.length : Int) := by omega
        clear HBX he ho2 g0 g1 g2 g3 x0 x1 x2
        go_wp2_with fail
        refine wp_region_later w5.heap.size (by kernel_rfl) (by kernel_rfl) ?_
        repeat (go_big_quiet_step ((go_at_call 35; exact Later.call (Nat.le_refl _) _ (equals_any w5.heap.size w5.heap.size A2 A' c2 c' o2.kd o2.zs o2.s o.kd o.zs o.s _ (r2.later _) (rO.later _) (Later.size (Nat.le_refl _) _) (Later.size (Nat.le_refl _) _) few2 bb hbb))))
        refine wpQuiet_nil ?_
        intro _ hw'
        obtain ⟨xx, hxx⟩ := hw'
        have hbx := xx.b
        subst hxx
        go_wp2_with fail
        refine bodyPost_ret (v := .tuple #[.slice (some ⟨g, 0, none⟩) os.length os.length, .bool bb]) (by simp [results, Try.results7, go_sem]) rfl ⟨_, os, bb, rfl, ⟨fun _ _ => hPut.out, fun hx => ?_⟩, (hv5.below hbx).base z2, b5.trans (hbx.mono hz5)⟩
        rw [HST.out, HVO.out] at hx
        rcases hx with hx | hx <;> cases hx
end Go.Proofs.Ytjniemimdjpibaa
