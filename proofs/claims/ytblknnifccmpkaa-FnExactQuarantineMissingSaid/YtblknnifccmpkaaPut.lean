/-
  Walk: l1Put.
-/
import Derived.Test.YtblknnifccmpkaaSame
import Derived.Test.YtblknnifccmpkaaG5C
import Derived.Deep.RegionLaw
namespace Go.Proofs.Ytblknnifccmpkaa
open Go.RowKit Wo Pu

def SameOb (p o : Ob) : Prop := p.kd = o.kd ∧ p.s.toList = o.s.toList ∧ p.zs = o.zs
/-- What l1Put answers for the store os, the object o and the place r. -/
def PutIs (os : List Ob) (o : Ob) (r : Nat) (os' : List Ob) (b : Bool) : Prop :=
  (∀ h : r < os.length, iOb os[r] = iOb o → os' = os ∧ (b = true ↔ SameOb os[r] o)) ∧
  ((¬ ∃ h : r < os.length, iOb os[r] = iOb o) → 16 ≤ os.length → os' = os ∧ b = false) ∧
  ((¬ ∃ h : r < os.length, iOb os[r] = iOb o) → os.length < 16 → os' = os.take r ++ o :: os.drop r ∧ b = true)
/-- Behind it: the list and the word. -/
def Putted (os : List Ob) (o : Ob) (r : Nat) (w : World) (e : Ending) (w' : World) : Prop :=
  ∃ v os' b, e = .returned (.tuple #[v, .bool b]) ∧ PutIs os o r os' b ∧ OwnObs w' w.heap.size v os' ∧ Below w.heap.size w w'

theorem box_facts {w w5 : World} {o : Ob} {A : Option Addr} {c C : Nat} (hb : Below C (w.alloc (.cells #[.int .i64 o.kd, .slice A o.zs.length c, .string o.s] 38)) w5) (hC : C = (w.alloc (.cells #[.int .i64 o.kd, .slice A o.zs.length c, .string o.s] 38)).heap.size) :
    Blk w5 w.heap.size 38 (.int .i64 o.kd) (.slice A o.zs.length c) (.string o.s) ∧ Below w.heap.size w w5 ∧ w.heap.size + 1 ≤ w5.heap.size := by
  have u0 := Blk.new_ w 38 (.int .i64 o.kd) (.slice A o.zs.length c) (.string o.s)
  have z1 : (w.alloc (.cells #[.int .i64 o.kd, .slice A o.zs.length c, .string o.s] 38)).heap.size = w.heap.size + 1 := by simp
  have a0 := (Below.refl w.heap.size w).alloc (Nat.le_refl _) (.cells #[.int .i64 o.kd, .slice A o.zs.length c, .string o.s] 38)
  generalize w.alloc (.cells #[.int .i64 o.kd, .slice A o.zs.length c, .string o.s] 38) = x1 at *
  subst hC
  have := hb.size
  exact ⟨u0.below hb (by omega), a0.trans (hb.mono (by omega)), by omega⟩

set_option maxRecDepth 100000 in
set_option maxHeartbeats 4000000 in
theorem l1Put_any (A : Option Addr) (c : Nat) (os : List Ob) (A' : Option Addr) (c' : Nat) (o : Ob) (r : Nat) (w : World) (h : Objs w w.heap.size A os) (_hc : os.length ≤ c) (hn : os.length ≤ 1000) (hv : Hid (∀ i (hi : i < os.length), vOb os[i] = true))
    (hro : Row w w.heap.size A' (ints o.zs)) (hvo : Hid (vOb o = true)) (hr : Hid (At_ os (iOb o) r)) :
    Calls Try.prog 98 #[.slice A os.length c, ob o.kd A' o.zs.length c' o.s] w (Putted os o r w) := by
  unfold ob
  go_enter Try.func98, Try.ntmps98
  go_wp2_with fail
  refine (l1Of_val _ w.heap.size A' c' o _ (hro.alloc (Nat.le_refl _) _) (by simp) hvo.out rfl).mono ?_
  rintro e w1 ⟨rfl, hb1⟩
  obtain ⟨p1, b1, z1⟩ := box_facts hb1 rfl
  clear hb1
  generalize hid0 : iOb o = id0 at *
  have HID := hid hid0
  clear hid0
  go_wp2_with fail
  go_loopw [7] (fun i wr => ∃ k : Nat, k ≤ r ∧ i = .int .i64 k ∧ Below w1.heap.size w1 wr) (fun i _ => r - (intOf i).toNat)
  case atStart => exact ⟨0, Nat.zero_le _, rfl, Below.refl _ _⟩
  case round =>
    obtain ⟨k, hk, rfl, hb⟩ := hrel
    have p2 := p1.below hb p1.lt
    have b2 := b1.trans (hb.mono b1.size)
    have hz := b2.size
    by_cases hlt : k < os.length
    · obtain ⟨o2, ad, A2, c2, ho, rfl, ha, g0, g1, g2, g3⟩ := (h.below b2 (Nat.le_refl _)).obj hlt
      have VO : Hid (vOb o2 = true) := by show vOb o2 = true; rw [← ho]; exact hv.out k hlt
      have k0 : 0 ≤ (k : Int) := by omega
      have k1 : (k : Int) < (os.length : Int) := by omega
      by_cases hkr : k < r
      · have hi : iOb o2 < id0 := by rw [← ho]; exact (hr.out).2.1 k hlt hkr
        clear ho
        go_wp2_with fail
        refine (l1Of_val _ w.heap.size A2 c2 o2 _ g3 hz VO.out rfl).mono ?_
        rintro e w2 ⟨rfl, hb2⟩
        go_wp2
        go_roundw
        case rel => exact ⟨k + 1, by omega, by go_num, hb.trans (hb2.mono hb.size)⟩
        case measure => simp [intOf]; omega
      · have hkr' : k = r := by omega
        subst hkr'
        have hi : id0 ≤ iOb o2 := by rw [← ho]; exact (hr.out).2.2 hlt
        have HO := hid ho
        clear ho p1 b1 hb
        go_wp2_with fail
        refine (l1Of_val _ w.heap.size A2 c2 o2 _ g3 hz VO.out rfl).mono ?_
        rintro e w2 ⟨rfl, hb2⟩
        have G0 := (hb2.cell (Nat.lt_of_lt_of_le ha hz)).trans g0
        have G1 := (hb2.cell (p := ⟨(ad.add (k * 3)).block, (ad.add (k * 3)).off + 1, none⟩) (Nat.lt_of_lt_of_le ha hz)).trans g1
        have G2 := (hb2.cell (p := ⟨(ad.add (k * 3)).block, (ad.add (k * 3)).off + 2, none⟩) (Nat.lt_of_lt_of_le ha hz)).trans g2
        have p3 := p2.below hb2 p2.lt
        have b3 := b2.trans (hb2.mono hz)
        have r3 := g3.below hb2 hz
        clear g0 g1 g2 g3 hb2 p2 b2 hz
        by_cases he : iOb o2 = id0
        · go_wp2_with fail
          refine (l1Of_val _ w.heap.size A2 c2 o2 _ r3 b3.size VO.out rfl).mono ?_
          rintro e w3 ⟨rfl, hb3⟩
          have g0 := (hb3.cell (Nat.lt_of_lt_of_le ha b3.size)).trans G0
          have g1 := (hb3.cell (p := ⟨(ad.add (k * 3)).block, (ad.add (k * 3)).off + 1, none⟩) (Nat.lt_of_lt_of_le ha b3.size)).trans G1
          have g2 := (hb3.cell (p := ⟨(ad.add (k * 3)).block, (ad.add (k * 3)).off + 2, none⟩) (Nat.lt_of_lt_of_le ha b3.size)).trans G2
          have p4 := p3.below hb3 p3.lt
          have b4 := b3.trans (hb3.mono b3.size)
          have r4 := r3.below hb3 b3.size
          clear G0 G1 G2 hb3 p3 b3 r3
          have hoD : ∀ x, Below w3.heap.size w3 x → Objs x x.heap.size (some ad) os := fun x hx => (h.below (b4.trans (hx.mono b4.size)) (Nat.le_refl _)).more (Nat.le_trans b4.size hx.size)
          have r4o : Row w3 w.heap.size A' (ints o.zs) := hro.below b4 (Nat.le_refl _)
          have hsO : ∀ p ∈ os, p.zs.length ≤ 1048576 := fun p hp => by
            obtain ⟨i, hi, rfl⟩ := List.mem_iff_getElem.1 hp
            exact links_few (hv.out i hi)
          have K6 : Hid (∀ x, Below w3.heap.size w3 x → x.cell? (ad.add (k * 3)) = some (.int .i64 o2.kd) ∧ x.cell? ⟨(ad.add (k * 3)).block, (ad.add (k * 3)).off + 1, none⟩ = some (.slice A2 o2.zs.length c2) ∧ x.cell? ⟨(ad.add (k * 3)).block, (ad.add (k * 3)).off + 2, none⟩ = some (.string o2.s) ∧
              x.cell? ⟨w.heap.size, 0, none⟩ = some (.int .i64 o.kd) ∧ x.cell? ⟨w.heap.size, 1, none⟩ = some (.slice A' o.zs.length c') ∧ x.cell? ⟨w.heap.size, 2, none⟩ = some (.string o.s)) := fun x hx => by
            have hlt4 := p4.lt
            obtain ⟨x0, x1, x2⟩ := three_later hx (by rw [add_block]; rw [add_block] at ha; exact Nat.lt_of_lt_of_le ha b4.size) g0 g1 g2
            obtain ⟨x3, x4, x5, _⟩ := (p4.below hx p4.lt).reads
            exact ⟨x0, x1, x2, x3, x4, x5⟩
          obtain ⟨b, hbb⟩ : ∃ b : Bool, Hid (b = true ↔ SameOb o2 o) := by
            by_cases hs : SameOb o2 o
            · exact ⟨true, ⟨fun _ => hs, fun _ => rfl⟩⟩
            · exact ⟨false, ⟨fun e => (by cases e), fun e => absurd e hs⟩⟩
          have hPut : Hid (PutIs os o k os b) := ⟨fun _ _ => ⟨rfl, by rw [HO.out]; exact hbb.out⟩, fun hx => absurd ⟨hlt, by rw [HO.out, HID.out]; exact he⟩ hx, fun hx => absurd ⟨hlt, by rw [HO.out, HID.out]; exact he⟩ hx⟩
          have bd : Below w3.heap.size w3 w3.drew := (Below.refl _ _).drew
          have few2 : o2.zs.length ≤ 1048576 := links_few VO.out
          have n6 : os.length ≤ 1048576 := by omega
          obtain ⟨m0, m1, m2, m3, m4, m5⟩ := K6.out w3 (Below.refl _ _)
          clear g0 g1 g2 hi
          go_wp2_with fail
          go_region_held3 (fun w' => w'.cell? (ad.add (k * 3)) = some (.int .i64 o2.kd) ∧ w'.cell? ⟨(ad.add (k * 3)).block, (ad.add (k * 3)).off + 1, none⟩ = some (.slice A2 o2.zs.length c2) ∧ w'.cell? ⟨(ad.add (k * 3)).block, (ad.add (k * 3)).off + 2, none⟩ = some (.string o2.s) ∧ w'.cell? ⟨w.heap.size, 0, none⟩ = some (.int .i64 o.kd) ∧ w'.cell? ⟨w.heap.size, 1, none⟩ = some (.slice A' o.zs.length c') ∧ w'.cell? ⟨w.heap.size, 2, none⟩ = some (.string o.s)) (go_keep)
            (first
              | (go_at_call 103; refine (l1Copy_any (some ad) c os w6 (hoD _ bd6) n6 hsO).mono ?_; rintro e w7 ⟨v, rfl, hvF, hb7⟩; have bdF : Below w3.heap.size w3 w7 := bd6.trans (hb7.mono bd6.size); have hvF := hvF.base bd6.size; obtain ⟨m6, m7, m8, m9, m10, m11⟩ := K6.out w7 bdF)
              | (go_at_call 120; refine (l1Same_any w.heap.size w.heap.size A2 A' c2 c' o2.kd o2.zs o2.s o.kd o.zs o.s w5 (r4.below bd5 b4.size) (r4o.below bd5 b4.size) (Nat.le_trans b4.size bd5.size) (Nat.le_trans b4.size bd5.size) few2 b hbb).mono ?_; rintro e w7 ⟨rfl, hb7⟩; have bdF : Below w3.heap.size w3 w7 := bd5.trans (hb7.mono bd5.size); have hvF := (hv5.below hb7).base (Nat.le_refl w3.heap.size); obtain ⟨m6, m7, m8, m9, m10, m11⟩ := K6.out w7 bdF)
              | (go_at_call 103; refine (l1Copy_any (some ad) c os w3.drew (hoD _ bd) n6 hsO).mono ?_; rintro e w5 ⟨v, rfl, hv5, hb5⟩; have bd5 : Below w3.heap.size w3 w5 := bd.trans hb5; obtain ⟨m6, m7, m8, m9, m10, m11⟩ := K6.out w5 bd5)
              | (go_at_call 120; refine (l1Same_any w.heap.size w.heap.size A2 A' c2 c' o2.kd o2.zs o2.s o.kd o.zs o.s w3.drew (r4.below bd b4.size) (r4o.below bd b4.size) b4.size b4.size few2 b hbb).mono ?_; rintro e w6 ⟨rfl, hb6⟩; have bd6 : Below w3.heap.size w3 w6 := bd.trans hb6; obtain ⟨m6, m7, m8, m9, m10, m11⟩ := K6.out w6 bd6))
          all_goals
            go_wp2_with fail
            refine bodyPost_ret (v := .tuple #[v, .bool b]) (by simp [results, Try.results98, go_sem]) rfl ⟨v, os, b, rfl, hPut.out, hvF.base b4.size, b4.trans (bdF.mono b4.size)⟩
        · have hex : ¬ ∃ h : k < os.length, iOb os[k] = iOb o := fun ⟨_, e⟩ => he (by rw [HO.out, HID.out] at e; exact e)
          have n6 : os.length ≤ 1048576 := by omega
          have hsO : ∀ p ∈ os, p.zs.length ≤ 1048576 := fun p hp => by
            obtain ⟨i, hi, rfl⟩ := List.mem_iff_getElem.1 hp
            exact links_few (hv.out i hi)
          by_cases h16 : 16 ≤ os.length
          · go_wp2_with fail
            refine (l1Of_val _ w.heap.size A2 c2 o2 _ r3 b3.size VO.out rfl).mono ?_
            rintro e wr ⟨rfl, hb3⟩
            have b4 := b3.trans (hb3.mono b3.size)
            clear G0 G1 G2 hb3 p3 b3 r3
            go_wp2_with fail
            refine (l1Copy_any (some ad) c os wr ((h.below b4 (Nat.le_refl _)).more b4.size) n6 hsO).mono ?_
            rintro e w5 ⟨v, rfl, hv5, hb5⟩
            go_wp2_with fail
            refine bodyPost_ret (v := .tuple #[v, .bool false]) (by simp [results, Try.results98, go_sem]) rfl ⟨v, os, false, rfl, ⟨fun h1 h2 => absurd ⟨h1, h2⟩ hex, fun _ _ => ⟨rfl, rfl⟩, fun _ h => absurd h (by omega)⟩, hv5.base b4.size, b4.trans (hb5.mono b4.size)⟩
          · go_wp2_with fail
            refine (l1Of_val _ w.heap.size A2 c2 o2 _ r3 b3.size VO.out rfl).mono ?_
            rintro e wr ⟨rfl, hb3⟩
            have p4 := p3.below hb3 p3.lt
            have b4 := b3.trans (hb3.mono b3.size)
            have hz := b4.size
            clear G0 G1 G2 hb3 p3 b3 r3
            obtain ⟨x0, x1, x2, -⟩ := id p4.reads
            obtain ⟨xs, hxr, hxc, hx1⟩ := (h.below b4 (Nat.le_refl _)).cells
            have hxl := hxc.1
            have hxt : (xs.take (k * 3)).length = k * 3 := by rw [List.length_take, hxl]; omega
            have hxd : (xs.drop (k * 3)).length = (os.length - k) * 3 := by rw [List.length_drop, hxl]; omega
            have hx2 : ∀ u ∈ xs.take (k * 3), u.oneCell' = true := fun u hu => hx1 u (List.mem_of_mem_take hu)
            have hx3 : ∀ u ∈ xs.drop (k * 3), u.oneCell' = true := fun u hu => hx1 u (List.mem_of_mem_drop hu)
            have hck : ¬ c = k := by omega
            have k2 : (k : Int) ≤ (c : Int) := by omega
            have k3 : (os.length : Int) ≤ (c : Int) := by omega
            have k4 : k ≤ os.length := by omega
            obtain ⟨i0, hi, hz0, hz1, hz2⟩ := info_of info_ob
            have rO : Row wr w.heap.size A' (ints o.zs) := hro.below b4 (Nat.le_refl _)
            have cO : Cells wr w.heap.size [.int .i64 o.kd, .slice A' o.zs.length c', .string o.s] [o] := Cells.one rO
            have Ba := (Below.refl wr.heap.size wr).alloc (Nat.le_refl _) (.cells #[] 38)
            have Bb := ((Below.refl wr.heap.size wr).alloc (Nat.le_refl _) (.cells #[.int .i64 o.kd, .slice A' o.zs.length c', .string o.s] 38)).alloc (by simp) (.cells #[] 38)
            have Bc := ((Below.refl wr.heap.size wr).alloc (Nat.le_refl _) (.cells #[] 38)).alloc (by simp) (.cells #[.int .i64 o.kd, .slice A' o.zs.length c', .string o.s] 38)
            have Na := nil_own (w := wr) (B := wr.heap.size) (Nat.le_refl _) 38 3
            have Nb := nil_own (w := wr.alloc (.cells #[.int .i64 o.kd, .slice A' o.zs.length c', .string o.s] 38)) (B := wr.heap.size) (by simp) 38 3
            have Nc := World.ownsRow.alloc Na (.cells #[.int .i64 o.kd, .slice A' o.zs.length c', .string o.s] 38)
            have Ob := (Blk.new_ wr 38 (.int .i64 o.kd) (.slice A' o.zs.length c') (.string o.s)).below ((Below.refl _ _).alloc (Nat.le_refl _) (.cells #[] 38)) (by simp)
            have Oc := Blk.new_ (wr.alloc (.cells #[] 38)) 38 (.int .i64 o.kd) (.slice A' o.zs.length c') (.string o.s)
            simp only [World.size_alloc] at Nb Oc
            obtain ⟨os', hos'⟩ : ∃ os', Hid (os' = os.take k ++ [o] ++ os.drop k) := ⟨_, rfl⟩
            have HOL : Hid (os'.length = os.length + 1) := by show os'.length = os.length + 1; rw [hos'.out]; simp; omega
            have hsO' : ∀ p ∈ os', p.zs.length ≤ 1048576 := fun p hp => by
              rw [hos'.out] at hp
              rcases List.mem_append.1 hp with hp | hp
              · rcases List.mem_append.1 hp with hp | hp
                · exact hsO p (List.mem_of_mem_take hp)
                · rw [List.mem_singleton.1 hp]; exact links_few hvo.out
              · exact hsO p (List.mem_of_mem_drop hp)
            have hol' : os'.length ≤ 1048576 := by rw [HOL.out]; omega
            have ne0 := World.new_ne wr _ x0
            have ne1 : w.heap.size ≠ wr.heap.size := by have := p4.lt; omega
            have ne2 : w.heap.size ≠ wr.heap.size + 1 := by have := p4.lt; omega
            go_wp2_with fail
            go_region_held3 (fun w' => w'.cell? ⟨w.heap.size, 0, none⟩ = some (.int .i64 o.kd) ∧ w'.cell? ⟨w.heap.size, 1, none⟩ = some (.slice A' o.zs.length c') ∧ w'.cell? ⟨w.heap.size, 2, none⟩ = some (.string o.s)) (go_keep)
              (first
                | (go_at_call 103; refine (l1Copy_any A7 cc7 os' w7 hob hol' hsO').mono ?_; rintro e w8 ⟨v8, rfl, hv8, hb8⟩; have p8 := p7.below hb8 p7.lt; obtain ⟨m9, m10, m11, -⟩ := id p8.reads)
                | (refine step_append_row _ (by rfl) _ _ 23 (by rfl) wr.heap.size 38 i0 (.agg #[.int .i64 0, .slice none 0 0, .string ⟨#[]⟩]) 3 48 Try.underlying23 hi hz0 hz1 hz2 rfl (by decide) v2 (0 + k + 1) ([] ++ xs.take (k * 3) ++ [.int .i64 o.kd, .slice A' o.zs.length c', .string o.s]) (by rfl) ho2 w.heap.size (some (ad.add (k * 3))) (os.length - k) _ (xs.drop (k * 3)) (by rfl) ((hxr.drop_ (k * 3)).below b6 hz) hxd hx3 (by unfold maxLen; omega) (by omega) b6.size ?_; intro v3 w7 ho3 hg3; have b7 : Below wr.heap.size wr w7 := b6.grown hg3 b6.size (fun j hj => (l2 j hj).1); have c7 : Cells w7 w.heap.size ([] ++ xs.take (k * 3) ++ [.int .i64 o.kd, .slice A' o.zs.length c', .string o.s] ++ xs.drop (k * 3)) os' := (by rw [List.nil_append, hos'.out]; exact (((hxc.take_ k).below b7 hz).app (cO.below b7 hz)).app ((hxc.drop_ k).below b7 hz)); obtain ⟨A7, cc7, rfl, hob⟩ := c7.objs (Nat.le_trans hz b7.size) ho3 (by rw [HOL.out]; omega); have p7 := p4.below b7 p4.lt; obtain ⟨m6, m7, m8, -⟩ := id p7.reads)
                | (refine step_append_row _ (by rfl) _ _ 23 (by rfl) wr.heap.size 38 i0 (.agg #[.int .i64 0, .slice none 0 0, .string ⟨#[]⟩]) 3 48 Try.underlying23 hi hz0 hz1 hz2 rfl (by decide) v1 (0 + k) ([] ++ xs.take (k * 3)) (by rfl) ho1 _ (some ⟨wr.heap.size, 0, none⟩) 1 1 [.int .i64 o.kd, .slice A' o.zs.length c', .string o.s] (by rfl) oneB.row3 rfl (obj_cells o A' c') (by unfold maxLen; omega) (by omega) (by have := b5.size; simp; omega) ?_; intro v2 w6 ho2 hg2; have b6 : Below wr.heap.size wr w6 := b5.grown hg2 b5.size (fun j hj => (l1 j hj).1); have l2 := World.ownsRow.lt ho2; have p6 := p4.below b6 p4.lt; obtain ⟨m3, m4, m5, -⟩ := id p6.reads)
                | (refine step_append_row _ (by rfl) _ _ 23 (by rfl) wr.heap.size 38 i0 (.agg #[.int .i64 0, .slice none 0 0, .string ⟨#[]⟩]) 3 48 Try.underlying23 hi hz0 hz1 hz2 rfl (by decide) v1 (0 + k) ([] ++ xs.take (k * 3)) (by rfl) ho1 _ (some ⟨wr.heap.size + 1, 0, none⟩) 1 1 [.int .i64 o.kd, .slice A' o.zs.length c', .string o.s] (by rfl) oneC.row3 rfl (obj_cells o A' c') (by unfold maxLen; omega) (by omega) (by have := b5.size; simp; omega) ?_; intro v2 w6 ho2 hg2; have b6 : Below wr.heap.size wr w6 := b5.grown hg2 b5.size (fun j hj => (l1 j hj).1); have l2 := World.ownsRow.lt ho2; have p6 := p4.below b6 p4.lt; obtain ⟨m3, m4, m5, -⟩ := id p6.reads)
                | (refine step_append_row _ (by rfl) _ _ 23 (by rfl) wr.heap.size 38 i0 (.agg #[.int .i64 0, .slice none 0 0, .string ⟨#[]⟩]) 3 48 Try.underlying23 hi hz0 hz1 hz2 rfl (by decide) v1 (0 + k) ([] ++ xs.take (k * 3)) (by rfl) (World.ownsRow.alloc ho1 _) _ (some ⟨w5.heap.size, 0, none⟩) 1 1 [.int .i64 o.kd, .slice A' o.zs.length c', .string o.s] (by rfl) (Blk.new_ w5 _ _ _ _).row3 rfl (obj_cells o A' c') (by unfold maxLen; omega) (by omega) (by have := b5.size; simp; omega) ?_; intro v2 w6 ho2 hg2; have b6 : Below wr.heap.size wr w6 := (b5.alloc b5.size (.cells #[.int .i64 o.kd, .slice A' o.zs.length c', .string o.s] 38)).grown hg2 (by have := b5.size; simp; omega) (fun j hj => (l1 j hj).1); have l2 := World.ownsRow.lt ho2; have p6 := p4.below b6 p4.lt; obtain ⟨m3, m4, m5, -⟩ := id p6.reads)
                | (refine step_append_row _ (by rfl) _ _ 23 (by rfl) wr.heap.size 38 i0 (.agg #[.int .i64 0, .slice none 0 0, .string ⟨#[]⟩]) 3 48 Try.underlying23 hi hz0 hz1 hz2 rfl (by decide) (.slice (some ⟨wr.heap.size, 0, none⟩) 0 0) 0 [] (by rfl) Na w.heap.size (some ad) k _ (xs.take (k * 3)) (by rfl) ((hxr.take_ (k * 3)).below Ba.drew hz) hxt hx2 (by unfold maxLen; omega) (by omega) (by first | (simp; done) | (simp; omega)) ?_; intro v1 w5 ho1 hg1; have b5 : Below wr.heap.size wr w5 := Ba.drew.grown hg1 (by first | (simp; done) | (simp; omega)) (fun j hj => by have hj' : some (wr.heap.size) = some j := hj; injection hj' with hj'; omega); have w5a := w5; have l1 := World.ownsRow.lt ho1; have p5 := p4.below b5 p4.lt; obtain ⟨m0, m1, m2, -⟩ := id p5.reads; have ne5 := World.new_ne w5 _ m0)
                | (refine step_append_row _ (by rfl) _ _ 23 (by rfl) wr.heap.size 38 i0 (.agg #[.int .i64 0, .slice none 0 0, .string ⟨#[]⟩]) 3 48 Try.underlying23 hi hz0 hz1 hz2 rfl (by decide) (.slice (some ⟨wr.heap.size + 1, 0, none⟩) 0 0) 0 [] (by rfl) Nb w.heap.size (some ad) k _ (xs.take (k * 3)) (by rfl) ((hxr.take_ (k * 3)).below Bb.drew hz) hxt hx2 (by unfold maxLen; omega) (by omega) (by first | (simp; done) | (simp; omega)) ?_; intro v1 w5 ho1 hg1; have b5 : Below wr.heap.size wr w5 := Bb.drew.grown hg1 (by first | (simp; done) | (simp; omega)) (fun j hj => by have hj' : some (wr.heap.size + 1) = some j := hj; injection hj' with hj'; omega); have oneB : Blk w5 wr.heap.size 38 (.int .i64 o.kd) (.slice A' o.zs.length c') (.string o.s) := (Ob.below (Below.refl _ _).drew Ob.lt).grown hg1 (fun e => by have e' : some wr.heap.size = some (wr.heap.size + 1) := e; injection e' with e'; omega); have l1 := World.ownsRow.lt ho1; have p5 := p4.below b5 p4.lt; obtain ⟨m0, m1, m2, -⟩ := id p5.reads; have ne5 := World.new_ne w5 _ m0)
                | (refine step_append_row _ (by rfl) _ _ 23 (by rfl) wr.heap.size 38 i0 (.agg #[.int .i64 0, .slice none 0 0, .string ⟨#[]⟩]) 3 48 Try.underlying23 hi hz0 hz1 hz2 rfl (by decide) (.slice (some ⟨wr.heap.size, 0, none⟩) 0 0) 0 [] (by rfl) Nc w.heap.size (some ad) k _ (xs.take (k * 3)) (by rfl) ((hxr.take_ (k * 3)).below Bc.drew hz) hxt hx2 (by unfold maxLen; omega) (by omega) (by first | (simp; done) | (simp; omega)) ?_; intro v1 w5 ho1 hg1; have b5 : Below wr.heap.size wr w5 := Bc.drew.grown hg1 (by first | (simp; done) | (simp; omega)) (fun j hj => by have hj' : some (wr.heap.size) = some j := hj; injection hj' with hj'; omega); have oneC : Blk w5 (wr.heap.size + 1) 38 (.int .i64 o.kd) (.slice A' o.zs.length c') (.string o.s) := (Oc.below (Below.refl _ _).drew Oc.lt).grown hg1 (fun e => by have e' : some (wr.heap.size + 1) = some wr.heap.size := e; injection e' with e'; omega); have l1 := World.ownsRow.lt ho1; have p5 := p4.below b5 p4.lt; obtain ⟨m0, m1, m2, -⟩ := id p5.reads; have ne5 := World.new_ne w5 _ m0))
            all_goals
              go_wp2_with fail
              refine bodyPost_ret (v := .tuple #[v8, .bool true]) (by simp [results, Try.results98, go_sem]) rfl ⟨v8, os', true, rfl, ⟨fun h1 h2 => absurd ⟨h1, h2⟩ hex, fun _ h => absurd h h16, fun _ _ => ⟨by rw [hos'.out]; simp, rfl⟩⟩, hv8.base (Nat.le_trans hz b7.size), b4.trans ((b7.trans (hb8.mono b7.size)).mono hz)⟩
    · have hk' : k = os.length := by have := hr.out.1; omega
      have hr' : r = os.length := Nat.le_antisymm hr.out.1 (by omega)
      subst hr'
      subst hk'
      have hex : ¬ ∃ h : os.length < os.length, iOb os[os.length] = iOb o := fun ⟨h, _⟩ => absurd h (by omega)
      have n6 : os.length ≤ 1048576 := by omega
      have hsO : ∀ p ∈ os, p.zs.length ≤ 1048576 := fun p hp => by
        obtain ⟨i, hi, rfl⟩ := List.mem_iff_getElem.1 hp
        exact links_few (hv.out i hi)
      clear p1 b1 hb
      by_cases h16 : 16 ≤ os.length
      · go_wp2_with fail
        refine (l1Copy_any A c os wr ((h.below b2 (Nat.le_refl _)).more b2.size) n6 hsO).mono ?_
        rintro e w5 ⟨v, rfl, hv5, hb5⟩
        go_wp2_with fail
        refine bodyPost_ret (v := .tuple #[v, .bool false]) (by simp [results, Try.results98, go_sem]) rfl ⟨v, os, false, rfl, ⟨fun h => absurd h (by omega), fun _ _ => ⟨rfl, rfl⟩, fun _ h => absurd h (by omega)⟩, hv5.base b2.size, b2.trans (hb5.mono b2.size)⟩
      · obtain ⟨x0, x1, x2, -⟩ := id p2.reads
        by_cases hcap : c = os.length
        all_goals (try subst hcap)
        all_goals
          obtain ⟨xs, hxr, hxc, hx1⟩ := (h.below b2 (Nat.le_refl _)).cells
          have hxl := hxc.1
          obtain ⟨i0, hi, hz0, hz1, hz2⟩ := info_of info_ob
          have rO : Row wr w.heap.size A' (ints o.zs) := hro.below b2 (Nat.le_refl _)
          have cO : Cells wr w.heap.size [.int .i64 o.kd, .slice A' o.zs.length c', .string o.s] [o] := Cells.one rO
          have Ba := (Below.refl wr.heap.size wr).alloc (Nat.le_refl _) (.cells #[] 38)
          have Bb := ((Below.refl wr.heap.size wr).alloc (Nat.le_refl _) (.cells #[.int .i64 o.kd, .slice A' o.zs.length c', .string o.s] 38)).alloc (by simp) (.cells #[] 38)
          have Bc := ((Below.refl wr.heap.size wr).alloc (Nat.le_refl _) (.cells #[] 38)).alloc (by simp) (.cells #[.int .i64 o.kd, .slice A' o.zs.length c', .string o.s] 38)
          have Na := nil_own (w := wr) (B := wr.heap.size) (Nat.le_refl _) 38 3
          have Nb := nil_own (w := wr.alloc (.cells #[.int .i64 o.kd, .slice A' o.zs.length c', .string o.s] 38)) (B := wr.heap.size) (by simp) 38 3
          have Nc := World.ownsRow.alloc Na (.cells #[.int .i64 o.kd, .slice A' o.zs.length c', .string o.s] 38)
          have Ob := (Blk.new_ wr 38 (.int .i64 o.kd) (.slice A' o.zs.length c') (.string o.s)).below ((Below.refl _ _).alloc (Nat.le_refl _) (.cells #[] 38)) (by simp)
          have Oc := Blk.new_ (wr.alloc (.cells #[] 38)) 38 (.int .i64 o.kd) (.slice A' o.zs.length c') (.string o.s)
          simp only [World.size_alloc] at Nb Oc
          obtain ⟨os', hos'⟩ : ∃ os', Hid (os' = os ++ [o]) := ⟨_, rfl⟩
          have HOL : Hid (os'.length = os.length + 1) := by show os'.length = os.length + 1; rw [hos'.out]; simp
          have hsO' : ∀ p ∈ os', p.zs.length ≤ 1048576 := fun p hp => by
            rw [hos'.out] at hp
            rcases List.mem_append.1 hp with hp | hp
            · exact hsO p hp
            · rw [List.mem_singleton.1 hp]; exact links_few hvo.out
          have hol' : os'.length ≤ 1048576 := by rw [HOL.out]; omega
          have ne0 := World.new_ne wr _ x0
          have ne1 : w.heap.size ≠ wr.heap.size := by have := p2.lt; omega
          have ne2 : w.heap.size ≠ wr.heap.size + 1 := by have := p2.lt; omega
          go_wp2_with fail
          go_region_held3 (fun w' => w'.cell? ⟨w.heap.size, 0, none⟩ = some (.int .i64 o.kd) ∧ w'.cell? ⟨w.heap.size, 1, none⟩ = some (.slice A' o.zs.length c') ∧ w'.cell? ⟨w.heap.size, 2, none⟩ = some (.string o.s)) (go_keep)
            (first
              | (go_at_call 103; refine (l1Copy_any A7 cc7 os' w7 hob hol' hsO').mono ?_; rintro e w8 ⟨v8, rfl, hv8, hb8⟩; have p8 := p7.below hb8 p7.lt; obtain ⟨m9, m10, m11, -⟩ := id p8.reads)
              | (refine step_append_row _ (by rfl) _ _ 23 (by rfl) wr.heap.size 38 i0 (.agg #[.int .i64 0, .slice none 0 0, .string ⟨#[]⟩]) 3 48 Try.underlying23 hi hz0 hz1 hz2 rfl (by decide) v2 (0 + os.length + 1) ([] ++ xs ++ [.int .i64 o.kd, .slice A' o.zs.length c', .string o.s]) (by rfl) ho2 w.heap.size _ 0 _ [] (by rfl) (.inl rfl) rfl (fun u hu => by simp at hu) (by unfold maxLen; omega) (by omega) b6.size ?_; intro v3 w7 ho3 hg3; have b7 : Below wr.heap.size wr w7 := b6.grown hg3 b6.size (fun j hj => (l2 j hj).1); have c7 : Cells w7 w.heap.size ([] ++ xs ++ [.int .i64 o.kd, .slice A' o.zs.length c', .string o.s] ++ []) os' := (by rw [List.nil_append, List.append_nil, hos'.out]; exact (hxc.below b7 hz).app (cO.below b7 hz)); obtain ⟨A7, cc7, rfl, hob⟩ := c7.objs (Nat.le_trans hz b7.size) ho3 (by rw [HOL.out]; omega); have p7 := p2.below b7 p2.lt; obtain ⟨m6, m7, m8, -⟩ := id p7.reads)
              | (refine step_append_row _ (by rfl) _ _ 23 (by rfl) wr.heap.size 38 i0 (.agg #[.int .i64 0, .slice none 0 0, .string ⟨#[]⟩]) 3 48 Try.underlying23 hi hz0 hz1 hz2 rfl (by decide) v1 (0 + os.length) ([] ++ xs) (by rfl) ho1 _ (some ⟨wr.heap.size, 0, none⟩) 1 1 [.int .i64 o.kd, .slice A' o.zs.length c', .string o.s] (by rfl) oneB.row3 rfl (obj_cells o A' c') (by unfold maxLen; omega) (by omega) (by have := b5.size; simp; omega) ?_; intro v2 w6 ho2 hg2; have b6 : Below wr.heap.size wr w6 := b5.grown hg2 b5.size (fun j hj => (l1 j hj).1); have l2 := World.ownsRow.lt ho2; have p6 := p2.below b6 p2.lt; obtain ⟨m3, m4, m5, -⟩ := id p6.reads)
              | (refine step_append_row _ (by rfl) _ _ 23 (by rfl) wr.heap.size 38 i0 (.agg #[.int .i64 0, .slice none 0 0, .string ⟨#[]⟩]) 3 48 Try.underlying23 hi hz0 hz1 hz2 rfl (by decide) v1 (0 + os.length) ([] ++ xs) (by rfl) ho1 _ (some ⟨wr.heap.size + 1, 0, none⟩) 1 1 [.int .i64 o.kd, .slice A' o.zs.length c', .string o.s] (by rfl) oneC.row3 rfl (obj_cells o A' c') (by unfold maxLen; omega) (by omega) (by have := b5.size; simp; omega) ?_; intro v2 w6 ho2 hg2; have b6 : Below wr.heap.size wr w6 := b5.grown hg2 b5.size (fun j hj => (l1 j hj).1); have l2 := World.ownsRow.lt ho2; have p6 := p2.below b6 p2.lt; obtain ⟨m3, m4, m5, -⟩ := id p6.reads)
              | (refine step_append_row _ (by rfl) _ _ 23 (by rfl) wr.heap.size 38 i0 (.agg #[.int .i64 0, .slice none 0 0, .string ⟨#[]⟩]) 3 48 Try.underlying23 hi hz0 hz1 hz2 rfl (by decide) v1 (0 + os.length) ([] ++ xs) (by rfl) (World.ownsRow.alloc ho1 _) _ (some ⟨w5.heap.size, 0, none⟩) 1 1 [.int .i64 o.kd, .slice A' o.zs.length c', .string o.s] (by rfl) (Blk.new_ w5 _ _ _ _).row3 rfl (obj_cells o A' c') (by unfold maxLen; omega) (by omega) (by have := b5.size; simp; omega) ?_; intro v2 w6 ho2 hg2; have b6 : Below wr.heap.size wr w6 := (b5.alloc b5.size (.cells #[.int .i64 o.kd, .slice A' o.zs.length c', .string o.s] 38)).grown hg2 (by have := b5.size; simp; omega) (fun j hj => (l1 j hj).1); have l2 := World.ownsRow.lt ho2; have p6 := p2.below b6 p2.lt; obtain ⟨m3, m4, m5, -⟩ := id p6.reads)
              | (refine step_append_row _ (by rfl) _ _ 23 (by rfl) wr.heap.size 38 i0 (.agg #[.int .i64 0, .slice none 0 0, .string ⟨#[]⟩]) 3 48 Try.underlying23 hi hz0 hz1 hz2 rfl (by decide) (.slice (some ⟨wr.heap.size, 0, none⟩) 0 0) 0 [] (by rfl) Na w.heap.size A os.length _ xs (by rfl) (hxr.below Ba.drew hz) hxl hx1 (by unfold maxLen; omega) (by omega) (by first | (simp; done) | (simp; omega)) ?_; intro v1 w5 ho1 hg1; have b5 : Below wr.heap.size wr w5 := Ba.drew.grown hg1 (by first | (simp; done) | (simp; omega)) (fun j hj => by have hj' : some (wr.heap.size) = some j := hj; injection hj' with hj'; omega); have w5a := w5; have l1 := World.ownsRow.lt ho1; have p5 := p2.below b5 p2.lt; obtain ⟨m0, m1, m2, -⟩ := id p5.reads; have ne5 := World.new_ne w5 _ m0)
              | (refine step_append_row _ (by rfl) _ _ 23 (by rfl) wr.heap.size 38 i0 (.agg #[.int .i64 0, .slice none 0 0, .string ⟨#[]⟩]) 3 48 Try.underlying23 hi hz0 hz1 hz2 rfl (by decide) (.slice (some ⟨wr.heap.size + 1, 0, none⟩) 0 0) 0 [] (by rfl) Nb w.heap.size A os.length _ xs (by rfl) (hxr.below Bb.drew hz) hxl hx1 (by unfold maxLen; omega) (by omega) (by first | (simp; done) | (simp; omega)) ?_; intro v1 w5 ho1 hg1; have b5 : Below wr.heap.size wr w5 := Bb.drew.grown hg1 (by first | (simp; done) | (simp; omega)) (fun j hj => by have hj' : some (wr.heap.size + 1) = some j := hj; injection hj' with hj'; omega); have oneB : Blk w5 wr.heap.size 38 (.int .i64 o.kd) (.slice A' o.zs.length c') (.string o.s) := (Ob.below (Below.refl _ _).drew Ob.lt).grown hg1 (fun e => by have e' : some wr.heap.size = some (wr.heap.size + 1) := e; injection e' with e'; omega); have l1 := World.ownsRow.lt ho1; have p5 := p2.below b5 p2.lt; obtain ⟨m0, m1, m2, -⟩ := id p5.reads; have ne5 := World.new_ne w5 _ m0)
              | (refine step_append_row _ (by rfl) _ _ 23 (by rfl) wr.heap.size 38 i0 (.agg #[.int .i64 0, .slice none 0 0, .string ⟨#[]⟩]) 3 48 Try.underlying23 hi hz0 hz1 hz2 rfl (by decide) (.slice (some ⟨wr.heap.size, 0, none⟩) 0 0) 0 [] (by rfl) Nc w.heap.size A os.length _ xs (by rfl) (hxr.below Bc.drew hz) hxl hx1 (by unfold maxLen; omega) (by omega) (by first | (simp; done) | (simp; omega)) ?_; intro v1 w5 ho1 hg1; have b5 : Below wr.heap.size wr w5 := Bc.drew.grown hg1 (by first | (simp; done) | (simp; omega)) (fun j hj => by have hj' : some (wr.heap.size) = some j := hj; injection hj' with hj'; omega); have oneC : Blk w5 (wr.heap.size + 1) 38 (.int .i64 o.kd) (.slice A' o.zs.length c') (.string o.s) := (Oc.below (Below.refl _ _).drew Oc.lt).grown hg1 (fun e => by have e' : some (wr.heap.size + 1) = some wr.heap.size := e; injection e' with e'; omega); have l1 := World.ownsRow.lt ho1; have p5 := p2.below b5 p2.lt; obtain ⟨m0, m1, m2, -⟩ := id p5.reads; have ne5 := World.new_ne w5 _ m0))
          all_goals
            go_wp2_with fail
            refine bodyPost_ret (v := .tuple #[v8, .bool true]) (by simp [results, Try.results98, go_sem]) rfl ⟨v8, os', true, rfl, ⟨fun h => absurd h (by omega), fun _ h => absurd h h16, fun _ _ => ⟨by rw [hos'.out]; simp, rfl⟩⟩, hv8.base (Nat.le_trans hz b7.size), b2.trans ((b7.trans (hb8.mono b7.size)).mono hz)⟩
end Go.Proofs.Ytblknnifccmpkaa
