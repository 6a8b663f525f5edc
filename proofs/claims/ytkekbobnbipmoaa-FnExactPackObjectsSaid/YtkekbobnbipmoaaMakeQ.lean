/-
  Walks: the model's choice of a base, and its PackMake.
-/
import Derived.Test.YtkekbobnbipmoaaMakeP
import Derived.Test.YtkekbobnbipmoaaMakeS
import Derived.Deep.RegionHeld3
namespace Go.Proofs.Ytkekbobnbipmoaa
open Go.RowKit Wo Pu

theorem specSize_val (n : Nat) (A : Option Addr) (c : Nat) (x y : ByteArray) (w : World) (h : Row w w.heap.size A (opsV (dMake x y))) (hn : dsz (dMake x y) = n) :
    Calls Try.prog 73 #[.slice A (dMake x y).length c] w (Ret (.int .i64 n) w) := by
  subst hn
  exact (specDeltaSize_any A c (dMake x y) w h (by have := (make_few x y).1; omega) (tsz_make x y)).mono (by rintro e w' ⟨rfl, rfl⟩; exact .mk_ (Below.refl _ _))
theorem dsz_small (x y : ByteArray) : dsz (dMake x y) ≤ 2097152 := by
  have h1 := (make_few x y).1
  have h2 := tsz_make x y
  unfold dsz
  omega

set_option maxRecDepth 100000 in
set_option maxHeartbeats 4000000 in
theorem l3Best_any (A A' : Option Addr) (c c' : Nat) (es : List Ent) (list : List Ob) (t : ByteArray) (w : World) (h : Ents w w.heap.size A es) (h' : Objs w w.heap.size A' list) (hbas : Bas es) (he : es.length ≤ 16) (hel : es.length ≤ list.length) (hll : list.length ≤ 16)
    (HTX : Hid (∀ i, i < es.length → (txtOf list (i : Int)).size ≤ 8)) (ht : t.size ≤ 8) :
    Calls Try.prog 39 #[.slice A es.length c, .slice A' list.length c', .string t] w (Ret (.int .i64 (bestF es list t es.length).1) w) := by
  have HBAS := hid hbas
  clear hbas
  obtain ⟨n0, hn0⟩ : ∃ n0, dsz (dMake ⟨#[]⟩ t) = n0 := ⟨_, rfl⟩
  have HN0 := hid hn0
  have hn0s := dsz_small ⟨#[]⟩ t
  rw [hn0] at hn0s
  clear hn0
  go_enter Try.func39, Try.ntmps39
  go_wp2_with fail
  refine (specDeltaMake_any ⟨#[]⟩ t w (by decide) (by omega)).mono ?_
  rintro e w1 ⟨v1, rfl, o1, b1⟩
  obtain ⟨A1, c1, rfl, hr1, _⟩ := o1.form
  go_wp2_with fail
  refine (specSize_val n0 A1 c1 ⟨#[]⟩ t w1 hr1 HN0.out).mono ?_
  rintro e w2 ⟨rfl, b2⟩
  have b2' := b1.trans (b2.mono b1.size)
  clear o1 hr1 b1 b2
  go_wp2_with fail
  go_loopw [7, 8, 9] (fun p q i wr => ∃ (k : Nat) (b : Int) (m : Nat), i = .int .i64 k ∧ k ≤ es.length ∧ p = .int .i64 b ∧ q = .int .i64 m ∧ m ≤ 2097152 ∧ Hid (bestF es list t k = (b, m)) ∧ Below w.heap.size w wr) (fun _ _ i _ => es.length - (intOf i).toNat)
  case atStart => exact ⟨0, -1, n0, rfl, Nat.zero_le _, rfl, rfl, hn0s, by show (-1, dsz (dMake ⟨#[]⟩ t)) = _; rw [HN0.out], b2'⟩
  case round =>
    obtain ⟨k, b, m, rfl, hk, rfl, rfl, hm, HB, hb⟩ := hrel
    clear b2'
    have hz := hb.size
    by_cases hlt : k < es.length
    · have hkl : k < list.length := by omega
      obtain ⟨o, ad, A2, c2, ho, rfl, ha, g0, g1, g2, g3⟩ := (h'.below hb (Nat.le_refl _)).obj hkl
      have htx : txtOf list (k : Int) = o.s := by rw [txt_some hkl, ho]
      have hs8 := HTX.out k hlt
      rw [htx] at hs8
      have hE := (h.below hb (Nat.le_refl _)).take_ es.length
      have i0 : 0 ≤ (k : Int) := by omega
      have i1 : (k : Int) < (list.length : Int) := by omega
      have i2 : (k : Int) < (es.length : Int) := by omega
      obtain ⟨n1, hn1⟩ : ∃ n1, dsz (dMake o.s t) = n1 := ⟨_, rfl⟩
      have HN1 := hid hn1
      have hn1s := dsz_small o.s t
      rw [hn1] at hn1s
      obtain ⟨d, hd⟩ : ∃ d, dep es k = d := ⟨_, rfl⟩
      have HD := hid hd
      have hdl := dep_le HBAS.out k hlt
      rw [hd] at hdl
      have hEnt := h.below hb (Nat.le_refl _)
      have HTXK := hid htx
      clear ho hn1 hd htx hE
      go_wp2_with fail
      refine (specDeltaMake_any o.s t wr (by omega) (by omega)).mono ?_
      rintro e w3 ⟨v3, rfl, o3, b3⟩
      obtain ⟨A3, c3, rfl, hr3, _⟩ := o3.form
      go_wp2_with fail
      refine (specSize_val n1 A3 c3 o.s t w3 hr3 HN1.out).mono ?_
      rintro e w4 ⟨rfl, b4⟩
      have b34 := b3.trans (b4.mono b3.size)
      have hb4 := hb.trans (b34.mono hz)
      have hEn4 := hEnt.below b34 hz
      clear o3 hr3 b3 b4 g0 g1 g2 g3 ha hEnt hb
      by_cases h1 : n1 < m
      · have h1' : (n1 : Int) < (m : Int) := by omega
        by_cases h2 : d < 2
        · have h2' : (d : Int) < 2 := by omega
          have HN : Hid (bestF es list t (k + 1) = ((k : Int), n1)) := by
            show _ = _
            rw [bestF_yes (by rw [HTXK.out, HN1.out, HB.out]; exact h1) (by rw [HD.out]; exact h2), HTXK.out, HN1.out]
          clear h1 h2 HB
          go_wp2_with (go_at_call 65; refine (l3Depth_any _ A es.length c es k _ hEn4 HBAS.out hlt (Nat.le_refl _) (by omega)).mono ?_; rintro e w' ⟨rfl, rfl⟩; rw [HD.out])
          go_roundw
          case rel => exact ⟨k + 1, (k : Int), n1, by go_num, by omega, rfl, rfl, hn1s, HN, hb4⟩
          case measure => simp [intOf]; omega
        · have h2' : ¬ (d : Int) < 2 := by omega
          have HN : Hid (bestF es list t (k + 1) = (b, m)) := by show _ = _; rw [bestF_no (fun e => h2 (by rw [← HD.out]; exact e.2)), HB.out]
          clear h1 h2 HB
          go_wp2_with (go_at_call 65; refine (l3Depth_any _ A es.length c es k _ hEn4 HBAS.out hlt (Nat.le_refl _) (by omega)).mono ?_; rintro e w' ⟨rfl, rfl⟩; rw [HD.out])
          go_roundw
          case rel => exact ⟨k + 1, b, m, by go_num, by omega, rfl, rfl, hm, HN, hb4⟩
          case measure => simp [intOf]; omega
      · have h1' : ¬ (n1 : Int) < (m : Int) := by omega
        have HN : Hid (bestF es list t (k + 1) = (b, m)) := by show _ = _; rw [bestF_no (fun e => h1 (by have := e.1; rw [HTXK.out, HN1.out, HB.out] at this; exact this)), HB.out]
        clear h1 HB
        go_wp2_with fail
        go_roundw
        case rel => exact ⟨k + 1, b, m, by go_num, by omega, rfl, rfl, hm, HN, hb4⟩
        case measure => simp [intOf]; omega
    · have hk' : k = es.length := by omega
      subst hk'
      have HF : Hid ((bestF es list t es.length).1 = b) := by show _ = _; rw [HB.out]
      go_wp2
      go_ret
      rw [HF.out]
      exact .mk_ hb

theorem specValid_val (v : Bool) (B : Nat) (A : Option Addr) (c : Nat) (o : Ob) (w : World) (hv : vOb o = v) (hr : Row w B A (ints o.zs)) (hB : B ≤ w.heap.size) (hm : o.zs.length ≤ maxLen) (hs : o.s.size ≤ maxLen) :
    Calls Try.prog 38 #[ob o.kd A o.zs.length c o.s] w (Ret (.bool v) w) := by
  subst hv
  exact specValid_any B A c o.kd o.zs o.s w hr hB hm hs
theorem alloc_le {w : World} {n : Nat} (h : n ≤ w.heap.size) (b : Obj) : n ≤ (w.alloc b).heap.size := by rw [World.size_alloc]; omega
theorem own0 {w : World} {B : Nat} {v : Value} {zs : List Int} (h : w.ownsRow B 3 1 v (0 + zs.length) ([] ++ ints zs)) : Own w B v zs := by rw [Nat.zero_add, List.nil_append] at h; exact h
theorem ap2_of {w w' : World} {B : Nat} {v u : Value} {zs : List Int} {os : List Op2} (h : Own w B v zs) (h' : OwnOps w' w.heap.size u os) : Ap2 v u := fun g h1 h2 => by
  have e1 := (World.ownsRow.lt h g h1).2
  have e2 := (World.ownsRow.lt h' g h2).1
  omega
theorem nil_far {n : Nat} : ∀ q, (Value.slice (some ⟨n, 0, none⟩) 0 0).ownBlock = some q → n ≤ q := fun q hq => by
  have hq' : some n = some q := hq
  injection hq' with hq'
  omega
theorem four_row (w : World) (v0 v1 v2 v3 : Value) (t : TypeId) : Row (w.alloc (.cells #[v0, v1, v2, v3] t)) (w.heap.size + 1) (some ⟨w.heap.size, 0, none⟩) [v0, v1, v2, v3] :=
  .inr ⟨_, rfl, Nat.lt_succ_self _, four_at w _ v0 v1 v2 v3 t rfl⟩

set_option maxRecDepth 100000 in
set_option maxHeartbeats 8000000 in
theorem specPackMake_any (A : Option Addr) (c : Nat) (list : List Ob) (w : World) (h : Objs w w.heap.size A list) (hn : list.length ≤ 1048576) (hf : Fit list) :
    Calls Try.prog 12 #[.slice A list.length c] w (Maked list w) := by
  obtain ⟨q0, hq, hq0, hq1, hq2⟩ := info_of info_ent
  obtain ⟨j0, hj, hj0, hj1, hj2⟩ := info_of info_int
  go_enter Try.func12, Try.ntmps12
  have n1 := nil_own (w := w) (B := w.heap.size) (Nat.le_refl _) 33 4
  have a1 := (Below.refl w.heap.size w).alloc (Nat.le_refl _) (.cells #[] 33)
  go_wp2_with fail
  go_loopw [4, 5] (fun v4 i wr => ∃ (k : Nat), i = .int .i64 k ∧ k ≤ list.length ∧ OwnEnts wr w.heap.size wr.heap.size v4 (ents list k) ∧
    Hid ((∀ j (hj : j < list.length), j < k → vOb list[j] = true) ∧ (0 < k → list.length ≤ 16)) ∧ Below w.heap.size w wr) (fun _ i _ => list.length - (intOf i).toNat)
  case atStart => exact ⟨0, rfl, Nat.zero_le _, ⟨[], [], n1, EIn.nil_ _ _ _⟩, ⟨fun j hj hj0 => absurd hj0 (by omega), fun h => absurd h (by omega)⟩, a1⟩
  case round =>
    obtain ⟨k, rfl, hk, hoe, HV, hb⟩ := hrel
    clear n1 a1
    have hz := hb.size
    have hlen := ents_length (list := list) (k := k) hk
    obtain ⟨AE, cE, rfl, hE, hcE⟩ := hoe.form
    have hbas := ents_bas (list := list) (k := k) hk
    obtain ⟨es, hes⟩ : ∃ es, ents list k = es := ⟨_, rfl⟩
    rw [hes] at hoe hlen hcE hbas hE ⊢
    have HES := hid hes
    have HBAS := hid hbas
    clear hes hbas
    have HEL := hid hlen
    clear hlen
    by_cases hlt : k < list.length
    · obtain ⟨o, ad, A', c', ho, rfl, ha, v0, v1, v2, v3⟩ := h.obj hlt
      have hfo := hf o (by rw [← ho]; exact List.getElem_mem hlt)
      have HO := hid ho
      clear ho
      have i0 : 0 ≤ (k : Int) := by omega
      have i1 : (k : Int) < (list.length : Int) := by omega
      have hgw := fun (x : World) (hx : Below w.heap.size w x) => three_later hx (by rw [add_block]; rw [add_block] at ha; exact ha) v0 v1 v2
      have HGW := hid hgw
      have g3 := v3.below hb (Nat.le_refl _)
      clear v0 v1 v2 v3 hgw
      obtain ⟨g0, g1, g2⟩ := HGW.out _ hb
      cases hvo : vOb o
      · have HF : Hid (makeB list = false) := makeB_b hlt (by rw [HO.out]; exact hvo)
        go_wp2_with fail
        refine (specValid_val false w.heap.size A' c' o _ hvo g3 hz hfo.1 hfo.2).mono ?_
        rintro e w5 ⟨rfl, hb5⟩
        go_wp2_with fail
        go_ret2
        exact Maked.no_ HF.out (hb.trans (hb5.mono hz))
      · by_cases hl16 : list.length ≤ 16
        · have hl16' : ¬ 16 < (list.length : Int) := by omega
          have hvo' := hvo
          have HVO := hid hvo
          have el1 : es.length ≤ 16 := by have := HEL.out; omega
          have hel : es.length ≤ list.length := by have := HEL.out; omega
          have HTX : Hid (∀ i, i < es.length → (txtOf list (i : Int)).size ≤ 8) := fun i hi => by
            have hi' : i < k := by have := HEL.out; omega
            rw [txt_some (by omega)]
            exact valid_small (HV.out.1 i (by omega) hi')
          have hs8 := valid_small hvo
          clear hvo
          go_wp2_with fail
          refine (specValid_val true w.heap.size A' c' o _ hvo' g3 hz hfo.1 hfo.2).mono ?_
          rintro e w5 ⟨rfl, hb5⟩
          have b5 := hb.trans (hb5.mono hz)
          have r5 := g3.below hb5 hz
          have oe5 := hoe.below hb5
          have hE5 := oe5.ents
          have hL5 := (h.below b5 (Nat.le_refl _)).more b5.size
          have z5 := b5.size
          clear g0 g1 g2 g3 hoe hE hb5 hb hz hvo'
          obtain ⟨g0, g1, g2⟩ := HGW.out _ b5
          go_wp2_with fail
          refine (l3Best_any AE (some ad) cE c es list o.s w5 hE5 hL5 HBAS.out el1 hel hl16 HTX hs8).mono ?_
          rintro e w6 ⟨rfl, b6⟩
          have oe6 := oe5.below b6
          have hb6 := b5.trans (b6.mono z5)
          have r6 := r5.below b6 z5
          have hL6 := (h.below hb6 (Nat.le_refl _)).more hb6.size
          have HG6 : Hid (∀ x, Below w6.heap.size w6 x → x.cell? (ad.add (k * 3)) = some (.int .i64 o.kd) ∧ x.cell? ⟨(ad.add (k * 3)).block, (ad.add (k * 3)).off + 1, none⟩ = some (.slice A' o.zs.length c') ∧ x.cell? ⟨(ad.add (k * 3)).block, (ad.add (k * 3)).off + 2, none⟩ = some (.string o.s)) := fun x hx => HGW.out x (hb6.trans (hx.mono hb6.size))
          clear oe5 b5 r5 hE5 hL5 z5 b6 g0 g1 g2
          obtain ⟨g0, g1, g2⟩ := HG6.out _ (Below.refl _ _)
          have z6 := hb6.size
          have hbr := best_lt es list o.s es.length
          obtain ⟨b, hbb⟩ : ∃ b, (mkE es list o).b = b := ⟨_, rfl⟩
          have hbr' : -1 ≤ b ∧ b < (es.length : Int) := by rw [← hbb]; exact hbr
          have hbb2 : (bestF es list o.s es.length).1 = b := hbb
          rw [hbb2]
          have HMK : Hid (mkE es list o = ⟨o.kd, o.zs, b, dMake (txtOf list b) o.s⟩) := by show _ = _; rw [← hbb]; rfl
          clear hbr hbb hbb2
          obtain ⟨T, hT⟩ : ∃ T, txtOf list b = T := ⟨_, rfl⟩
          rw [hT] at HMK
          have hT8 : T.size ≤ 8 := by
            rw [← hT]
            by_cases hb0 : 0 ≤ b
            · have := HTX.out b.toNat (by omega)
              rw [show ((b.toNat : Nat) : Int) = b from by omega] at this
              exact this
            · rw [txt_none (by omega)]; decide
          have bA := (Below.refl w6.heap.size w6).alloc (Nat.le_refl _) (.cells #[] 3)
          have nA := nil_own (w := w6) (B := w6.heap.size) (Nat.le_refl _) 3 1
          obtain ⟨xs6, ps6, hr6, hin6⟩ := oe6
          have rA := r6.below bA.drew z6
          have hs20 : o.s.size ≤ 1048576 := by omega
          have hT20 : T.size ≤ 1048576 := by omega
          have few : o.zs.length ≤ 1048576 := by have := (vldB_parts HVO.out).2.1; omega
          have fewO : (dMake T o.s).length ≤ 1048576 := by have := (make_few T o.s).1; omega
          obtain ⟨ops, hops⟩ : ∃ ops, dMake T o.s = ops := ⟨_, rfl⟩
          have hmk := fun (w' : World) => specDeltaMake_any T o.s w' hT20 hs20
          rw [hops] at HMK fewO
          simp only [hops] at hmk
          by_cases hb0 : 0 ≤ b
          · obtain ⟨j, rfl⟩ : ∃ j : Nat, b = (j : Int) := ⟨b.toNat, by omega⟩
            have hjl : j < list.length := by omega
            obtain ⟨o2, ad2, A2, c2, ho2, hA2, -, -, -, k2, -⟩ := hL6.obj hjl
            injection hA2 with hA2
            subst hA2
            rw [txt_some hjl, ho2] at hT
            rw [hT] at k2
            have i3 : (j : Int) < (list.length : Int) := by omega
            clear ho2 hL6
            go_wp2_with fail
            have hmkA := hmk
            have hE1 : es.length + 1 ≤ maxLen := by unfold maxLen; omega
            have hE2 : (es.length + 1) * 64 ≤ 140737488355328 := by omega
            have hI0 : (ints o.zs).length = o.zs.length * 1 := by rw [ints_length]; omega
            have hI1 : 0 + o.zs.length ≤ maxLen := by unfold maxLen; omega
            have hI2 : (0 + o.zs.length) * 8 ≤ 140737488355328 := by omega
            go_region_held3 (fun w' => w'.cell? (ad.add (k * 3)) = some (.int .i64 o.kd) ∧ w'.cell? ⟨(ad.add (k * 3)).block, (ad.add (k * 3)).off + 1, none⟩ = some (.slice A' o.zs.length c') ∧ w'.cell? ⟨(ad.add (k * 3)).block, (ad.add (k * 3)).off + 2, none⟩ = some (.string o.s)) (first | with_reducible exact HG6.out _ bA | with_reducible exact HG6.out _ (b8.alloc b8.size _) | go_keep)
              (first
                | (refine step_append_row _ (by rfl) _ _ 25 (by rfl) w.heap.size 33 q0 (.agg #[.int .i64 0, .slice none 0 0, .int .i64 0, .slice none 0 0]) 4 64 Try.underlying25 hq hq0 hq1 hq2 rfl (by decide) (.slice AE es.length cE) es.length xs6 (by rfl) (World.ownsRow.alloc hr8 _) (w8.heap.size + 1) (some ⟨w8.heap.size, 0, none⟩) 1 1 [.int .i64 o.kd, .slice A5 o.zs.length c5, .int .i64 ((j : Int)), .slice A8 ops.length c8] (by rfl) (four_row _ _ _ _ _ _) rfl (ent_cells _ _ _ _ _ _ _ _) hE1 hE2 (alloc_le z8 _) ?_; intro v9 w9 hown9 hg9; have b9 : Below w.heap.size w w9 := ((hb6.trans (b8.mono z6)).alloc z8 (.cells #[.int .i64 o.kd, .slice A5 o.zs.length c5, .int .i64 ((j : Int)), .slice A8 ops.length c8] 33)).grown hg9 (alloc_le z8 _) (fun q hq => (World.ownsRow.lt hr8 q hq).1); have oe9 : OwnEnts w9 w.heap.size w9.heap.size v9 (es ++ [⟨o.kd, o.zs, ((j : Int)), ops⟩]) := EIn.app (hin6.low.below b8) hr8 hl8 ho8 hap hlM hoM hown9 hg9; obtain ⟨m6, m7, m8⟩ := HGW.out _ b9)
                | (go_at_call 40; (with_reducible refine (hmkA w5).mono ?_); rintro e w8 ⟨v8, rfl, o8, d8⟩; obtain ⟨A8, c8, rfl, -, -⟩ := o8.form; have b8 : Below w6.heap.size w6 w8 := b5.trans (d8.mono b5.size); have z8 : w.heap.size ≤ w8.heap.size := Nat.le_trans z6 b8.size; have hr8 := own_below hr6 b8 (Nat.le_refl _); have hl8 : Own w8 w.heap.size (.slice A5 o.zs.length c5) o.zs := (l5.below d8 (Nat.le_refl _)).base z6; have hoM := fun q hq => Nat.le_trans b5.size (World.ownsRow.lt o8 q hq).1; have hlM := fun q hq => (World.ownsRow.lt l5 q hq).1; have hap : Ap2 (.slice A5 o.zs.length c5) (.slice A8 ops.length c8) := ap2_of l5 o8; have ho8 : OwnOps w8 w.heap.size (.slice A8 ops.length c8) ops := o8.base (Nat.le_trans z6 b5.size); obtain ⟨m3, m4, m5⟩ := HG6.out _ b8)
                | (refine step_append_row _ (by rfl) _ _ 30 (by rfl) w6.heap.size 3 j0 (.int .i64 0) 1 8 Try.underlying30 hj hj0 hj1 hj2 rfl (by decide) (.slice (some ⟨w6.heap.size, 0, none⟩) 0 0) 0 [] (by rfl) nA w.heap.size A' o.zs.length c' (ints o.zs) (by rfl) rA hI0 (ints_cells _) hI1 hI2 bA.size ?_; intro v5 w5 hown5 hg5; have l5 : Own w5 w6.heap.size v5 o.zs := own0 hown5; obtain ⟨A5, c5, rfl, -⟩ := l5.form; have b5 : Below w6.heap.size w6 w5 := bA.drew.grown hg5 bA.size nil_far; obtain ⟨m0, m1, m2⟩ := HG6.out _ b5))
            have HEN : Hid (ents list (k + 1) = es ++ [⟨o.kd, o.zs, ((j : Int)), ops⟩]) := by show _ = _; rw [ents_succ hlt, HES.out, HO.out, HMK.out]
            have HV2 : Hid ((∀ j (hj : j < list.length), j < k + 1 → vOb list[j] = true) ∧ (0 < k + 1 → list.length ≤ 16)) := ⟨fun j hj hjk => by
              by_cases e : j = k
              · subst e; rw [HO.out]; exact HVO.out
              · exact HV.out.1 j hj (by omega), fun _ => hl16⟩
            go_wp2_with fail
            go_roundw
            case rel => exact ⟨k + 1, by go_num, by omega, by rw [HEN.out]; exact oe9, HV2, b9⟩
            case measure => simp [intOf]; omega
          · clear hL6
            have hTe : T = ⟨#[]⟩ := by rw [← hT]; exact txt_none (by omega)
            clear hT
            subst hTe
            go_wp2_with fail
            have hmkA := hmk
            have hE1 : es.length + 1 ≤ maxLen := by unfold maxLen; omega
            have hE2 : (es.length + 1) * 64 ≤ 140737488355328 := by omega
            have hI0 : (ints o.zs).length = o.zs.length * 1 := by rw [ints_length]; omega
            have hI1 : 0 + o.zs.length ≤ maxLen := by unfold maxLen; omega
            have hI2 : (0 + o.zs.length) * 8 ≤ 140737488355328 := by omega
            go_region_held3 (fun w' => w'.cell? (ad.add (k * 3)) = some (.int .i64 o.kd) ∧ w'.cell? ⟨(ad.add (k * 3)).block, (ad.add (k * 3)).off + 1, none⟩ = some (.slice A' o.zs.length c') ∧ w'.cell? ⟨(ad.add (k * 3)).block, (ad.add (k * 3)).off + 2, none⟩ = some (.string o.s)) (first | with_reducible exact HG6.out _ bA | with_reducible exact HG6.out _ (b8.alloc b8.size _) | go_keep)
              (first
                | (refine step_append_row _ (by rfl) _ _ 25 (by rfl) w.heap.size 33 q0 (.agg #[.int .i64 0, .slice none 0 0, .int .i64 0, .slice none 0 0]) 4 64 Try.underlying25 hq hq0 hq1 hq2 rfl (by decide) (.slice AE es.length cE) es.length xs6 (by rfl) (World.ownsRow.alloc hr8 _) (w8.heap.size + 1) (some ⟨w8.heap.size, 0, none⟩) 1 1 [.int .i64 o.kd, .slice A5 o.zs.length c5, .int .i64 (b), .slice A8 ops.length c8] (by rfl) (four_row _ _ _ _ _ _) rfl (ent_cells _ _ _ _ _ _ _ _) hE1 hE2 (alloc_le z8 _) ?_; intro v9 w9 hown9 hg9; have b9 : Below w.heap.size w w9 := ((hb6.trans (b8.mono z6)).alloc z8 (.cells #[.int .i64 o.kd, .slice A5 o.zs.length c5, .int .i64 (b), .slice A8 ops.length c8] 33)).grown hg9 (alloc_le z8 _) (fun q hq => (World.ownsRow.lt hr8 q hq).1); have oe9 : OwnEnts w9 w.heap.size w9.heap.size v9 (es ++ [⟨o.kd, o.zs, (b), ops⟩]) := EIn.app (hin6.low.below b8) hr8 hl8 ho8 hap hlM hoM hown9 hg9; obtain ⟨m6, m7, m8⟩ := HGW.out _ b9)
                | (go_at_call 40; (with_reducible refine (hmkA w5).mono ?_); rintro e w8 ⟨v8, rfl, o8, d8⟩; obtain ⟨A8, c8, rfl, -, -⟩ := o8.form; have b8 : Below w6.heap.size w6 w8 := b5.trans (d8.mono b5.size); have z8 : w.heap.size ≤ w8.heap.size := Nat.le_trans z6 b8.size; have hr8 := own_below hr6 b8 (Nat.le_refl _); have hl8 : Own w8 w.heap.size (.slice A5 o.zs.length c5) o.zs := (l5.below d8 (Nat.le_refl _)).base z6; have hoM := fun q hq => Nat.le_trans b5.size (World.ownsRow.lt o8 q hq).1; have hlM := fun q hq => (World.ownsRow.lt l5 q hq).1; have hap : Ap2 (.slice A5 o.zs.length c5) (.slice A8 ops.length c8) := ap2_of l5 o8; have ho8 : OwnOps w8 w.heap.size (.slice A8 ops.length c8) ops := o8.base (Nat.le_trans z6 b5.size); obtain ⟨m3, m4, m5⟩ := HG6.out _ b8)
                | (refine step_append_row _ (by rfl) _ _ 30 (by rfl) w6.heap.size 3 j0 (.int .i64 0) 1 8 Try.underlying30 hj hj0 hj1 hj2 rfl (by decide) (.slice (some ⟨w6.heap.size, 0, none⟩) 0 0) 0 [] (by rfl) nA w.heap.size A' o.zs.length c' (ints o.zs) (by rfl) rA hI0 (ints_cells _) hI1 hI2 bA.size ?_; intro v5 w5 hown5 hg5; have l5 : Own w5 w6.heap.size v5 o.zs := own0 hown5; obtain ⟨A5, c5, rfl, -⟩ := l5.form; have b5 : Below w6.heap.size w6 w5 := bA.drew.grown hg5 bA.size nil_far; obtain ⟨m0, m1, m2⟩ := HG6.out _ b5))
            have HEN : Hid (ents list (k + 1) = es ++ [⟨o.kd, o.zs, (b), ops⟩]) := by show _ = _; rw [ents_succ hlt, HES.out, HO.out, HMK.out]
            have HV2 : Hid ((∀ j (hj : j < list.length), j < k + 1 → vOb list[j] = true) ∧ (0 < k + 1 → list.length ≤ 16)) := ⟨fun j hj hjk => by
              by_cases e : j = k
              · subst e; rw [HO.out]; exact HVO.out
              · exact HV.out.1 j hj (by omega), fun _ => hl16⟩
            go_wp2_with fail
            go_roundw
            case rel => exact ⟨k + 1, by go_num, by omega, by rw [HEN.out]; exact oe9, HV2, b9⟩
            case measure => simp [intOf]; omega
        · have HF := hid (makeB_a hl16)
          have hl16' : 16 < (list.length : Int) := by omega
          go_wp2_with fail
          refine (specValid_val true w.heap.size A' c' o _ hvo g3 hz hfo.1 hfo.2).mono ?_
          rintro e w5 ⟨rfl, hb5⟩
          go_wp2_with fail
          go_ret2
          exact Maked.no_ HF.out (hb.trans (hb5.mono hz))
    · have hk' : k = list.length := by omega
      subst hk'
      have hl16 : list.length ≤ 16 := by
        by_cases h0 : 0 < list.length
        · exact HV.out.2 h0
        · omega
      have HM : Hid (makeB list = true) := makeB_iff.2 ⟨hl16, fun o ho => by
        obtain ⟨j, hj, rfl⟩ := List.mem_iff_getElem.1 ho
        exact HV.out.1 j hj hj⟩
      have HP : Hid (packM list = es) := by show _ = _; rw [packM_yes HM.out, HES.out]
      go_wp2
      go_ret2
      exact ⟨.slice AE es.length cE, by rw [HM.out]; rfl, by rw [HP.out]; exact hoe, hb⟩
end Go.Proofs.Ytkekbobnbipmoaa
