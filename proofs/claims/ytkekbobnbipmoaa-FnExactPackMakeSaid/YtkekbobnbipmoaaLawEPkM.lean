/-
  Walk of the exact law on PackMake.
-/
import Derived.Test.YtkekbobnbipmoaaToEnt
import Derived.Test.YtkekbobnbipmoaaHeldE
import Derived.Test.YtkekbobnbipmoaaMakeP
import Derived.Test.YtkekbobnbipmoaaMakeQ
namespace Go.Proofs.Ytkekbobnbipmoaa
open Go.RowKit Wo Pu

theorem row_heap {w w' : World} {B n sz : Nat} {e : TypeId} {v : Value} {xs : List Value} (h : w.ownsRow B e sz v n xs) (hk : ∀ g, v.ownBlock = some g → w'.heap[g]? = w.heap[g]?) : w'.ownsRow B e sz v n xs := by
  obtain ⟨h1, h2⟩ := h
  refine ⟨h1, ?_⟩
  rcases h2 with h2 | ⟨g, cap, cur, hv, hB, hh, hr⟩
  · exact .inl h2
  · exact .inr ⟨g, cap, cur, hv, hB, (hk g (by rw [hv]; rfl)).trans hh, hr⟩
theorem Apart.row {B C D n sz : Nat} {w w' : World} {e : TypeId} {v : Value} {xs : List Value} (ha : Apart B C w w') (h : w.ownsRow D e sz v n xs) (hD : C ≤ D) : w'.ownsRow D e sz v n xs :=
  row_heap h (fun g hg => ha.2 g (Nat.le_trans hD (World.ownsRow.lt h g hg).1) (World.ownsRow.lt h g hg).2)
theorem OwnEnts.apart {B C D M : Nat} {w w' : World} {v : Value} {es : List Ent} (h : OwnEnts w D M v es) (ha : Apart B C w w') (hD : C ≤ D) : OwnEnts w' D M v es := by
  obtain ⟨xs, ps, h1, p1, p2, p3, p4⟩ := h
  refine ⟨xs, ps, ha.row h1 hD, p1, fun j hj hj2 => ?_, p3, p4⟩
  obtain ⟨a, b, c, d, e, f⟩ := p2 j hj hj2
  exact ⟨a, b, c, d, ha.row e hD, ha.row f hD⟩
theorem packM_small (list : List Ob) : (packM list).length ≤ 16 ∧ ∀ e ∈ packM list, e.zs.length ≤ 8 ∧ e.ops.length ≤ 8 := by
  cases hm : makeB list
  · rw [packM_no hm]; exact ⟨Nat.zero_le _, fun e he => by cases he⟩
  · have hmm := makeB_iff.1 hm
    rw [packM_yes hm]
    refine ⟨by rw [ents_length (Nat.le_refl _)]; exact hmm.1, fun e he => ?_⟩
    obtain ⟨i, hi, rfl⟩ := List.mem_iff_getElem.1 he
    have hl : i < list.length := by rw [ents_length (Nat.le_refl _)] at hi; exact hi
    rw [ents_get (list := list) (i := i) (n := list.length) (Nat.le_refl _) hl]
    have h2 := (vldB_parts (hmm.2 _ (List.getElem_mem hl))).2.1
    have h3 := (make_few (txtOf list (bestF (ents list i) list list[i].s (ents list i).length).1) list[i].s).1
    exact ⟨by show list[i].zs.length ≤ 8; omega, h3⟩

set_option maxRecDepth 100000 in
set_option maxHeartbeats 8000000 in
theorem exactPackMake_any (A : Option Addr) (c : Nat) (list : List Ob) (w : World) (h : Objs w w.heap.size A list) (hf : Fit list) (hn : list.length ≤ maxLen) :
    Calls Try.prog 7 #[.slice A list.length c] w (Ret (.bool true) w) := by
  go_enter Try.func7, Try.ntmps7
  go_wp2_with fail
  refine (szObjectS_any A c list 1048576 w h hf hn (by omega) (by omega)).mono ?_
  rintro e w1 ⟨q, rfl, hr, b1⟩
  rcases hr with rfl | ⟨hr0, hre⟩
  · go_wp2
    go_ret
    exact .mk_ b1
  · obtain ⟨hl, hsz⟩ := allSz_fits (os := list) (m := 1048576) (by omega)
    have hs1 : ∀ o ∈ list, o.zs.length ≤ 1048576 := fun o ho => (hsz o ho).1
    obtain ⟨hn16, hk8⟩ := packM_small list
    have SP : Hid (∀ A' c' x, Objs x x.heap.size A' list → Calls Try.prog 12 #[.slice A' list.length c'] x (Maked list x)) := fun A' c' x hx => specPackMake_any A' c' list x hx hl hf
    have IM : Hid (∀ A' c' x, Objs x x.heap.size A' list → Calls Try.prog 11 #[.slice A' list.length c'] x (Maked list x)) := fun A' c' x hx => implPackMake_any A' c' list x hx hl hf
    unfold Maked at SP IM
    obtain ⟨es, hes⟩ : ∃ es, packM list = es := ⟨_, rfl⟩
    obtain ⟨b, hb⟩ : ∃ b, makeB list = b := ⟨_, rfl⟩
    rw [hes] at hn16 hk8 SP IM
    rw [hb] at SP IM
    have hn1 : es.length ≤ 1048576 := by omega
    have hk1 : ∀ e ∈ es, e.zs.length ≤ 1048576 ∧ e.ops.length ≤ 1048576 := fun e he => by have := hk8 e he; omega
    have HK8 := hid hk8
    have HL : Hid (∀ x, Below w.heap.size w x → Objs x x.heap.size A list) := fun x hx => (h.below hx (Nat.le_refl _)).more hx.size
    clear hre hsz hk8 hes hb
    go_wp2_with fail
    refine (toObjectS_any A c list w1 (HL.out _ b1) hl hs1).mono ?_
    rintro e w2 ⟨g2, rfl, f2, hb⟩
    have b2 := b1.trans (hb.mono b1.size)
    clear b1 hb
    go_wp2_with fail
    refine (SP.out _ _ w2 f2.objs).mono ?_
    rintro e w3 ⟨v3, rfl, o3, hb⟩
    obtain ⟨A3, c3, rfl, q3, -⟩ := o3.form
    have b3 := b2.trans (hb.mono b2.size)
    clear b2 hb f2 o3
    -- x0
    go_wp2_with fail
    refine (toObjectS_any A c list w3 (HL.out _ b3) hl hs1).mono ?_
    rintro e w4 ⟨g4, rfl, f4, hb⟩
    have b4 := b3.trans (hb.mono b3.size)
    have q4 := q3.below hb (Nat.le_refl _)
    have l4 := f4.lists
    have z4 := hb.size
    have b3s := b3.size
    have b4s := b4.size
    clear b3 hb q3
    go_wp2_with fail
    refine (IM.out _ _ w4 f4.objs).mono ?_
    rintro e w5 ⟨v5, rfl, o5, hb⟩
    obtain ⟨A5, c5, rfl, h5, -⟩ := o5.form
    have b5 := b4.trans (hb.mono b4.size)
    have q5 := q4.below hb (by omega)
    have l5 := l4.below hb (Nat.le_refl _)
    have f5 := f4.below hb
    have z5 := hb.size
    clear b4 hb q4 l4 f4
    -- the answer is the model's
    go_wp2_with fail
    refine (eqPackEntryS_same A5 A3 c5 c3 es w5 h5 (q5.more (by omega)) hn1 hk1).mono ?_
    rintro e w6 ⟨rfl, hb⟩
    have b6 := b5.trans (hb.mono b5.size)
    have q6 := q5.below hb (by omega)
    have l6 := l5.below hb (by omega)
    have f6 := f5.below hb
    have o6 := o5.below hb
    have z6 := hb.size
    clear b5 hb q5 l5 f5 o5 h5
    -- x0 is as it was
    go_wp2_with fail
    refine (toObjectS_any A c list w6 (HL.out _ b6) hl hs1).mono ?_
    rintro e w7 ⟨g7, rfl, f7, hb⟩
    have b7 := b6.trans (hb.mono b6.size)
    have q7 := q6.below hb (by omega)
    have l7 := l6.below hb (by omega)
    have e7 := f6.below hb
    have o7 := o6.below hb
    have z7 := hb.size
    clear b6 hb q6 l6 f6 o6
    go_wp2_with fail
    refine (eqObjectS_same (some ⟨g4, 0, none⟩) (some ⟨g7, 0, none⟩) list.length list.length list w7 e7.objs f7.objs hl hs1).mono ?_
    rintro e w8 ⟨rfl, hb⟩
    have b8 := b7.trans (hb.mono b7.size)
    have q8 := q7.below hb (by omega)
    have l8 := l7.below hb (by omega)
    have o8 := o7.below hb
    have z8 := hb.size
    clear b7 hb q7 l7 e7 f7 o7
    -- x0 is marked
    go_wp2_with fail
    refine (markObjectS_any w3.heap.size w4.heap.size g4 list w8 l8 (by omega) z4 hl hs1).mono ?_
    rintro e w9 ⟨k9, rfl, ⟨hk0, hk9⟩, ha⟩
    have b9 := b8.trans (ha.1.mono (by omega))
    have q9 := q8.below ha.1 (Nat.le_refl _)
    have o9 := o8.apart ha (Nat.le_refl _)
    have z9 : w8.heap.size ≤ w9.heap.size := ha.1.size
    have ek : decide (k9 < 0) = false := decide_eq_false (by omega)
    clear b8 q8 l8 o8 ha
    go_wp2_with fail
    refine (eqPackEntryS_same A5 A3 c5 c3 es w9 o9.ents (q9.more (by omega)) hn1 hk1).mono ?_
    rintro e w10 ⟨rfl, hb⟩
    have b10 := b9.trans (hb.mono b9.size)
    have q10 := q9.below hb (by omega)
    have o10 := o9.below hb
    have z10 := hb.size
    clear b9 hb q9 o9 ek
    -- the answer is marked
    obtain ⟨K, hK⟩ : ∃ K, eAt es es.length = K := ⟨_, rfl⟩
    have hK1 : K ≤ 1000 := by rw [← hK]; have := eAt_le HK8.out es.length (Nat.le_refl _); omega
    have cm := markPackEntryS_own w4.heap.size _ A5 c5 es w10 o10 (by omega) hn16 HK8.out
    have CH := hid (fun x hx => heldPackEntryS_is A5 c5 es x hx hn16 HK8.out)
    rw [hK] at CH
    unfold MarkedE at cm
    rw [hK] at cm
    clear hK o10
    go_wp2_with fail
    refine cm.mono ?_
    rintro e w11 ⟨rfl, h11, hb⟩
    clear cm
    have b11 := b10.trans (hb.mono b4s)
    have q11 := q10.below hb (by omega)
    have z11 := hb.size
    clear b10 q10 hb
    go_wp2_with fail
    refine (CH.out w11 h11).mono ?_
    rintro e w12 ⟨rfl, hb⟩
    have b12 := b11.trans (hb.mono b11.size)
    have q12 := q11.below hb (by omega)
    have h12 := (h11.below hb (Nat.le_refl _)).more hb.size
    have z12 := hb.size
    clear b11 q11 h11 hb
    -- another answer
    go_wp2_with fail
    refine (toObjectS_any A c list w12 (HL.out _ b12) hl hs1).mono ?_
    rintro e w13 ⟨g13, rfl, f13, hb⟩
    have b13 := b12.trans (hb.mono b12.size)
    have q13 := q12.below hb (by omega)
    have h13 := (h12.below hb (Nat.le_refl _)).more hb.size
    have z13 := hb.size
    clear b12 q12 h12 hb
    go_wp2_with fail
    refine (IM.out _ _ w13 f13.objs).mono ?_
    rintro e w14 ⟨v14, rfl, o14, hb⟩
    obtain ⟨A14, c14, rfl, p14, -⟩ := o14.form
    have b14 := b13.trans (hb.mono b13.size)
    have q14 := q13.below hb (by omega)
    have h14 := (h13.below hb (Nat.le_refl _)).more hb.size
    have z14 := hb.size
    clear b13 q13 h13 hb o14 f13
    go_wp2_with fail
    refine (eqPackEntryS_same A14 A3 c14 c3 es w14 p14 (q14.more (by omega)) hn1 hk1).mono ?_
    rintro e w15 ⟨rfl, hb⟩
    have b15 := b14.trans (hb.mono b14.size)
    have h15 := (h14.below hb (Nat.le_refl _)).more hb.size
    clear b14 q14 h14 hb p14
    go_wp2_with fail
    refine (CH.out w15 h15).mono ?_
    rintro e w16 ⟨rfl, hb⟩
    go_wp2
    go_ret
    exact .mk_ (b15.trans (hb.mono b15.size))
end Go.Proofs.Ytkekbobnbipmoaa
