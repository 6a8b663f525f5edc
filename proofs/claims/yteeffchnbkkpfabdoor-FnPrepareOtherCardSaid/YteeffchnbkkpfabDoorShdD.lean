/- The coordinator with the slices $SA and $SB is stored as the answer, with the word $BB. -/
/-
  Walks: which shards are valid and what their records come to, by the model.
-/
import Derived.Test.YteeffchnbkkpfabDoorShdC
namespace Go.Proofs.YteeffchnbkkpfabDoor
open Go.RowKit Wo Pu Rf Lk Sh

/-- What all records come to, and whether the shard is valid. -/
def RecTo (rs : List Rec) (st : St) (b : Bool) : Prop := Four st ∧ (b = true → Rcv rs st ∧ rs.length ≤ 30) ∧ (b = false → ¬ Vld rs)
theorem Sh.Rcv.four {rs : List Rec} {s : St} (h : Rcv rs s) : Four s := ⟨h.inv.refs, h.inv.locks⟩
theorem rcv_bad {rs : List Rec} {k : Nat} (hk : k < rs.length) {s : St} (h : Rcv (rs.take k) s) (hn : ¬ (TV rs[k].t ∧ ∃ x, Step (rs.take k) s rs[k] x)) : ¬ Vld rs := by
  rintro ⟨⟨s9, h9⟩, _⟩
  have e : rs.take (k + 1) ++ rs.drop (k + 1) = rs := List.take_append_drop ..
  rw [← e] at h9
  obtain ⟨s0, h0⟩ := h9.pre
  rw [List.take_succ_eq_append_getElem hk] at h0
  obtain ⟨s1, h1, ht, hs⟩ := h0.snoc_inv
  obtain rfl := h.one h1
  exact hn ⟨ht, _, hs⟩
theorem rcv_next {rs : List Rec} {k : Nat} (hk : k < rs.length) {s x : St} (h : Rcv (rs.take k) s) (ht : TV rs[k].t) (hs : Step (rs.take k) s rs[k] x) : Rcv (rs.take (k + 1)) x := by
  rw [List.take_succ_eq_append_getElem hk]
  exact .snoc h ht hs
/-- Behind it: a state that can be read, and whether. -/
def Recov (rs : List Rec) (w : World) (e : Ending) (w' : World) : Prop := ∃ st b, RecTo rs st b ∧ NewStB st b w e w'
/-! ### Boxes of states are no rows of numbers. -/
theorem ints_far {w : World} {B g : Nat} {T : TypeId} {A A1 A2 : Option Addr} {n1 c1 n2 c2 : Nat} {zs : List Int} (h : Row w B A (ints zs)) (hg : Blk2s w g T (.slice A1 n1 c1) (.slice A2 n2 c2)) (o : Nat) (u : Value) : Row (w.setCell ⟨g, o, none⟩ u) B A (ints zs) := by
  rcases h with h | ⟨ad, e, hb, hc⟩
  · exact .inl h
  · cases zs with
    | nil => exact .inl rfl
    | cons z zs =>
      have hne : ad.block ≠ g := fun e2 => by
        have h0 := hc 0 (.int .i64 z) rfl
        rw [add_zero] at h0
        unfold World.cell? at h0
        unfold Blk2s at hg
        rw [e2, hg] at h0
        simp only at h0
        split at h0
        · cases h0
        · match ho : ad.off, h0 with
          | 0, h0 => simp at h0
          | 1, h0 => simp at h0
          | k + 2, h0 => simp at h0
      refine .inr ⟨ad, e, hb, fun j v hj => ?_⟩
      rw [← hc j v hj]
      exact World.cell?_of_block (Below.heap_setCell w ⟨g, o, none⟩ u _ (by rw [add_block]; exact hne))
theorem Stt.far {w : World} {g : Nat} {T : TypeId} {A1 A2 : Option Addr} {n1 c1 n2 c2 : Nat} {v : Value} {s : St} (h : Stt w w.heap.size v s) (hg : Blk2s w g T (.slice A1 n1 c1) (.slice A2 n2 c2)) (o : Nat) (u : Value) : Stt (w.setCell ⟨g, o, none⟩ u) (w.setCell ⟨g, o, none⟩ u).heap.size v s := by
  obtain ⟨A, c, A', c', e, h1, h2, h3, h4⟩ := h
  have hz : (w.setCell ⟨g, o, none⟩ u).heap.size = w.heap.size := by simp [World.setCell]
  rw [hz]
  exact ⟨A, c, A', c', e, ints_far h1 hg o u, h2, ints_far h3 hg o u, h4⟩
/- The state st of the box g is told, and a word. -/
/- The state behind a record is stored into its box. -/
set_option linter.unusedSimpArgs false in
set_option maxRecDepth 100000 in
set_option maxHeartbeats 8000000 in
theorem l21Recover_any (A0 : Option Addr) (c0 : Nat) (rs : List Rec) (w : World) (h : Recs w w.heap.size A0 rs) (hc0 : rs.length ≤ c0) (hf : FitR rs) :
    Calls Tryd.prog 52 #[.slice A0 rs.length c0] w (Recov rs w) := by
  have x0 := Blk2s.new_ w 37 (.slice none 0 0) (.slice none 0 0)
  have b0 := (Below.refl w.heap.size w).alloc (Nat.le_refl _) (.cells #[.slice none 0 0, .slice none 0 0] 37)
  go_enter Tryd.func52, Tryd.ntmps52
  go_wp2_with fail
  generalize w.alloc (.cells #[.slice none 0 0, .slice none 0 0] 37) = w1 at *
  refine (l21Begin_any w1).mono ?_
  rintro e w2 ⟨v2, rfl, s2, d2⟩
  have x2 := x0.later d2
  have b2 := b0.trans (d2.mono b0.size)
  obtain ⟨A1, c1, A2, c2, rfl, r1, hc1, r2, hc2⟩ := s2
  unfold stV
  have z2 := b2.size
  have al := (Below.refl w2.heap.size w2).alloc (Nat.le_refl _) (.cells #[.slice A1 4 c1, .slice A2 4 c2] 37)
  have E0 := x2.alloc (.cells #[.slice A1 4 c1, .slice A2 4 c2] 37)
  have E1 := Blk2s.new_ w2 37 (.slice A1 4 c1) (.slice A2 4 c2)
  have E2 : Stt (w2.alloc (.cells #[.slice A1 4 c1, .slice A2 4 c2] 37)) _ (stV A1 4 c1 A2 4 c2) ⟨[-1, -1, -1, -1], [-1, -1, -1, -1]⟩ := ⟨A1, c1, A2, c2, rfl, (r1.below al (Nat.le_refl _)).more al.size, hc1, (r2.below al (Nat.le_refl _)).more al.size, hc2⟩
  have E3 := b2.trans (al.mono z2)
  have xl := x2.lt
  clear x0 x2 b0 d2 r1 r2 al b2
  go_wp2_with fail
  go_loopw [5] (fun i wr => ∃ (k : Nat) (st : St) (A1 : Option Addr) (c1 : Nat) (A2 : Option Addr) (c2 : Nat), k ≤ rs.length ∧ i = .int .i64 k ∧ Hid (Rcv (rs.take k) st) ∧ Blk2s wr w.heap.size 37 (.slice none 0 0) (.slice none 0 0) ∧ Blk2s wr w2.heap.size 37 (.slice A1 st.refs.length c1) (.slice A2 st.locks.length c2) ∧
    Stt wr wr.heap.size (stV A1 st.refs.length c1 A2 st.locks.length c2) st ∧ Below w.heap.size w wr) (fun i _ => rs.length - (intOf i).toNat)
  case atStart => exact ⟨0, _, A1, c1, A2, c2, Nat.zero_le _, rfl, Rcv.nil, E0, E1, E2, E3⟩
  case round =>
    clear E0 E1 E2 E3
    obtain ⟨k, st, A1, c1, A2, c2, hk, rfl, HR, E0, E1, E2, hb⟩ := hrel
    have hz := hb.size
    obtain ⟨y0, y1, -⟩ := id E0.reads
    obtain ⟨u0, u1, uf⟩ := id E1.reads
    by_cases hlt : k < rs.length
    · obtain ⟨r, ad, A', c', ho, rfl, ha, g0, g1, g2, g3, g4⟩ := (h.below hb (Nat.le_refl _)).rec hlt
      have q0 : (0 : Int) ≤ (k : Int) := by omega
      have q1 : (k : Int) < (rs.length : Int) := by omega
      obtain ⟨vt, hvt⟩ := bool_of (TV r.t)
      have CT : Hid (∀ x, Calls Tryd.prog 64 #[.int .i64 r.t] x (Same (.bool vt) x)) := fun x => l12Txn_is vt r.t x hvt
      have HO : Hid (rs[k] = r) := ho
      clear ho
      go_wp2_with fail
      refine (CT.out _).mono ?_
      rintro e w3 ⟨rfl, rfl⟩
      cases vt with
      | false =>
        have HT : Hid (RecTo rs st false) := ⟨HR.out.four, (fun e => by cases e), fun _ => rcv_bad hlt HR.out fun e => by have := hvt.2 (HO.out ▸ e.1); cases this⟩
        clear hvt CT
        obtain ⟨p0, p1, -⟩ := ((E0.set0 (.slice A1 st.refs.length c1)).set1 (.slice A2 st.locks.length c2)).reads
        have b9 := (hb.setCell (p := ⟨w.heap.size, 0, none⟩) (Nat.le_refl _) (.slice A1 st.refs.length c1)).setCell (p := ⟨w.heap.size, 1, none⟩) (Nat.le_refl _) (.slice A2 st.locks.length c2)
        have HS9 := hid ((E2.far E0 0 (.slice A1 st.refs.length c1)).far (E0.set0 (.slice A1 st.refs.length c1)) 1 (.slice A2 st.locks.length c2))
        obtain ⟨t0, t1, tf⟩ := id E0.reads
        have tf0 := tf 0
        have tf1 := tf 1
        clear tf uf
        go_wp2
        refine bodyPost_ret (v := .tuple #[.agg #[.slice A1 st.refs.length c1, .slice A2 st.locks.length c2], .bool false]) (by simp [results, Tryd.results52, go_sem, p0, p1]) rfl ⟨st, false, HT.out, _, rfl, HS9.out, b9⟩
      | true =>
        have HTV := hid (hvt.1 rfl)
        obtain ⟨bs, st', hst⟩ := step_ex (rs.take k) st r
        have HST := hid hst
        have hkl : (rs.take k).length = k := by rw [List.length_take]; omega
        have hrm : r ∈ rs := by rw [← HO.out]; exact List.getElem_mem hlt
        have CS : Hid (∀ x, Below wr.heap.size wr x → Calls Tryd.prog 80 #[.slice (some ad) k c0, .agg #[.slice A1 st.refs.length c1, .slice A2 st.locks.length c2], .agg #[.int .i64 r.k, .int .i64 r.t, .slice A' r.us.length c']] x (NewStB st' bs x)) := fun x hbx => by
          have hbw := hb.trans (hbx.mono hz)
          have := l21Step_any bs st' (some ad) c0 (rs.take k) (stV A1 st.refs.length c1 A2 st.locks.length c2) st A' c' r x (((h.below hbw (Nat.le_refl _)).more hbw.size).take_ k) (hf.take k) (E2.on hbx hbx.size) (hid HR.out.inv) ((g4.below (hbx.mono hz) (Nat.le_refl _)).more hbw.size) (by have := hf.2 r hrm; omega) HST
          rwa [hkl] at this
        have HKP : Hid (∀ x, Below wr.heap.size wr x → (x.cell? ⟨w2.heap.size, 0, none⟩ = some (.slice A1 st.refs.length c1) ∧ x.cell? ⟨w2.heap.size, 1, none⟩ = some (.slice A2 st.locks.length c2)) ∧ x.cell? (ad.add (k * 3)) = some (.int .i64 r.k) ∧ x.cell? ⟨(ad.add (k * 3)).block, (ad.add (k * 3)).off + 1, none⟩ = some (.int .i64 r.t) ∧ x.cell? ⟨(ad.add (k * 3)).block, (ad.add (k * 3)).off + 2, none⟩ = some (.slice A' r.us.length c')) := fun x hbx =>
          ⟨⟨(E1.later hbx).reads.1, (E1.later hbx).reads.2.1⟩, (hbx.cell (Nat.lt_of_lt_of_le ha hz)).trans g0, (hbx.cell (p := ⟨(ad.add (k * 3)).block, (ad.add (k * 3)).off + 1, none⟩) (Nat.lt_of_lt_of_le ha hz)).trans g1, (hbx.cell (p := ⟨(ad.add (k * 3)).block, (ad.add (k * 3)).off + 2, none⟩) (Nat.lt_of_lt_of_le ha hz)).trans g2⟩
        have q2 : (k : Int) ≤ (c0 : Int) := by omega
        have q3 : (k : Int) ≤ (rs.length : Int) := by omega
        clear hst CT hkl hrm hvt
        go_wp2_with fail
        refine wp_region_held_drew (S := fun x => (x.cell? ⟨w2.heap.size, 0, none⟩ = some (.slice A1 st.refs.length c1) ∧ x.cell? ⟨w2.heap.size, 1, none⟩ = some (.slice A2 st.locks.length c2)) ∧ x.cell? (ad.add (k * 3)) = some (.int .i64 r.k) ∧ x.cell? ⟨(ad.add (k * 3)).block, (ad.add (k * 3)).off + 1, none⟩ = some (.int .i64 r.t) ∧ x.cell? ⟨(ad.add (k * 3)).block, (ad.add (k * 3)).off + 2, none⟩ = some (.slice A' r.us.length c')) (by kernel_rfl) (HKP.out _ (Below.refl _ _).drew) (fun hHeld => ?_)
        refine wpAnyH_take (i := 0) (oi := _) (v := ?_) rfl (by kernel_rfl) (by kernel_rfl) (by kernel_rfl) (fun _ _ _ h => h) (Or.inl ⟨by rfl, ?_⟩) hHeld ?_
        rotate_left
        · (intro w' hSw; (try dsimp only at hSw); go_simp <;> with_reducible rfl)
        try simp only [Act.put, List.getElem_toArray, List.getElem_cons_succ, List.getElem_cons_zero, List.setIfInBounds_toArray, List.set_cons_zero, List.set_cons_succ]
        refine wpAnyH_take (i := 1) (oi := _) (v := ?_) rfl (by kernel_rfl) (by kernel_rfl) (by kernel_rfl) (fun _ _ _ h => h) (Or.inl ⟨by rfl, ?_⟩) hHeld ?_
        rotate_left
        · (intro w' hSw; (try dsimp only at hSw); go_simp <;> with_reducible rfl)
        try simp only [Act.put, List.getElem_toArray, List.getElem_cons_succ, List.getElem_cons_zero, List.setIfInBounds_toArray, List.set_cons_zero, List.set_cons_succ]
        refine wpAnyH_take (i := 2) (oi := _) (v := ?_) rfl (by kernel_rfl) (by kernel_rfl) (by kernel_rfl) (fun _ _ _ h => h) (Or.inl ⟨by rfl, ?_⟩) hHeld ?_
        rotate_left
        · (intro w' hSw; (try dsimp only at hSw); go_simp <;> with_reducible rfl)
        try simp only [Act.put, List.getElem_toArray, List.getElem_cons_succ, List.getElem_cons_zero, List.setIfInBounds_toArray, List.set_cons_zero, List.set_cons_succ]
        refine wpAnyH_take (i := 3) (oi := _) (v := ?_) rfl (by kernel_rfl) (by kernel_rfl) (by kernel_rfl) (fun _ _ _ h => h) (Or.inl ⟨by rfl, ?_⟩) hHeld ?_
        rotate_left
        · (intro w' hSw; (try dsimp only at hSw); go_simp <;> with_reducible rfl)
        try simp only [Act.put, List.getElem_toArray, List.getElem_cons_succ, List.getElem_cons_zero, List.setIfInBounds_toArray, List.set_cons_zero, List.set_cons_succ]
        refine wpAnyH_take (i := 4) (oi := _) (v := ?_) rfl (by kernel_rfl) (by kernel_rfl) (by kernel_rfl) (fun _ _ _ h => h) (Or.inl ⟨by rfl, ?_⟩) hHeld ?_
        rotate_left
        · (intro w' hSw; (try dsimp only at hSw); go_simp <;> with_reducible rfl)
        try simp only [Act.put, List.getElem_toArray, List.getElem_cons_succ, List.getElem_cons_zero, List.setIfInBounds_toArray, List.set_cons_zero, List.set_cons_succ]
        refine wpAnyH_take (i := 5) (oi := _) (v := ?_) rfl (by kernel_rfl) (by kernel_rfl) (by kernel_rfl) (fun _ _ _ h => h) (Or.inl ⟨by rfl, ?_⟩) hHeld ?_
        rotate_left
        · (intro w' hSw; (try dsimp only at hSw); go_simp <;> with_reducible rfl)
        try simp only [Act.put, List.getElem_toArray, List.getElem_cons_succ, List.getElem_cons_zero, List.setIfInBounds_toArray, List.set_cons_zero, List.set_cons_succ]
        refine wpAnyH_take (i := 6) (oi := _) (v := ?_) rfl (by kernel_rfl) (by kernel_rfl) (by kernel_rfl) (fun _ _ _ h => h) (Or.inl ⟨by rfl, ?_⟩) hHeld ?_
        rotate_left
        · (intro w' hSw; (try dsimp only at hSw); go_simp <;> with_reducible rfl)
        try simp only [Act.put, List.getElem_toArray, List.getElem_cons_succ, List.getElem_cons_zero, List.setIfInBounds_toArray, List.set_cons_zero, List.set_cons_succ]
        refine wpAnyH_take (i := 7) (oi := _) (v := ?_) rfl (by kernel_rfl) (by kernel_rfl) (by kernel_rfl) (fun _ _ _ h => h) (Or.inl ⟨by rfl, ?_⟩) hHeld ?_
        rotate_left
        · (intro w' hSw; (try dsimp only at hSw); go_simp <;> with_reducible rfl)
        try simp only [Act.put, List.getElem_toArray, List.getElem_cons_succ, List.getElem_cons_zero, List.setIfInBounds_toArray, List.set_cons_zero, List.set_cons_succ]
        refine wpAnyH_ready (rs := [8, 12]) (by kernel_rfl) (by simp) (AllReadyH.cons (o := _) rfl (fun K hK => ?_) (AllReadyH.cons (o := _) rfl (fun K hK => ?_) AllReadyH.nil))
        · skip
          try simp only [Act.put, List.getElem_toArray, List.getElem_cons_succ, List.getElem_cons_zero, List.setIfInBounds_toArray, List.set_cons_zero, List.set_cons_succ]
          go_simp
          go_at_call 80
          refine (CS.out _ (Below.refl _ _).drew).mono ?_
          rintro e w4 ⟨v4, rfl, s4, d4⟩
          have D4 := (Below.refl wr.heap.size wr).drew.trans (d4.mono (Nat.le_refl _))
          obtain ⟨A3, c3, A4, c4, rfl, -⟩ := id s4
          unfold stV
          refine hK.out _ _ (HKP.out _ D4) (fun hHeld => ?_)
          clear hK K
          try simp only [Act.put, List.getElem_toArray, List.getElem_cons_succ, List.getElem_cons_zero, List.setIfInBounds_toArray, List.set_cons_zero, List.set_cons_succ]
          refine wpAnyH_take (i := 9) (oi := _) (v := ?_) rfl (by kernel_rfl) (by kernel_rfl) (by kernel_rfl) (fun _ _ _ h => h) (Or.inl ⟨by rfl, ?_⟩) hHeld ?_
          rotate_left
          · (intro w' hSw; (try dsimp only at hSw); go_simp <;> with_reducible rfl)
          try simp only [Act.put, List.getElem_toArray, List.getElem_cons_succ, List.getElem_cons_zero, List.setIfInBounds_toArray, List.set_cons_zero, List.set_cons_succ]
          refine wpAnyH_take (i := 10) (oi := _) (v := ?_) rfl (by kernel_rfl) (by kernel_rfl) (by kernel_rfl) (fun _ _ _ h => h) (Or.inl ⟨by rfl, ?_⟩) hHeld ?_
          rotate_left
          · (intro w' hSw; (try dsimp only at hSw); go_simp <;> with_reducible rfl)
          try simp only [Act.put, List.getElem_toArray, List.getElem_cons_succ, List.getElem_cons_zero, List.setIfInBounds_toArray, List.set_cons_zero, List.set_cons_succ]
          refine wpAnyH_ready (rs := [11, 12]) (by kernel_rfl) (by simp) (AllReadyH.cons (o := _) rfl (fun K hK => ?_) (AllReadyH.cons (o := _) rfl (fun K hK => ?_) AllReadyH.nil))
          · skip
            try simp only [Act.put, List.getElem_toArray, List.getElem_cons_succ, List.getElem_cons_zero, List.setIfInBounds_toArray, List.set_cons_zero, List.set_cons_succ]
            go_simp
            refine hK.out _ _ (HKP.out _ D4) (fun hHeld => ?_)
            clear hK K
            try simp only [Act.put, List.getElem_toArray, List.getElem_cons_succ, List.getElem_cons_zero, List.setIfInBounds_toArray, List.set_cons_zero, List.set_cons_succ]
            refine wpAnyH_ready (rs := [12]) (by kernel_rfl) (by simp) (AllReadyH.cons (o := _) rfl (fun K hK => ?_) AllReadyH.nil)
            try simp only [Act.put, List.getElem_toArray, List.getElem_cons_succ, List.getElem_cons_zero, List.setIfInBounds_toArray, List.set_cons_zero, List.set_cons_succ]
            go_simp
            have al4 := (Below.refl w4.heap.size w4).alloc (Nat.le_refl _) (.cells #[.slice none 0 0, .slice none 0 0] 37)
            have D5 := D4.trans (al4.mono D4.size)
            have X5 := Blk2s.new_ w4 37 (.slice none 0 0) (.slice none 0 0)
            have S5 := s4.on al4 al4.size
            have G5 : wr.heap.size ≤ w4.heap.size := D4.size
            obtain ⟨w5, hw5⟩ : ∃ w5, w4.alloc (.cells #[.slice none 0 0, .slice none 0 0] 37) = w5 := ⟨_, rfl⟩
            rw [hw5] at D5 X5 S5 ⊢
            refine hK.out _ _ (HKP.out _ D5) (fun hHeld => ?_)
            clear hK K
            try simp only [Act.put, List.getElem_toArray, List.getElem_cons_succ, List.getElem_cons_zero, List.setIfInBounds_toArray, List.set_cons_zero, List.set_cons_succ]
            clear s4 d4 D4 al4 hw5
            obtain ⟨z0, z1, zf⟩ := id X5.reads
            have zf0 := zf 0
            have zf1 := zf 1
            clear zf
            refine wpAnyH_ready (rs := [13]) (by kernel_rfl) (by simp) (AllReadyH.cons (o := _) rfl (fun K hK => ?_) AllReadyH.nil)
            try simp only [Act.put, List.getElem_toArray, List.getElem_cons_succ, List.getElem_cons_zero, List.setIfInBounds_toArray, List.set_cons_zero, List.set_cons_succ]
            go_simp
            have D6 := (D5.setCell (p := ⟨w4.heap.size, 0, none⟩) G5 (.slice A3 st'.refs.length c3)).setCell (p := ⟨w4.heap.size, 1, none⟩) G5 (.slice A4 st'.locks.length c4)
            have S6 := (S5.far X5 0 (.slice A3 st'.refs.length c3)).far (X5.set0 (.slice A3 st'.refs.length c3)) 1 (.slice A4 st'.locks.length c4)
            have X6 := (X5.set0 (.slice A3 st'.refs.length c3)).set1 (.slice A4 st'.locks.length c4)
            refine hK.out _ _ (HKP.out _ D6) (fun hHeld => ?_)
            clear hK K
            try simp only [Act.put, List.getElem_toArray, List.getElem_cons_succ, List.getElem_cons_zero, List.setIfInBounds_toArray, List.set_cons_zero, List.set_cons_succ]
            refine wpAnyH_take (i := 14) (oi := _) (v := ?_) rfl (by kernel_rfl) (by kernel_rfl) (by kernel_rfl) (fun _ _ _ h => h) (Or.inl ⟨by rfl, ?_⟩) hHeld ?_
            rotate_left
            · (intro w' hSw; (try dsimp only at hSw); go_simp <;> with_reducible rfl)
            try simp only [Act.put, List.getElem_toArray, List.getElem_cons_succ, List.getElem_cons_zero, List.setIfInBounds_toArray, List.set_cons_zero, List.set_cons_succ]
            refine wpAnyH_done (by kernel_rfl) ?_ _
            clear z0 z1 zf0 zf1 S5 X5 D5 hHeld HKP CS
            obtain ⟨W9, hW9⟩ : ∃ W9, (w5.setCell ⟨w4.heap.size, 0, none⟩ (.slice A3 st'.refs.length c3)).setCell ⟨w4.heap.size, 1, none⟩ (.slice A4 st'.locks.length c4) = W9 := ⟨_, rfl⟩
            rw [hW9] at D6 S6 X6 ⊢
            clear hW9 y0 y1 u0 u1 uf
            replace E0 := E0.later D6
            replace E1 := E1.later D6
            replace E2 := E2.on D6 D6.size
            replace hb := hb.trans (D6.mono hz)
            clear D6
            obtain ⟨z0, z1, -⟩ := id X6.reads
            obtain ⟨u0, u1, uf⟩ := id E1.reads
            cases bs with
            | false =>
              have HT : Hid (RecTo rs st false) := by
                refine ⟨HR.out.four, (fun e => by cases e), fun _ => rcv_bad hlt HR.out fun e => ?_⟩
                rw [HO.out] at e
                rcases HST.out with ⟨h1, -⟩ | ⟨-, h2, -⟩
                · cases h1
                · exact h2 e.2
              obtain ⟨p0, p1, -⟩ := ((E0.set0 (.slice A1 st.refs.length c1)).set1 (.slice A2 st.locks.length c2)).reads
              have b9 := (hb.setCell (p := ⟨w.heap.size, 0, none⟩) (Nat.le_refl _) (.slice A1 st.refs.length c1)).setCell (p := ⟨w.heap.size, 1, none⟩) (Nat.le_refl _) (.slice A2 st.locks.length c2)
              have HS9 := hid ((E2.far E0 0 (.slice A1 st.refs.length c1)).far (E0.set0 (.slice A1 st.refs.length c1)) 1 (.slice A2 st.locks.length c2))
              obtain ⟨t0, t1, tf⟩ := id E0.reads
              have tf0 := tf 0
              have tf1 := tf 1
              clear tf uf
              go_wp2
              refine bodyPost_ret (v := .tuple #[.agg #[.slice A1 st.refs.length c1, .slice A2 st.locks.length c2], .bool false]) (by simp [results, Tryd.results52, go_sem, p0, p1]) rfl ⟨st, false, HT.out, _, rfl, HS9.out, b9⟩
            | true =>
              have HN : Hid (Rcv (rs.take (k + 1)) st') := by
                rcases HST.out with ⟨-, h1⟩ | ⟨h1, -⟩
                · exact rcv_next hlt HR.out (HO.out ▸ HTV.out) (HO.out ▸ h1)
                · cases h1
              have E0' := (E0.far (p := ⟨w2.heap.size, 0, none⟩) (by show w.heap.size ≠ w2.heap.size; omega) (.slice A3 st'.refs.length c3)).far (p := ⟨w2.heap.size, 1, none⟩) (by show w.heap.size ≠ w2.heap.size; omega) (.slice A4 st'.locks.length c4)
              have E1' := (E1.set0 (.slice A3 st'.refs.length c3)).set1 (.slice A4 st'.locks.length c4)
              have E2' := (S6.far E1 0 (.slice A3 st'.refs.length c3)).far (E1.set0 (.slice A3 st'.refs.length c3)) 1 (.slice A4 st'.locks.length c4)
              have hb' := (hb.setCell (p := ⟨w2.heap.size, 0, none⟩) z2 (.slice A3 st'.refs.length c3)).setCell (p := ⟨w2.heap.size, 1, none⟩) z2 (.slice A4 st'.locks.length c4)
              have uf0 := uf 0
              have uf1 := uf 1
              clear uf E0 E1 E2 S6 X6 hb
              have hfl := hf.1
              go_wp2
              go_roundw
              case rel => exact ⟨k + 1, st', A3, c3, A4, c4, hlt, by go_num, HN, E0', E1', E2', hb'⟩
              case measure => simp [intOf]; omega
          · skip
            try simp only [Act.put, List.getElem_toArray, List.getElem_cons_succ, List.getElem_cons_zero, List.setIfInBounds_toArray, List.set_cons_zero, List.set_cons_succ]
            go_simp
            have al4 := (Below.refl w4.heap.size w4).alloc (Nat.le_refl _) (.cells #[.slice none 0 0, .slice none 0 0] 37)
            have D5 := D4.trans (al4.mono D4.size)
            have X5 := Blk2s.new_ w4 37 (.slice none 0 0) (.slice none 0 0)
            have S5 := s4.on al4 al4.size
            have G5 : wr.heap.size ≤ w4.heap.size := D4.size
            obtain ⟨w5, hw5⟩ : ∃ w5, w4.alloc (.cells #[.slice none 0 0, .slice none 0 0] 37) = w5 := ⟨_, rfl⟩
            rw [hw5] at D5 X5 S5 ⊢
            refine hK.out _ _ (HKP.out _ D5) (fun hHeld => ?_)
            clear hK K
            try simp only [Act.put, List.getElem_toArray, List.getElem_cons_succ, List.getElem_cons_zero, List.setIfInBounds_toArray, List.set_cons_zero, List.set_cons_succ]
            clear s4 d4 D4 al4 hw5
            refine wpAnyH_ready (rs := [11, 13]) (by kernel_rfl) (by simp) (AllReadyH.cons (o := _) rfl (fun K hK => ?_) (AllReadyH.cons (o := _) rfl (fun K hK => ?_) AllReadyH.nil))
            · skip
              try simp only [Act.put, List.getElem_toArray, List.getElem_cons_succ, List.getElem_cons_zero, List.setIfInBounds_toArray, List.set_cons_zero, List.set_cons_succ]
              go_simp
              refine hK.out _ _ (HKP.out _ D5) (fun hHeld => ?_)
              clear hK K
              try simp only [Act.put, List.getElem_toArray, List.getElem_cons_succ, List.getElem_cons_zero, List.setIfInBounds_toArray, List.set_cons_zero, List.set_cons_succ]
              obtain ⟨z0, z1, zf⟩ := id X5.reads
              have zf0 := zf 0
              have zf1 := zf 1
              clear zf
              refine wpAnyH_ready (rs := [13]) (by kernel_rfl) (by simp) (AllReadyH.cons (o := _) rfl (fun K hK => ?_) AllReadyH.nil)
              try simp only [Act.put, List.getElem_toArray, List.getElem_cons_succ, List.getElem_cons_zero, List.setIfInBounds_toArray, List.set_cons_zero, List.set_cons_succ]
              go_simp
              have D6 := (D5.setCell (p := ⟨w4.heap.size, 0, none⟩) G5 (.slice A3 st'.refs.length c3)).setCell (p := ⟨w4.heap.size, 1, none⟩) G5 (.slice A4 st'.locks.length c4)
              have S6 := (S5.far X5 0 (.slice A3 st'.refs.length c3)).far (X5.set0 (.slice A3 st'.refs.length c3)) 1 (.slice A4 st'.locks.length c4)
              have X6 := (X5.set0 (.slice A3 st'.refs.length c3)).set1 (.slice A4 st'.locks.length c4)
              refine hK.out _ _ (HKP.out _ D6) (fun hHeld => ?_)
              clear hK K
              try simp only [Act.put, List.getElem_toArray, List.getElem_cons_succ, List.getElem_cons_zero, List.setIfInBounds_toArray, List.set_cons_zero, List.set_cons_succ]
              refine wpAnyH_take (i := 14) (oi := _) (v := ?_) rfl (by kernel_rfl) (by kernel_rfl) (by kernel_rfl) (fun _ _ _ h => h) (Or.inl ⟨by rfl, ?_⟩) hHeld ?_
              rotate_left
              · (intro w' hSw; (try dsimp only at hSw); go_simp <;> with_reducible rfl)
              try simp only [Act.put, List.getElem_toArray, List.getElem_cons_succ, List.getElem_cons_zero, List.setIfInBounds_toArray, List.set_cons_zero, List.set_cons_succ]
              refine wpAnyH_done (by kernel_rfl) ?_ _
              clear z0 z1 zf0 zf1 S5 X5 D5 hHeld HKP CS
              obtain ⟨W9, hW9⟩ : ∃ W9, (w5.setCell ⟨w4.heap.size, 0, none⟩ (.slice A3 st'.refs.length c3)).setCell ⟨w4.heap.size, 1, none⟩ (.slice A4 st'.locks.length c4) = W9 := ⟨_, rfl⟩
              rw [hW9] at D6 S6 X6 ⊢
              clear hW9 y0 y1 u0 u1 uf
              replace E0 := E0.later D6
              replace E1 := E1.later D6
              replace E2 := E2.on D6 D6.size
              replace hb := hb.trans (D6.mono hz)
              clear D6
              obtain ⟨z0, z1, -⟩ := id X6.reads
              obtain ⟨u0, u1, uf⟩ := id E1.reads
              cases bs with
              | false =>
                have HT : Hid (RecTo rs st false) := by
                  refine ⟨HR.out.four, (fun e => by cases e), fun _ => rcv_bad hlt HR.out fun e => ?_⟩
                  rw [HO.out] at e
                  rcases HST.out with ⟨h1, -⟩ | ⟨-, h2, -⟩
                  · cases h1
                  · exact h2 e.2
                obtain ⟨p0, p1, -⟩ := ((E0.set0 (.slice A1 st.refs.length c1)).set1 (.slice A2 st.locks.length c2)).reads
                have b9 := (hb.setCell (p := ⟨w.heap.size, 0, none⟩) (Nat.le_refl _) (.slice A1 st.refs.length c1)).setCell (p := ⟨w.heap.size, 1, none⟩) (Nat.le_refl _) (.slice A2 st.locks.length c2)
                have HS9 := hid ((E2.far E0 0 (.slice A1 st.refs.length c1)).far (E0.set0 (.slice A1 st.refs.length c1)) 1 (.slice A2 st.locks.length c2))
                obtain ⟨t0, t1, tf⟩ := id E0.reads
                have tf0 := tf 0
                have tf1 := tf 1
                clear tf uf
                go_wp2
                refine bodyPost_ret (v := .tuple #[.agg #[.slice A1 st.refs.length c1, .slice A2 st.locks.length c2], .bool false]) (by simp [results, Tryd.results52, go_sem, p0, p1]) rfl ⟨st, false, HT.out, _, rfl, HS9.out, b9⟩
              | true =>
                have HN : Hid (Rcv (rs.take (k + 1)) st') := by
                  rcases HST.out with ⟨-, h1⟩ | ⟨h1, -⟩
                  · exact rcv_next hlt HR.out (HO.out ▸ HTV.out) (HO.out ▸ h1)
                  · cases h1
                have E0' := (E0.far (p := ⟨w2.heap.size, 0, none⟩) (by show w.heap.size ≠ w2.heap.size; omega) (.slice A3 st'.refs.length c3)).far (p := ⟨w2.heap.size, 1, none⟩) (by show w.heap.size ≠ w2.heap.size; omega) (.slice A4 st'.locks.length c4)
                have E1' := (E1.set0 (.slice A3 st'.refs.length c3)).set1 (.slice A4 st'.locks.length c4)
                have E2' := (S6.far E1 0 (.slice A3 st'.refs.length c3)).far (E1.set0 (.slice A3 st'.refs.length c3)) 1 (.slice A4 st'.locks.length c4)
                have hb' := (hb.setCell (p := ⟨w2.heap.size, 0, none⟩) z2 (.slice A3 st'.refs.length c3)).setCell (p := ⟨w2.heap.size, 1, none⟩) z2 (.slice A4 st'.locks.length c4)
                have uf0 := uf 0
                have uf1 := uf 1
                clear uf E0 E1 E2 S6 X6 hb
                have hfl := hf.1
                go_wp2
                go_roundw
                case rel => exact ⟨k + 1, st', A3, c3, A4, c4, hlt, by go_num, HN, E0', E1', E2', hb'⟩
                case measure => simp [intOf]; omega
            · skip
              obtain ⟨z0, z1, zf⟩ := id X5.reads
              have zf0 := zf 0
              have zf1 := zf 1
              clear zf
              try simp only [Act.put, List.getElem_toArray, List.getElem_cons_succ, List.getElem_cons_zero, List.setIfInBounds_toArray, List.set_cons_zero, List.set_cons_succ]
              go_simp
              have D6 := (D5.setCell (p := ⟨w4.heap.size, 0, none⟩) G5 (.slice A3 st'.refs.length c3)).setCell (p := ⟨w4.heap.size, 1, none⟩) G5 (.slice A4 st'.locks.length c4)
              have S6 := (S5.far X5 0 (.slice A3 st'.refs.length c3)).far (X5.set0 (.slice A3 st'.refs.length c3)) 1 (.slice A4 st'.locks.length c4)
              have X6 := (X5.set0 (.slice A3 st'.refs.length c3)).set1 (.slice A4 st'.locks.length c4)
              refine hK.out _ _ (HKP.out _ D6) (fun hHeld => ?_)
              clear hK K
              try simp only [Act.put, List.getElem_toArray, List.getElem_cons_succ, List.getElem_cons_zero, List.setIfInBounds_toArray, List.set_cons_zero, List.set_cons_succ]
              refine wpAnyH_take (i := 11) (oi := _) (v := ?_) rfl (by kernel_rfl) (by kernel_rfl) (by kernel_rfl) (fun _ _ _ h => h) (Or.inl ⟨by rfl, ?_⟩) hHeld ?_
              rotate_left
              · (intro w' hSw; (try dsimp only at hSw); go_simp <;> with_reducible rfl)
              try simp only [Act.put, List.getElem_toArray, List.getElem_cons_succ, List.getElem_cons_zero, List.setIfInBounds_toArray, List.set_cons_zero, List.set_cons_succ]
              refine wpAnyH_take (i := 14) (oi := _) (v := ?_) rfl (by kernel_rfl) (by kernel_rfl) (by kernel_rfl) (fun _ _ _ h => h) (Or.inl ⟨by rfl, ?_⟩) hHeld ?_
              rotate_left
              · (intro w' hSw; (try dsimp only at hSw); go_simp <;> with_reducible rfl)
              try simp only [Act.put, List.getElem_toArray, List.getElem_cons_succ, List.getElem_cons_zero, List.setIfInBounds_toArray, List.set_cons_zero, List.set_cons_succ]
              refine wpAnyH_done (by kernel_rfl) ?_ _
              clear z0 z1 zf0 zf1 S5 X5 D5 hHeld HKP CS
              obtain ⟨W9, hW9⟩ : ∃ W9, (w5.setCell ⟨w4.heap.size, 0, none⟩ (.slice A3 st'.refs.length c3)).setCell ⟨w4.heap.size, 1, none⟩ (.slice A4 st'.locks.length c4) = W9 := ⟨_, rfl⟩
              rw [hW9] at D6 S6 X6 ⊢
              clear hW9 y0 y1 u0 u1 uf
              replace E0 := E0.later D6
              replace E1 := E1.later D6
              replace E2 := E2.on D6 D6.size
              replace hb := hb.trans (D6.mono hz)
              clear D6
              obtain ⟨z0, z1, -⟩ := id X6.reads
              obtain ⟨u0, u1, uf⟩ := id E1.reads
              cases bs with
              | false =>
                have HT : Hid (RecTo rs st false) := by
                  refine ⟨HR.out.four, (fun e => by cases e), fun _ => rcv_bad hlt HR.out fun e => ?_⟩
                  rw [HO.out] at e
                  rcases HST.out with ⟨h1, -⟩ | ⟨-, h2, -⟩
                  · cases h1
                  · exact h2 e.2
                obtain ⟨p0, p1, -⟩ := ((E0.set0 (.slice A1 st.refs.length c1)).set1 (.slice A2 st.locks.length c2)).reads
                have b9 := (hb.setCell (p := ⟨w.heap.size, 0, none⟩) (Nat.le_refl _) (.slice A1 st.refs.length c1)).setCell (p := ⟨w.heap.size, 1, none⟩) (Nat.le_refl _) (.slice A2 st.locks.length c2)
                have HS9 := hid ((E2.far E0 0 (.slice A1 st.refs.length c1)).far (E0.set0 (.slice A1 st.refs.length c1)) 1 (.slice A2 st.locks.length c2))
                obtain ⟨t0, t1, tf⟩ := id E0.reads
                have tf0 := tf 0
                have tf1 := tf 1
                clear tf uf
                go_wp2
                refine bodyPost_ret (v := .tuple #[.agg #[.slice A1 st.refs.length c1, .slice A2 st.locks.length c2], .bool false]) (by simp [results, Tryd.results52, go_sem, p0, p1]) rfl ⟨st, false, HT.out, _, rfl, HS9.out, b9⟩
              | true =>
                have HN : Hid (Rcv (rs.take (k + 1)) st') := by
                  rcases HST.out with ⟨-, h1⟩ | ⟨h1, -⟩
                  · exact rcv_next hlt HR.out (HO.out ▸ HTV.out) (HO.out ▸ h1)
                  · cases h1
                have E0' := (E0.far (p := ⟨w2.heap.size, 0, none⟩) (by show w.heap.size ≠ w2.heap.size; omega) (.slice A3 st'.refs.length c3)).far (p := ⟨w2.heap.size, 1, none⟩) (by show w.heap.size ≠ w2.heap.size; omega) (.slice A4 st'.locks.length c4)
                have E1' := (E1.set0 (.slice A3 st'.refs.length c3)).set1 (.slice A4 st'.locks.length c4)
                have E2' := (S6.far E1 0 (.slice A3 st'.refs.length c3)).far (E1.set0 (.slice A3 st'.refs.length c3)) 1 (.slice A4 st'.locks.length c4)
                have hb' := (hb.setCell (p := ⟨w2.heap.size, 0, none⟩) z2 (.slice A3 st'.refs.length c3)).setCell (p := ⟨w2.heap.size, 1, none⟩) z2 (.slice A4 st'.locks.length c4)
                have uf0 := uf 0
                have uf1 := uf 1
                clear uf E0 E1 E2 S6 X6 hb
                have hfl := hf.1
                go_wp2
                go_roundw
                case rel => exact ⟨k + 1, st', A3, c3, A4, c4, hlt, by go_num, HN, E0', E1', E2', hb'⟩
                case measure => simp [intOf]; omega
        · skip
          try simp only [Act.put, List.getElem_toArray, List.getElem_cons_succ, List.getElem_cons_zero, List.setIfInBounds_toArray, List.set_cons_zero, List.set_cons_succ]
          go_simp
          have al4 := (Below.refl wr.heap.size wr).alloc (Nat.le_refl _) (.cells #[.slice none 0 0, .slice none 0 0] 37)
          have X4 := (Blk2s.new_ wr 37 (.slice none 0 0) (.slice none 0 0)).later (Below.refl _ _).drew
          have D4 := al4.drew
          refine hK.out _ _ (HKP.out _ D4) (fun hHeld => ?_)
          clear hK K
          try simp only [Act.put, List.getElem_toArray, List.getElem_cons_succ, List.getElem_cons_zero, List.setIfInBounds_toArray, List.set_cons_zero, List.set_cons_succ]
          refine wpAnyH_ready (rs := [8]) (by kernel_rfl) (by simp) (AllReadyH.cons (o := _) rfl (fun K hK => ?_) AllReadyH.nil)
          try simp only [Act.put, List.getElem_toArray, List.getElem_cons_succ, List.getElem_cons_zero, List.setIfInBounds_toArray, List.set_cons_zero, List.set_cons_succ]
          go_simp
          go_at_call 80
          refine (CS.out _ D4).mono ?_
          rintro e w5 ⟨v4, rfl, S5, d4⟩
          have D5 := D4.trans (d4.mono D4.size)
          have X5 := X4.later d4
          have G5 : wr.heap.size ≤ wr.heap.size := Nat.le_refl _
          obtain ⟨A3, c3, A4, c4, rfl, -⟩ := id S5
          unfold stV
          refine hK.out _ _ (HKP.out _ D5) (fun hHeld => ?_)
          clear hK K
          try simp only [Act.put, List.getElem_toArray, List.getElem_cons_succ, List.getElem_cons_zero, List.setIfInBounds_toArray, List.set_cons_zero, List.set_cons_succ]
          refine wpAnyH_take (i := 9) (oi := _) (v := ?_) rfl (by kernel_rfl) (by kernel_rfl) (by kernel_rfl) (fun _ _ _ h => h) (Or.inl ⟨by rfl, ?_⟩) hHeld ?_
          rotate_left
          · (intro w' hSw; (try dsimp only at hSw); go_simp <;> with_reducible rfl)
          try simp only [Act.put, List.getElem_toArray, List.getElem_cons_succ, List.getElem_cons_zero, List.setIfInBounds_toArray, List.set_cons_zero, List.set_cons_succ]
          refine wpAnyH_take (i := 10) (oi := _) (v := ?_) rfl (by kernel_rfl) (by kernel_rfl) (by kernel_rfl) (fun _ _ _ h => h) (Or.inl ⟨by rfl, ?_⟩) hHeld ?_
          rotate_left
          · (intro w' hSw; (try dsimp only at hSw); go_simp <;> with_reducible rfl)
          try simp only [Act.put, List.getElem_toArray, List.getElem_cons_succ, List.getElem_cons_zero, List.setIfInBounds_toArray, List.set_cons_zero, List.set_cons_succ]
          clear d4 D4 al4 X4
          refine wpAnyH_ready (rs := [11, 13]) (by kernel_rfl) (by simp) (AllReadyH.cons (o := _) rfl (fun K hK => ?_) (AllReadyH.cons (o := _) rfl (fun K hK => ?_) AllReadyH.nil))
          · skip
            try simp only [Act.put, List.getElem_toArray, List.getElem_cons_succ, List.getElem_cons_zero, List.setIfInBounds_toArray, List.set_cons_zero, List.set_cons_succ]
            go_simp
            refine hK.out _ _ (HKP.out _ D5) (fun hHeld => ?_)
            clear hK K
            try simp only [Act.put, List.getElem_toArray, List.getElem_cons_succ, List.getElem_cons_zero, List.setIfInBounds_toArray, List.set_cons_zero, List.set_cons_succ]
            obtain ⟨z0, z1, zf⟩ := id X5.reads
            have zf0 := zf 0
            have zf1 := zf 1
            clear zf
            refine wpAnyH_ready (rs := [13]) (by kernel_rfl) (by simp) (AllReadyH.cons (o := _) rfl (fun K hK => ?_) AllReadyH.nil)
            try simp only [Act.put, List.getElem_toArray, List.getElem_cons_succ, List.getElem_cons_zero, List.setIfInBounds_toArray, List.set_cons_zero, List.set_cons_succ]
            go_simp
            have D6 := (D5.setCell (p := ⟨wr.heap.size, 0, none⟩) G5 (.slice A3 st'.refs.length c3)).setCell (p := ⟨wr.heap.size, 1, none⟩) G5 (.slice A4 st'.locks.length c4)
            have S6 := (S5.far X5 0 (.slice A3 st'.refs.length c3)).far (X5.set0 (.slice A3 st'.refs.length c3)) 1 (.slice A4 st'.locks.length c4)
            have X6 := (X5.set0 (.slice A3 st'.refs.length c3)).set1 (.slice A4 st'.locks.length c4)
            refine hK.out _ _ (HKP.out _ D6) (fun hHeld => ?_)
            clear hK K
            try simp only [Act.put, List.getElem_toArray, List.getElem_cons_succ, List.getElem_cons_zero, List.setIfInBounds_toArray, List.set_cons_zero, List.set_cons_succ]
            refine wpAnyH_take (i := 14) (oi := _) (v := ?_) rfl (by kernel_rfl) (by kernel_rfl) (by kernel_rfl) (fun _ _ _ h => h) (Or.inl ⟨by rfl, ?_⟩) hHeld ?_
            rotate_left
            · (intro w' hSw; (try dsimp only at hSw); go_simp <;> with_reducible rfl)
            try simp only [Act.put, List.getElem_toArray, List.getElem_cons_succ, List.getElem_cons_zero, List.setIfInBounds_toArray, List.set_cons_zero, List.set_cons_succ]
            refine wpAnyH_done (by kernel_rfl) ?_ _
            clear z0 z1 zf0 zf1 S5 X5 D5 hHeld HKP CS
            obtain ⟨W9, hW9⟩ : ∃ W9, (w5.setCell ⟨wr.heap.size, 0, none⟩ (.slice A3 st'.refs.length c3)).setCell ⟨wr.heap.size, 1, none⟩ (.slice A4 st'.locks.length c4) = W9 := ⟨_, rfl⟩
            rw [hW9] at D6 S6 X6 ⊢
            clear hW9 y0 y1 u0 u1 uf
            replace E0 := E0.later D6
            replace E1 := E1.later D6
            replace E2 := E2.on D6 D6.size
            replace hb := hb.trans (D6.mono hz)
            clear D6
            obtain ⟨z0, z1, -⟩ := id X6.reads
            obtain ⟨u0, u1, uf⟩ := id E1.reads
            cases bs with
            | false =>
              have HT : Hid (RecTo rs st false) := by
                refine ⟨HR.out.four, (fun e => by cases e), fun _ => rcv_bad hlt HR.out fun e => ?_⟩
                rw [HO.out] at e
                rcases HST.out with ⟨h1, -⟩ | ⟨-, h2, -⟩
                · cases h1
                · exact h2 e.2
              obtain ⟨p0, p1, -⟩ := ((E0.set0 (.slice A1 st.refs.length c1)).set1 (.slice A2 st.locks.length c2)).reads
              have b9 := (hb.setCell (p := ⟨w.heap.size, 0, none⟩) (Nat.le_refl _) (.slice A1 st.refs.length c1)).setCell (p := ⟨w.heap.size, 1, none⟩) (Nat.le_refl _) (.slice A2 st.locks.length c2)
              have HS9 := hid ((E2.far E0 0 (.slice A1 st.refs.length c1)).far (E0.set0 (.slice A1 st.refs.length c1)) 1 (.slice A2 st.locks.length c2))
              obtain ⟨t0, t1, tf⟩ := id E0.reads
              have tf0 := tf 0
              have tf1 := tf 1
              clear tf uf
              go_wp2
              refine bodyPost_ret (v := .tuple #[.agg #[.slice A1 st.refs.length c1, .slice A2 st.locks.length c2], .bool false]) (by simp [results, Tryd.results52, go_sem, p0, p1]) rfl ⟨st, false, HT.out, _, rfl, HS9.out, b9⟩
            | true =>
              have HN : Hid (Rcv (rs.take (k + 1)) st') := by
                rcases HST.out with ⟨-, h1⟩ | ⟨h1, -⟩
                · exact rcv_next hlt HR.out (HO.out ▸ HTV.out) (HO.out ▸ h1)
                · cases h1
              have E0' := (E0.far (p := ⟨w2.heap.size, 0, none⟩) (by show w.heap.size ≠ w2.heap.size; omega) (.slice A3 st'.refs.length c3)).far (p := ⟨w2.heap.size, 1, none⟩) (by show w.heap.size ≠ w2.heap.size; omega) (.slice A4 st'.locks.length c4)
              have E1' := (E1.set0 (.slice A3 st'.refs.length c3)).set1 (.slice A4 st'.locks.length c4)
              have E2' := (S6.far E1 0 (.slice A3 st'.refs.length c3)).far (E1.set0 (.slice A3 st'.refs.length c3)) 1 (.slice A4 st'.locks.length c4)
              have hb' := (hb.setCell (p := ⟨w2.heap.size, 0, none⟩) z2 (.slice A3 st'.refs.length c3)).setCell (p := ⟨w2.heap.size, 1, none⟩) z2 (.slice A4 st'.locks.length c4)
              have uf0 := uf 0
              have uf1 := uf 1
              clear uf E0 E1 E2 S6 X6 hb
              have hfl := hf.1
              go_wp2
              go_roundw
              case rel => exact ⟨k + 1, st', A3, c3, A4, c4, hlt, by go_num, HN, E0', E1', E2', hb'⟩
              case measure => simp [intOf]; omega
          · skip
            obtain ⟨z0, z1, zf⟩ := id X5.reads
            have zf0 := zf 0
            have zf1 := zf 1
            clear zf
            try simp only [Act.put, List.getElem_toArray, List.getElem_cons_succ, List.getElem_cons_zero, List.setIfInBounds_toArray, List.set_cons_zero, List.set_cons_succ]
            go_simp
            have D6 := (D5.setCell (p := ⟨wr.heap.size, 0, none⟩) G5 (.slice A3 st'.refs.length c3)).setCell (p := ⟨wr.heap.size, 1, none⟩) G5 (.slice A4 st'.locks.length c4)
            have S6 := (S5.far X5 0 (.slice A3 st'.refs.length c3)).far (X5.set0 (.slice A3 st'.refs.length c3)) 1 (.slice A4 st'.locks.length c4)
            have X6 := (X5.set0 (.slice A3 st'.refs.length c3)).set1 (.slice A4 st'.locks.length c4)
            refine hK.out _ _ (HKP.out _ D6) (fun hHeld => ?_)
            clear hK K
            try simp only [Act.put, List.getElem_toArray, List.getElem_cons_succ, List.getElem_cons_zero, List.setIfInBounds_toArray, List.set_cons_zero, List.set_cons_succ]
            refine wpAnyH_take (i := 11) (oi := _) (v := ?_) rfl (by kernel_rfl) (by kernel_rfl) (by kernel_rfl) (fun _ _ _ h => h) (Or.inl ⟨by rfl, ?_⟩) hHeld ?_
            rotate_left
            · (intro w' hSw; (try dsimp only at hSw); go_simp <;> with_reducible rfl)
            try simp only [Act.put, List.getElem_toArray, List.getElem_cons_succ, List.getElem_cons_zero, List.setIfInBounds_toArray, List.set_cons_zero, List.set_cons_succ]
            refine wpAnyH_take (i := 14) (oi := _) (v := ?_) rfl (by kernel_rfl) (by kernel_rfl) (by kernel_rfl) (fun _ _ _ h => h) (Or.inl ⟨by rfl, ?_⟩) hHeld ?_
            rotate_left
            · (intro w' hSw; (try dsimp only at hSw); go_simp <;> with_reducible rfl)
            try simp only [Act.put, List.getElem_toArray, List.getElem_cons_succ, List.getElem_cons_zero, List.setIfInBounds_toArray, List.set_cons_zero, List.set_cons_succ]
            refine wpAnyH_done (by kernel_rfl) ?_ _
            clear z0 z1 zf0 zf1 S5 X5 D5 hHeld HKP CS
            obtain ⟨W9, hW9⟩ : ∃ W9, (w5.setCell ⟨wr.heap.size, 0, none⟩ (.slice A3 st'.refs.length c3)).setCell ⟨wr.heap.size, 1, none⟩ (.slice A4 st'.locks.length c4) = W9 := ⟨_, rfl⟩
            rw [hW9] at D6 S6 X6 ⊢
            clear hW9 y0 y1 u0 u1 uf
            replace E0 := E0.later D6
            replace E1 := E1.later D6
            replace E2 := E2.on D6 D6.size
            replace hb := hb.trans (D6.mono hz)
            clear D6
            obtain ⟨z0, z1, -⟩ := id X6.reads
            obtain ⟨u0, u1, uf⟩ := id E1.reads
            cases bs with
            | false =>
              have HT : Hid (RecTo rs st false) := by
                refine ⟨HR.out.four, (fun e => by cases e), fun _ => rcv_bad hlt HR.out fun e => ?_⟩
                rw [HO.out] at e
                rcases HST.out with ⟨h1, -⟩ | ⟨-, h2, -⟩
                · cases h1
                · exact h2 e.2
              obtain ⟨p0, p1, -⟩ := ((E0.set0 (.slice A1 st.refs.length c1)).set1 (.slice A2 st.locks.length c2)).reads
              have b9 := (hb.setCell (p := ⟨w.heap.size, 0, none⟩) (Nat.le_refl _) (.slice A1 st.refs.length c1)).setCell (p := ⟨w.heap.size, 1, none⟩) (Nat.le_refl _) (.slice A2 st.locks.length c2)
              have HS9 := hid ((E2.far E0 0 (.slice A1 st.refs.length c1)).far (E0.set0 (.slice A1 st.refs.length c1)) 1 (.slice A2 st.locks.length c2))
              obtain ⟨t0, t1, tf⟩ := id E0.reads
              have tf0 := tf 0
              have tf1 := tf 1
              clear tf uf
              go_wp2
              refine bodyPost_ret (v := .tuple #[.agg #[.slice A1 st.refs.length c1, .slice A2 st.locks.length c2], .bool false]) (by simp [results, Tryd.results52, go_sem, p0, p1]) rfl ⟨st, false, HT.out, _, rfl, HS9.out, b9⟩
            | true =>
              have HN : Hid (Rcv (rs.take (k + 1)) st') := by
                rcases HST.out with ⟨-, h1⟩ | ⟨h1, -⟩
                · exact rcv_next hlt HR.out (HO.out ▸ HTV.out) (HO.out ▸ h1)
                · cases h1
              have E0' := (E0.far (p := ⟨w2.heap.size, 0, none⟩) (by show w.heap.size ≠ w2.heap.size; omega) (.slice A3 st'.refs.length c3)).far (p := ⟨w2.heap.size, 1, none⟩) (by show w.heap.size ≠ w2.heap.size; omega) (.slice A4 st'.locks.length c4)
              have E1' := (E1.set0 (.slice A3 st'.refs.length c3)).set1 (.slice A4 st'.locks.length c4)
              have E2' := (S6.far E1 0 (.slice A3 st'.refs.length c3)).far (E1.set0 (.slice A3 st'.refs.length c3)) 1 (.slice A4 st'.locks.length c4)
              have hb' := (hb.setCell (p := ⟨w2.heap.size, 0, none⟩) z2 (.slice A3 st'.refs.length c3)).setCell (p := ⟨w2.heap.size, 1, none⟩) z2 (.slice A4 st'.locks.length c4)
              have uf0 := uf 0
              have uf1 := uf 1
              clear uf E0 E1 E2 S6 X6 hb
              have hfl := hf.1
              go_wp2
              go_roundw
              case rel => exact ⟨k + 1, st', A3, c3, A4, c4, hlt, by go_num, HN, E0', E1', E2', hb'⟩
              case measure => simp [intOf]; omega
    · have hk' : k = rs.length := by omega
      subst hk'
      rw [List.take_length] at HR
      by_cases h30 : rs.length ≤ 30
      · have e30 : decide ((rs.length : Int) ≤ 30) = true := decide_eq_true (by omega)
        have HT : Hid (RecTo rs st true) := ⟨HR.out.four, fun _ => ⟨HR.out, h30⟩, fun e => by cases e⟩
        obtain ⟨p0, p1, -⟩ := ((E0.set0 (.slice A1 st.refs.length c1)).set1 (.slice A2 st.locks.length c2)).reads
        have b9 := (hb.setCell (p := ⟨w.heap.size, 0, none⟩) (Nat.le_refl _) (.slice A1 st.refs.length c1)).setCell (p := ⟨w.heap.size, 1, none⟩) (Nat.le_refl _) (.slice A2 st.locks.length c2)
        have HS9 := hid ((E2.far E0 0 (.slice A1 st.refs.length c1)).far (E0.set0 (.slice A1 st.refs.length c1)) 1 (.slice A2 st.locks.length c2))
        obtain ⟨t0, t1, tf⟩ := id E0.reads
        have tf0 := tf 0
        have tf1 := tf 1
        clear tf uf
        go_wp2
        refine bodyPost_ret (v := .tuple #[.agg #[.slice A1 st.refs.length c1, .slice A2 st.locks.length c2], .bool true]) (by simp [results, Tryd.results52, go_sem, p0, p1]) rfl ⟨st, true, HT.out, _, rfl, HS9.out, b9⟩
      · have e30 : decide ((rs.length : Int) ≤ 30) = false := decide_eq_false (by omega)
        have HT : Hid (RecTo rs st false) := ⟨HR.out.four, (fun e => by cases e), fun _ hv => h30 hv.2⟩
        obtain ⟨p0, p1, -⟩ := ((E0.set0 (.slice A1 st.refs.length c1)).set1 (.slice A2 st.locks.length c2)).reads
        have b9 := (hb.setCell (p := ⟨w.heap.size, 0, none⟩) (Nat.le_refl _) (.slice A1 st.refs.length c1)).setCell (p := ⟨w.heap.size, 1, none⟩) (Nat.le_refl _) (.slice A2 st.locks.length c2)
        have HS9 := hid ((E2.far E0 0 (.slice A1 st.refs.length c1)).far (E0.set0 (.slice A1 st.refs.length c1)) 1 (.slice A2 st.locks.length c2))
        obtain ⟨t0, t1, tf⟩ := id E0.reads
        have tf0 := tf 0
        have tf1 := tf 1
        clear tf uf
        go_wp2
        refine bodyPost_ret (v := .tuple #[.agg #[.slice A1 st.refs.length c1, .slice A2 st.locks.length c2], .bool false]) (by simp [results, Tryd.results52, go_sem, p0, p1]) rfl ⟨st, false, HT.out, _, rfl, HS9.out, b9⟩
end Go.Proofs.YteeffchnbkkpfabDoor
