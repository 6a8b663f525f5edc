/- The coordinator with the slices $SA and $SB is stored as the answer, with the word $BB. -/
/-
  Walks: the laws' own comparisons of records, shards and states.
-/
import Derived.Test.YteeffchnbkkpfabDoorShdE
import Derived.Test.YteeffchnbkkpfabDoorG5C
namespace Go.Proofs.YteeffchnbkkpfabDoor
open Go.RowKit Wo Pu Rf Lk Sh

set_option linter.unusedSimpArgs false in
set_option maxHeartbeats 2000000 in
theorem sameRecord_is (A A' : Option Addr) (c c' : Nat) (r : Rec) (w : World) (B : Nat) (hr : Row w B A (upsV r.us)) (hr' : Row w B A' (upsV r.us)) (hB : B ≤ w.heap.size) (hm : r.us.length ≤ 1048576) :
    Calls Tryd.prog 69 #[.agg #[.int .i64 r.k, .int .i64 r.t, .slice A r.us.length c], .agg #[.int .i64 r.k, .int .i64 r.t, .slice A' r.us.length c']] w (Ret (.bool true) w) := by
  go_enter Tryd.func69, Tryd.ntmps69
  have al := ((Below.refl w.heap.size w).alloc (Nat.le_refl _) (.cells #[.int .i64 r.k, .int .i64 r.t, .slice A r.us.length c] 33)).alloc (by simp) (.cells #[.int .i64 r.k, .int .i64 r.t, .slice A' r.us.length c'] 33)
  have CU := hid (fun x (hx : Below w.heap.size w x) => sameUpdates_ret A A' c c' r.us x B B (hr.below hx hB) (hr'.below hx hB) (by omega))
  obtain ⟨w1, hw1⟩ : ∃ w1, (w.alloc (.cells #[.int .i64 r.k, .int .i64 r.t, .slice A r.us.length c] 33)).alloc (.cells #[.int .i64 r.k, .int .i64 r.t, .slice A' r.us.length c'] 33) = w1 := ⟨_, rfl⟩
  have x0 := (Blk3s.new_ w 33 (.int .i64 r.k) (.int .i64 r.t) (.slice A r.us.length c)).alloc (.cells #[.int .i64 r.k, .int .i64 r.t, .slice A' r.us.length c'] 33)
  have x1 := Blk3s.new_ (w.alloc (.cells #[.int .i64 r.k, .int .i64 r.t, .slice A r.us.length c] 33)) 33 (.int .i64 r.k) (.int .i64 r.t) (.slice A' r.us.length c')
  rw [World.size_alloc] at x1
  rw [hw1] at al x0 x1
  obtain ⟨y0, y1, y2, -⟩ := id x0.reads
  obtain ⟨z0, z1, z2, -⟩ := id x1.reads
  go_wp2_with fail
  refine (CU.out w1 al).mono ?_
  rintro e w2 ⟨rfl, d2⟩
  clear y0 y1 y2 z0 z1 z2 hw1
  go_wp2
  go_ret
  exact ⟨rfl, al.trans (d2.mono al.size)⟩
theorem RowU.later {B : Nat} {W : World} {A : Option Addr} {xs : List Value} (h : Row W B A xs) (x : Later B W) : Row x.w B A xs := h.below x.h (Nat.le_refl _)
set_option linter.unusedSimpArgs false in
set_option maxRecDepth 100000 in
set_option maxHeartbeats 4000000 in
theorem sameShard_is (v v' : Value) (rs : List Rec) (w : World) (h : Shd w w.heap.size v rs) (h' : Shd w w.heap.size v' rs) (hf : FitR rs) :
    Calls Tryd.prog 24 #[v, v'] w (Ret (.bool true) w) := by
  obtain ⟨A, c, rfl, h0, hc⟩ := h
  obtain ⟨A', c', rfl, h0', hc'⟩ := h'
  unfold shV
  go_enter Tryd.func24, Tryd.ntmps24
  have al := ((Below.refl w.heap.size w).alloc (Nat.le_refl _) (.cells #[.slice A rs.length c] 25)).alloc (by simp) (.cells #[.slice A' rs.length c'] 25)
  have x0 := (Blk1.new_ w 25 (.slice A rs.length c)).alloc (.cells #[.slice A' rs.length c'] 25)
  have x1 := Blk1.new_ (w.alloc (.cells #[.slice A rs.length c] 25)) 25 (.slice A' rs.length c')
  rw [World.size_alloc] at x1
  obtain ⟨w1, hw1⟩ : ∃ w1, (w.alloc (.cells #[.slice A rs.length c] 25)).alloc (.cells #[.slice A' rs.length c'] 25) = w1 := ⟨_, rfl⟩
  rw [hw1] at al x0 x1
  obtain ⟨y0, -⟩ := id x0.reads
  obtain ⟨z0, -⟩ := id x1.reads
  go_wp2_with fail
  clear hw1 y0 z0
  go_loopw [5] (fun i wr => ∃ k : Nat, k ≤ rs.length ∧ i = .int .i64 k ∧ Below w1.heap.size w1 wr) (fun i _ => rs.length - (intOf i).toNat)
  case atStart => exact ⟨0, Nat.zero_le _, rfl, Below.refl _ _⟩
  case round =>
    obtain ⟨k, hk, rfl, hb⟩ := hrel
    have hbw := al.trans (hb.mono al.size)
    obtain ⟨y0, -⟩ := id (x0.later hb).reads
    obtain ⟨z0, -⟩ := id (x1.later hb).reads
    by_cases hlt : k < rs.length
    · obtain ⟨r, ad, A1, c1, ho, rfl, ha1, g0, g1, g2, -, g3⟩ := (h0.below hbw (Nat.le_refl _)).rec hlt
      obtain ⟨r2, ad2, A2, c2, ho2, rfl, ha2, g20, g21, g22, -, g23⟩ := (h0'.below hbw (Nat.le_refl _)).rec hlt
      obtain rfl : r = r2 := by rw [← ho, ← ho2]
      have hmk : r.us.length ≤ 1048576 := by rw [← ho]; exact hf.2 _ (List.getElem_mem hlt)
      have k0 : 0 ≤ (k : Int) := by omega
      have k1 : (k : Int) < (rs.length : Int) := by omega
      have hz := hbw.size
      have HKP : Hid (∀ x, Below wr.heap.size wr x → x.cell? ⟨w.heap.size, 0, none⟩ = some (.slice (some ad) rs.length c) ∧ x.cell? ⟨w.heap.size + 1, 0, none⟩ = some (.slice (some ad2) rs.length c') ∧ x.cell? (ad.add (k * 3)) = some (.int .i64 r.k) ∧ x.cell? ⟨(ad.add (k * 3)).block, (ad.add (k * 3)).off + 1, none⟩ = some (.int .i64 r.t) ∧ x.cell? ⟨(ad.add (k * 3)).block, (ad.add (k * 3)).off + 2, none⟩ = some (.slice A1 r.us.length c1) ∧
          x.cell? (ad2.add (k * 3)) = some (.int .i64 r.k) ∧ x.cell? ⟨(ad2.add (k * 3)).block, (ad2.add (k * 3)).off + 1, none⟩ = some (.int .i64 r.t) ∧ x.cell? ⟨(ad2.add (k * 3)).block, (ad2.add (k * 3)).off + 2, none⟩ = some (.slice A2 r.us.length c2)) := fun x hx =>
        ⟨((x0.later hb).later hx).reads.1, ((x1.later hb).later hx).reads.1, (hx.cell (Nat.lt_of_lt_of_le ha1 hz)).trans g0, (hx.cell (p := ⟨(ad.add (k * 3)).block, (ad.add (k * 3)).off + 1, none⟩) (Nat.lt_of_lt_of_le ha1 hz)).trans g1, (hx.cell (p := ⟨(ad.add (k * 3)).block, (ad.add (k * 3)).off + 2, none⟩) (Nat.lt_of_lt_of_le ha1 hz)).trans g2,
          (hx.cell (Nat.lt_of_lt_of_le ha2 hz)).trans g20, (hx.cell (p := ⟨(ad2.add (k * 3)).block, (ad2.add (k * 3)).off + 1, none⟩) (Nat.lt_of_lt_of_le ha2 hz)).trans g21, (hx.cell (p := ⟨(ad2.add (k * 3)).block, (ad2.add (k * 3)).off + 2, none⟩) (Nat.lt_of_lt_of_le ha2 hz)).trans g22⟩
      clear ho ho2 g0 g1 g2 g20 g21 g22
      go_wp2_with fail
      have Dwd := (Below.refl wr.heap.size wr).drew
      refine wp_region_held_drew (S := fun x => x.cell? ⟨w.heap.size, 0, none⟩ = some (.slice (some ad) rs.length c) ∧ x.cell? ⟨w.heap.size + 1, 0, none⟩ = some (.slice (some ad2) rs.length c') ∧ x.cell? (ad.add (k * 3)) = some (.int .i64 r.k) ∧ x.cell? ⟨(ad.add (k * 3)).block, (ad.add (k * 3)).off + 1, none⟩ = some (.int .i64 r.t) ∧ x.cell? ⟨(ad.add (k * 3)).block, (ad.add (k * 3)).off + 2, none⟩ = some (.slice A1 r.us.length c1) ∧
          x.cell? (ad2.add (k * 3)) = some (.int .i64 r.k) ∧ x.cell? ⟨(ad2.add (k * 3)).block, (ad2.add (k * 3)).off + 1, none⟩ = some (.int .i64 r.t) ∧ x.cell? ⟨(ad2.add (k * 3)).block, (ad2.add (k * 3)).off + 2, none⟩ = some (.slice A2 r.us.length c2)) (by kernel_rfl) (HKP.out _ Dwd) (fun hHeld => ?_)
      obtain ⟨wd, hwd⟩ : ∃ wd, wr.drew = wd := ⟨_, rfl⟩
      rw [hwd] at hHeld Dwd ⊢
      clear hwd
      refine wpAnyH_take (i := 0) (oi := _) (v := ?_) rfl (by kernel_rfl) (by kernel_rfl) (by kernel_rfl) (fun _ _ _ h => h) (Or.inl ⟨by rfl, ?_⟩) hHeld ?_
      rotate_left
      · (intro w' hSw; (try dsimp only at hSw); go_simp <;> with_reducible rfl)
      try simp only [Act.put, List.getElem_toArray, List.getElem_cons_succ, List.getElem_cons_zero, List.setIfInBounds_toArray, List.set_cons_zero, List.set_cons_succ]
      refine wpAnyH_take (i := 1) (oi := _) (v := ?_) rfl (by kernel_rfl) (by kernel_rfl) (by kernel_rfl) (fun _ _ _ h => h) (Or.inl ⟨by rfl, ?_⟩) hHeld ?_
      rotate_left
      · (intro w' hSw; (try dsimp only at hSw); go_simp <;> with_reducible rfl)
      try simp only [Act.put, List.getElem_toArray, List.getElem_cons_succ, List.getElem_cons_zero, List.setIfInBounds_toArray, List.set_cons_zero, List.set_cons_succ]
      refine wpAnyH_take (i := 2) (oi := _) (v := ?_) rfl (by kernel_rfl) (by kernel_rfl) (by kernel_rfl) (fun _ _ _ h => h) (Or.inl ⟨by rfl, ?_⟩) hHeld ?_
      rotate_left
      · (intro w' hSw; (try dsimp only at hSw); go_simp <;> with_reducible rfl)
      try simp only [Act.put, List.getElem_toArray, List.getElem_cons_succ, List.getElem_cons_zero, List.setIfInBounds_toArray, List.set_cons_zero, List.set_cons_succ]
      refine wpAnyH_take (i := 3) (oi := _) (v := ?_) rfl (by kernel_rfl) (by kernel_rfl) (by kernel_rfl) (fun _ _ _ h => h) (Or.inl ⟨by rfl, ?_⟩) hHeld ?_
      rotate_left
      · (intro w' hSw; (try dsimp only at hSw); go_simp <;> with_reducible rfl)
      try simp only [Act.put, List.getElem_toArray, List.getElem_cons_succ, List.getElem_cons_zero, List.setIfInBounds_toArray, List.set_cons_zero, List.set_cons_succ]
      refine wpAnyH_take (i := 4) (oi := _) (v := ?_) rfl (by kernel_rfl) (by kernel_rfl) (by kernel_rfl) (fun _ _ _ h => h) (Or.inl ⟨by rfl, ?_⟩) hHeld ?_
      rotate_left
      · (intro w' hSw; (try dsimp only at hSw); go_simp <;> with_reducible rfl)
      try simp only [Act.put, List.getElem_toArray, List.getElem_cons_succ, List.getElem_cons_zero, List.setIfInBounds_toArray, List.set_cons_zero, List.set_cons_succ]
      refine wpAnyH_take (i := 5) (oi := _) (v := ?_) rfl (by kernel_rfl) (by kernel_rfl) (by kernel_rfl) (fun _ _ _ h => h) (Or.inl ⟨by rfl, ?_⟩) hHeld ?_
      rotate_left
      · (intro w' hSw; (try dsimp only at hSw); go_simp <;> with_reducible rfl)
      try simp only [Act.put, List.getElem_toArray, List.getElem_cons_succ, List.getElem_cons_zero, List.setIfInBounds_toArray, List.set_cons_zero, List.set_cons_succ]
      refine wpAnyH_take (i := 6) (oi := _) (v := ?_) rfl (by kernel_rfl) (by kernel_rfl) (by kernel_rfl) (fun _ _ _ h => h) (Or.inl ⟨by rfl, ?_⟩) hHeld ?_
      rotate_left
      · (intro w' hSw; (try dsimp only at hSw); go_simp <;> with_reducible rfl)
      try simp only [Act.put, List.getElem_toArray, List.getElem_cons_succ, List.getElem_cons_zero, List.setIfInBounds_toArray, List.set_cons_zero, List.set_cons_succ]
      refine wpAnyH_take (i := 7) (oi := _) (v := ?_) rfl (by kernel_rfl) (by kernel_rfl) (by kernel_rfl) (fun _ _ _ h => h) (Or.inl ⟨by rfl, ?_⟩) hHeld ?_
      rotate_left
      · (intro w' hSw; (try dsimp only at hSw); go_simp <;> with_reducible rfl)
      try simp only [Act.put, List.getElem_toArray, List.getElem_cons_succ, List.getElem_cons_zero, List.setIfInBounds_toArray, List.set_cons_zero, List.set_cons_succ]
      refine wpAnyH_take (i := 8) (oi := _) (v := ?_) rfl (by kernel_rfl) (by kernel_rfl) (by kernel_rfl) (fun _ _ _ h => h) (Or.inl ⟨by rfl, ?_⟩) hHeld ?_
      rotate_left
      · (intro w' hSw; (try dsimp only at hSw); go_simp <;> with_reducible rfl)
      try simp only [Act.put, List.getElem_toArray, List.getElem_cons_succ, List.getElem_cons_zero, List.setIfInBounds_toArray, List.set_cons_zero, List.set_cons_succ]
      refine wpAnyH_take (i := 9) (oi := _) (v := ?_) rfl (by kernel_rfl) (by kernel_rfl) (by kernel_rfl) (fun _ _ _ h => h) (Or.inl ⟨by rfl, ?_⟩) hHeld ?_
      rotate_left
      · (intro w' hSw; (try dsimp only at hSw); go_simp <;> with_reducible rfl)
      try simp only [Act.put, List.getElem_toArray, List.getElem_cons_succ, List.getElem_cons_zero, List.setIfInBounds_toArray, List.set_cons_zero, List.set_cons_succ]
      refine wpAnyH_ready (rs := [10]) (by kernel_rfl) (by simp) (AllReadyH.cons (o := _) rfl (fun K hK => ?_) AllReadyH.nil)
      try simp only [Act.put, List.getElem_toArray, List.getElem_cons_succ, List.getElem_cons_zero, List.setIfInBounds_toArray, List.set_cons_zero, List.set_cons_succ]
      go_simp
      go_at_call 69
      refine (sameRecord_is A1 A2 c1 c2 r wd w.heap.size (g3.below Dwd hz) (g23.below Dwd hz) (Nat.le_trans hz Dwd.size) hmk).mono ?_
      rintro e we ⟨rfl, de⟩
      have De := Dwd.trans (de.mono Dwd.size)
      have hb9 := hb.trans (De.mono hb.size)
      refine hK.out _ _ (HKP.out _ De) (fun hHeld => ?_)
      clear hK K
      try simp only [Act.put, List.getElem_toArray, List.getElem_cons_succ, List.getElem_cons_zero, List.setIfInBounds_toArray, List.set_cons_zero, List.set_cons_succ]
      refine wpAnyH_take (i := 11) (oi := _) (v := ?_) rfl (by kernel_rfl) (by kernel_rfl) (by kernel_rfl) (fun _ _ _ h => h) (Or.inl ⟨by rfl, ?_⟩) hHeld ?_
      rotate_left
      · (intro w' hSw; (try dsimp only at hSw); go_simp <;> with_reducible rfl)
      try simp only [Act.put, List.getElem_toArray, List.getElem_cons_succ, List.getElem_cons_zero, List.setIfInBounds_toArray, List.set_cons_zero, List.set_cons_succ]
      refine wpAnyH_done (by kernel_rfl) ?_ _
      have hf1 := hf.1
      clear hHeld HKP Dwd de De
      go_wp2
      go_roundw
      case rel => exact ⟨k + 1, by omega, by go_num, hb9⟩
      case measure => simp [intOf]; omega
    · have hk' : k = rs.length := by omega
      subst hk'
      go_wp2
      go_ret
      exact ⟨rfl, hbw⟩
set_option linter.unusedSimpArgs false in
set_option maxHeartbeats 2000000 in
theorem sameState_is (v v' : Value) (s : St) (w : World) (h : Stt w w.heap.size v s) (h' : Stt w w.heap.size v' s) (h4 : s.refs.length ≤ 4) (h4' : s.locks.length ≤ 4) :
    Calls Tryd.prog 31 #[v, v'] w (Ret (.bool true) w) := by
  obtain ⟨A, c, A2, c2, rfl, r1, -, r2, -⟩ := h
  obtain ⟨A', c', A2', c2', rfl, r1', -, r2', -⟩ := h'
  unfold stV
  have al := ((Below.refl w.heap.size w).alloc (Nat.le_refl _) (.cells #[.slice A s.refs.length c, .slice A2 s.locks.length c2] 37)).alloc (by simp) (.cells #[.slice A' s.refs.length c', .slice A2' s.locks.length c2'] 37)
  have C1 := hid (fun x (hx : Below w.heap.size w x) => sameInts_ret A A' c c' s.refs x w.heap.size w.heap.size (r1.below hx (Nat.le_refl _)) (r1'.below hx (Nat.le_refl _)) (by unfold maxLen; omega))
  have C2 := hid (fun x (hx : Below w.heap.size w x) => sameInts_ret A2 A2' c2 c2' s.locks x w.heap.size w.heap.size (r2.below hx (Nat.le_refl _)) (r2'.below hx (Nat.le_refl _)) (by unfold maxLen; omega))
  go_enter Tryd.func31, Tryd.ntmps31
  obtain ⟨w1, hw1⟩ : ∃ w1, (w.alloc (.cells #[.slice A s.refs.length c, .slice A2 s.locks.length c2] 37)).alloc (.cells #[.slice A' s.refs.length c', .slice A2' s.locks.length c2'] 37) = w1 := ⟨_, rfl⟩
  have x0 := (Blk2s.new_ w 37 (.slice A s.refs.length c) (.slice A2 s.locks.length c2)).alloc (.cells #[.slice A' s.refs.length c', .slice A2' s.locks.length c2'] 37)
  have x1 := Blk2s.new_ (w.alloc (.cells #[.slice A s.refs.length c, .slice A2 s.locks.length c2] 37)) 37 (.slice A' s.refs.length c') (.slice A2' s.locks.length c2')
  rw [World.size_alloc] at x1
  rw [hw1] at al x0 x1
  obtain ⟨y0, y1, -⟩ := id x0.reads
  obtain ⟨z0, z1, -⟩ := id x1.reads
  go_wp2_with fail
  refine (C1.out w1 al).mono ?_
  rintro e w2 ⟨rfl, d2⟩
  clear y0 y1 z0 z1 hw1
  have al2 := al.trans (d2.mono al.size)
  obtain ⟨y0, y1, -⟩ := id (x0.later d2).reads
  obtain ⟨z0, z1, -⟩ := id (x1.later d2).reads
  go_wp2_with fail
  refine (C2.out w2 al2).mono ?_
  rintro e w3 ⟨rfl, d3⟩
  clear y0 y1 z0 z1
  go_wp2
  go_ret
  exact ⟨rfl, al2.trans (d3.mono al2.size)⟩
end Go.Proofs.YteeffchnbkkpfabDoor
