/- The coordinator with the slices $SA and $SB is stored as the answer, with the word $BB. -/
/-
  Walks: the program's ledger after one more record.
-/
import Derived.Test.YteeffchnbkkpfabDoorLedE
namespace Go.Proofs.YteeffchnbkkpfabDoor
open Go.RowKit Wo Pu Rf Lk Sh

theorem PrepO.form {b : Bool} {zs : List Int} {n : Nat} {qs st : List Int} {us : List Value} {w w' : World} {e : Ending} (h : PrepO b zs n qs st us w e w') (hL : ∀ A c, Led (ledC zs (.slice A n c) st us)) :
    ∃ X, e = .returned (.tuple #[.agg X.toArray, .bool b]) ∧ Led X ∧ Below w.heap.size w w' ∧ (b = true → ∃ A' c', X = ledC zs (.slice A' n c') st us ∧ OwnI w' w.heap.size (.slice A' n c') qs) := by
  rcases h with ⟨rfl, cs', h1, h2, h3⟩ | ⟨rfl, A', c', h2, h4, h3⟩
  · exact ⟨cs', h2, h1, h3, fun e => by cases e⟩
  · exact ⟨_, h2, hL A' c', h3, fun _ => ⟨A', c', rfl, h4⟩⟩
theorem upd_old {rs : List Rec} {s s' : St} {r : Rec} (hi : Inv rs s) (hs : Step rs s r s') {t : Int} (ht : r.t ≠ t ∨ r.k ≠ 1) : Sh.upd (rs ++ [r]) t = Sh.upd rs t := by
  rw [upd_snoc rs r t, if_neg]
  · rintro ⟨e1, e2⟩
    rcases ht with h | h <;> contradiction
  · intro e1 e2
    have : Sh.ask rs r.t = 0 := by cases hs <;> first | assumption | omega
    exact ask_fresh hi (by rw [← e1]; exact this)
/-- What a ledger holds after a vote. -/
theorem LdV.prep {w' : World} {B : Nat} {A' AL : Option Addr} {c' cL : Nat} {us : List Value} {rs : List Rec} {s : St} {r : Rec} {m : Nat} (hi : Inv rs s) (hm : m < 12) (hr : r.t = (m : Int)) (hk : r.k = 1)
    (hs : Step rs s r ⟨s.refs, setR s.locks (lk r.t r.us)⟩) (h2 : us.length = 12) (h3 : ∀ u ∈ us, u.oneCell' = true)
    (h5 : ∀ t : Nat, t < 12 → Sh.ask rs (t : Int) = 1 → ∃ A' c', us[t]? = some (.slice A' (Sh.upd rs t).length c') ∧ Row w' B A' (upsV (Sh.upd rs t)))
    (hU : Row w' B AL (upsV r.us)) (ho : OwnI w' B (.slice A' s.locks.length c') (setR s.locks (lk m r.us))) :
    LdV w' B (ledC s.refs (.slice A' s.locks.length c') ((stL rs).set m 1) (us.set m (.slice AL r.us.length cL))) (rs ++ [r]) ⟨s.refs, setR s.locks (lk r.t r.us)⟩ := by
  have hl : (setR s.locks (lk r.t r.us)).length = s.locks.length := setR_length _ _
  have ha : Sh.ask rs r.t = 0 := (step_1 hs hk).1
  refine ⟨A', c', us.set m (.slice AL r.us.length cL), ?_, by rw [List.length_set]; exact h2, fun u hu => ?_, ?_, fun t ht hat => ?_⟩
  · rw [stL_snoc hr, hk, hl]
  · rcases List.mem_or_eq_of_mem_set hu with e | rfl
    · exact h3 u e
    · rfl
  · rw [hl, hr]; exact ho
  · rw [ask_snoc] at hat
    by_cases e : r.t = (t : Int)
    · have em : m = t := by omega
      subst em
      have eu : Sh.upd (rs ++ [r]) (m : Int) = r.us := by
        rw [upd_snoc rs r m fun e1 _ => ask_fresh hi (by rw [← e1]; exact ha), if_pos ⟨e, hk⟩]
      rw [eu]
      exact ⟨AL, cL, by rw [List.getElem?_set_self (by omega)], hU⟩
    · rw [if_neg e] at hat
      rw [upd_old hi hs (.inl e)]
      obtain ⟨A2, c2, q1, q2⟩ := h5 t ht hat
      exact ⟨A2, c2, by rw [List.getElem?_set_ne (by omega)]; exact q1, q2⟩
/-- .. and after a decision. -/
theorem LdV.deci {w' : World} {B : Nat} {A' : Option Addr} {c' : Nat} {us : List Value} {rs : List Rec} {s s' : St} {r : Rec} {m : Nat} (hi : Inv rs s) (hr : r.t = (m : Int)) (hk : r.k ≠ 1)
    (hs : Step rs s r s') (hl : s'.locks = freeL m s.locks) (h2 : us.length = 12) (h3 : ∀ u ∈ us, u.oneCell' = true)
    (h5 : ∀ t : Nat, t < 12 → Sh.ask rs (t : Int) = 1 → ∃ A' c', us[t]? = some (.slice A' (Sh.upd rs t).length c') ∧ Row w' B A' (upsV (Sh.upd rs t)))
    (ho : OwnI w' B (.slice A' s.locks.length c') (freeL m s.locks)) :
    LdV w' B (ledC s'.refs (.slice A' s.locks.length c') ((stL rs).set m r.k) us) (rs ++ [r]) s' := by
  have hll : s'.locks.length = s.locks.length := by rw [hl, free_length]
  refine ⟨A', c', us, ?_, h2, h3, ?_, fun t ht hat => ?_⟩
  · rw [stL_snoc hr, hll]
  · rw [hll, hl]; exact ho
  · rw [ask_snoc] at hat
    by_cases e : r.t = (t : Int)
    · rw [if_pos e] at hat; exact absurd hat hk
    · rw [if_neg e] at hat
      rw [upd_old hi hs (.inl e)]
      exact h5 t ht hat
/-! ### The method of an entry. -/
theorem transaction_is (t : Int) (w : World) : Calls Tryd.prog 126 #[.int .i64 t] w (Same (.int .i64 t) w) := by
  go_enter Tryd.func126, Tryd.ntmps126
  go_wp2
  go_ret
  exact ⟨rfl, rfl⟩
theorem method1 (x : Int) (u : Value) (w : World) : (method 294 128 (.agg #[.int .i64 x, u]) "loop.example/atomicpush/impl.transaction").run Tryd.prog w = .ok (126, .int .i64 x) w := by kernel_rfl
theorem method2 (x : Int) (w : World) : (method 294 130 (.agg #[.int .i64 x]) "loop.example/atomicpush/impl.transaction").run Tryd.prog w = .ok (126, .int .i64 x) w := by kernel_rfl
theorem method3 (x : Int) (w : World) : (method 294 131 (.agg #[.int .i64 x]) "loop.example/atomicpush/impl.transaction").run Tryd.prog w = .ok (126, .int .i64 x) w := by kernel_rfl
theorem assert11 (v : Value) (w : World) : (Instr.typeAssert (.iface 128 v) 111 128 true).run Tryd.prog w = .ok (.tuple #[v, .bool true]) w := by kernel_rfl
theorem assert21 (v : Value) (w : World) : (Instr.typeAssert (.iface 130 v) 111 128 true).run Tryd.prog w = .ok (.tuple #[.agg #[.int .i64 0, .slice none 0 0], .bool false]) w := by kernel_rfl
theorem assert31 (v : Value) (w : World) : (Instr.typeAssert (.iface 131 v) 111 128 true).run Tryd.prog w = .ok (.tuple #[.agg #[.int .i64 0, .slice none 0 0], .bool false]) w := by kernel_rfl
theorem assert22 (v : Value) (w : World) : (Instr.typeAssert (.iface 130 v) 111 130 true).run Tryd.prog w = .ok (.tuple #[v, .bool true]) w := by kernel_rfl
theorem assert32 (v : Value) (w : World) : (Instr.typeAssert (.iface 131 v) 111 130 true).run Tryd.prog w = .ok (.tuple #[.agg #[.int .i64 0], .bool false]) w := by kernel_rfl
theorem assert33 (v : Value) (w : World) : (Instr.typeAssert (.iface 131 v) 111 131 true).run Tryd.prog w = .ok (.tuple #[v, .bool true]) w := by kernel_rfl
/-- Behind it: the ledger after one more record. -/
def FolO (B : Nat) (rs : List Rec) (r : Rec) (s' : St) (b : Bool) (w : World) (e : Ending) (w' : World) : Prop := ∃ X, e = .returned (.tuple #[.agg X.toArray, .bool b]) ∧ Led X ∧ (b = true → LdV w' B X (rs ++ [r]) s') ∧ Below w.heap.size w w'
set_option maxRecDepth 100000 in
set_option maxHeartbeats 8000000 in
theorem followed_1 (b : Bool) (s' : St) (B : Nat) (cs : List Value) (rs : List Rec) (s : St) (AL : Option Addr) (cL : Nat) (r : Rec) (w : World) (er0 er1 : Addr) (hB : B ≤ w.heap.size) (hv : LdV w B cs rs s) (hi : Inv rs s) (ht : RightR r) (hk : r.k = 1)
    (hU : Row w B AL (upsV r.us)) (hlen : r.us.length ≤ 1048600) (hE : Errs er0 er1 w) (hST : StepTo rs s r b s') :
    Calls Tryd.prog 85 #[.agg cs.toArray, .iface 128 (.agg #[.int .i64 r.t, .slice AL r.us.length cL])] w (FolO B rs r s' b w) := by
  obtain ⟨A, c, us, hcs, h2, h3, ho, h5⟩ := hv
  obtain ⟨m, hm⟩ := Int.eq_ofNat_of_zero_le ht.1.1
  have hm12 : m < 12 := by have := ht.1.2; omega
  have h1 : s.refs.length = 4 := hi.refs.1
  have hl0 : s.locks.length = 4 := hi.locks.1
  have uv : UV r.us := by
    rcases ht.2 with h | h | h
    · exact h.2
    · omega
    · omega
  have hbb : b = true ↔ Sh.ask rs (m : Int) = 0 ∧ Fits s.refs r.us ∧ Fits s.locks (lk m r.us) := by
    constructor
    · intro e
      rcases hST with ⟨-, h⟩ | ⟨h, -⟩
      · obtain ⟨q1, q2, q3, q4⟩ := step_1 h hk
        rw [hm] at q1 q4
        exact ⟨q1, q3, q4⟩
      · rw [h] at e; cases e
    · rintro ⟨q1, q2, q3⟩
      rcases hST with ⟨h, -⟩ | ⟨-, h, -⟩
      · exact h
      · exact absurd ⟨_, Step.prepare hk (by rw [hm]; exact q1) uv q2 (by rw [hm]; exact q3)⟩ h
  obtain ⟨A0, c0, ei, hrow, -⟩ := id ho.form
  injection ei with e1 e2 e3
  subst e1 e3
  have CP : Hid (∀ y, Below w.heap.size w y → Calls Tryd.prog 101 #[.agg cs.toArray, .int .i64 (m : Int), .slice AL r.us.length cL] y (PrepO b s.refs s.locks.length (setR s.locks (lk m r.us)) ((stL rs).set m 1) (us.set m (.slice AL r.us.length cL)) y)) := fun y hy => by
    rw [hcs]
    exact prepared_is b s.refs (stL rs) s.locks A c us m AL cL r.us _ y er0 er1 h1 (stL_length rs) h2 h3 (row_on hrow hy) hi.locks hm12 ((hU.below hy hB).more (Nat.le_trans hB hy.size)) uv hlen (hE.below hy) (stL_get hm12) hbb
  have HLed : Hid (∀ A c, Led (ledC s.refs (.slice A s.locks.length c) ((stL rs).set m 1) (us.set m (.slice AL r.us.length cL)))) := fun A c => Led.mk_ h1 (by rw [List.length_set]; exact stL_length rs) (by rw [List.length_set]; exact h2) rfl (fun u hu => by
    rcases List.mem_or_eq_of_mem_set hu with e | rfl
    · exact h3 u e
    · rfl)
  have HEnd : Hid (∀ (w' : World) A' c', OwnI w' w.heap.size (.slice A' s.locks.length c') (setR s.locks (lk m r.us)) → Below w.heap.size w w' → b = true → LdV w' B (ledC s.refs (.slice A' s.locks.length c') ((stL rs).set m 1) (us.set m (.slice AL r.us.length cL))) (rs ++ [r]) s') := fun w' A' c' ho' hb' e => by
    rcases hST with ⟨-, h⟩ | ⟨h, -⟩
    · have es : s' = ⟨s.refs, setR s.locks (lk r.t r.us)⟩ := by
        cases h with
        | prepare _ _ _ _ _ => rfl
        | commit k _ _ => omega
        | abort k _ _ => omega
      subst es
      exact LdV.prep hi hm12 hm hk h h2 h3 (fun t ht ha => by obtain ⟨A2, c2, q1, q2⟩ := h5 t ht ha; exact ⟨A2, c2, q1, q2.below hb' hB⟩) (hU.below hb' hB) (ho'.base hB)
    · rw [h] at e; cases e
  have hL := hid (show Led cs by rw [hcs]; exact Led.mk_ h1 (stL_length rs) h2 rfl h3)
  clear hcs h2 h3 h5 hbb uv hST hi ht hk h1 hl0 ho hrow hE
  rw [hm]
  clear hm
  have a0 := (Arr4.new_ w 82 cs).alloc (.cells led0.toArray 82)
  have a1 := Arr4.new_ (w.alloc (.cells cs.toArray 82)) 82 led0
  have b1 := ((Below.refl w.heap.size w).alloc (Nat.le_refl _) (.cells cs.toArray 82)).alloc (by simp) (.cells led0.toArray 82)
  rw [World.size_alloc] at a1
  go_enter Tryd.func85, Tryd.ntmps85
  go_upto_region 1 with fail
  obtain ⟨W, hW⟩ : ∃ x, (w.alloc (.cells cs.toArray 82)).alloc (.cells led0.toArray 82) = x := ⟨_, rfl⟩
  change Code.wp _ _ _ _ ((w.alloc (.cells cs.toArray 82)).alloc (.cells led0.toArray 82))
  rw [hW] at a0 a1 b1 ⊢
  clear hW
  have hmeth := method1 (m : Int) (.slice AL r.us.length cL) W
  go_wp2_with fail
  refine (transaction_is _ _).mono ?_
  rintro e _ ⟨rfl, rfl⟩
  clear hmeth
  have al := (Below.refl W.heap.size W).alloc (Nat.le_refl _) (.cells #[.int .i64 (m : Int), .slice AL r.us.length cL] 128)
  have x2 := Blk2s.new_ W 128 (.int .i64 (m : Int)) (.slice AL r.us.length cL)
  have hass := assert11 (.agg #[.int .i64 (m : Int), .slice AL r.us.length cL]) W
  go_upto_region 5 with fail
  obtain ⟨w3, hw3⟩ : ∃ x, W.alloc (.cells #[.int .i64 (m : Int), .slice AL r.us.length cL] 128) = x := ⟨_, rfl⟩
  rw [hw3] at al x2 ⊢
  clear hw3
  have q0 := a0.below al a0.lt
  have q1 := a1.below al a1.lt
  have b3 := b1.trans (al.mono b1.size)
  obtain ⟨-, y1, -⟩ := id x2.reads
  have hld : w3.heap[w.heap.size]? = some (.cells cs.toArray 82 (0, 0)) := q0
  clear a0 a1 b1 al x2
  go_wp2_with (refine wpList_load_row rfl 82 _ rfl w.heap.size rfl 82 cs.toArray (0, 0) _ hld Tryd.underlying82 rfl hL.out.info ?_)
  refine (CP.out _ b3).mono ?_
  rintro e w4 hP
  obtain ⟨X, rfl, hX, d4, hXX⟩ := hP.form HLed.out
  have HX := hid hX
  have b4 := b3.trans (d4.mono b3.size)
  have s1 := q1.below d4 q1.lt
  have HXX := hid hXX
  have z3 := b3.size
  have hs : w4.heap[w.heap.size + 1]? = some (.cells led0.toArray 82 (0, 0)) := s1
  clear q0 q1 b3 d4 hXX hX hld CP HLed y1
  go_wp2_with (refine wpList_store_rowTo rfl 82 _ _ rfl rfl (w.heap.size + 1) X.toArray rfl rfl 82 led0.toArray hs HX.out.info (led0_led.size.trans HX.out.size.symm) HX.out.2 ?_)
  have h2 := setRow_heap _ _ _ X.toArray _ _ hs
  have b9 := below_setRow b4 (Nat.le_succ _) X.toArray
  refine bodyPost_ret (v := .tuple #[.agg X.toArray, .bool b]) (results_row_slot (p := 4) (s := 5) (by kernel_rfl) _ _ (w.heap.size + 1) 82 _ (0, 0) _ _ rfl rfl h2 Tryd.underlying82 HX.out.info) rfl ⟨X, rfl, HX.out, fun e => ?_, b9⟩
  obtain ⟨A', c', eX, ho'⟩ := HXX.out e
  have o9 := (ho'.base (B' := w.heap.size) z3).keptT (by decide) (but_setRow w4 (w.heap.size + 1) X.toArray) (blk_type s1)
  rw [eX] at o9 b9 ⊢
  exact HEnd.out _ A' c' o9 b9 e
set_option maxRecDepth 100000 in
set_option maxHeartbeats 8000000 in
theorem followed_2 (b : Bool) (s' : St) (B : Nat) (cs : List Value) (rs : List Rec) (s : St) (r : Rec) (w : World) (hB : B ≤ w.heap.size) (hv : LdV w B cs rs s) (hi : Inv rs s) (ht : RightR r) (hk : r.k = 2) (hlen : ∀ x ∈ rs, x.us.length ≤ 1048576) (hST : StepTo rs s r b s') :
    Calls Tryd.prog 85 #[.agg cs.toArray, .iface 130 (.agg #[.int .i64 r.t])] w (FolO B rs r s' b w) := by
  obtain ⟨A, c, us, hcs, h2, h3, ho, h5⟩ := hv
  obtain ⟨m, hm⟩ := Int.eq_ofNat_of_zero_le ht.1.1
  have hm12 : m < 12 := by have := ht.1.2; omega
  have h1 : s.refs.length = 4 := hi.refs.1
  have hl0 : s.locks.length = 4 := hi.locks.1
  have hu0 : r.us = [] := by
    rcases ht.2 with h | h | h
    · omega
    · exact List.eq_nil_of_length_eq_zero h.2
    · exact List.eq_nil_of_length_eq_zero h.2
  have hbb : b = true ↔ Sh.ask rs (m : Int) = 1 := by
    constructor
    · intro e
      rcases hST with ⟨-, h⟩ | ⟨h, -⟩
      · rw [← hm]; exact (step_2 h hk).1
      · rw [h] at e; cases e
    · intro q1
      rcases hST with ⟨h, -⟩ | ⟨-, h, -⟩
      · exact h
      · exact absurd ⟨_, Step.commit hk (by rw [hm]; exact q1) hu0⟩ h
  obtain ⟨A0, c0, ei, hrow, -⟩ := id ho.form
  injection ei with e1 e2 e3
  subst e1 e3
  have CP : Hid (∀ y, Below w.heap.size w y → Calls Tryd.prog 102 #[.agg cs.toArray, .int .i64 (m : Int)] y (PrepO b (setR s.refs (Sh.upd rs m)) s.locks.length (freeL m s.locks) ((stL rs).set m 2) us y)) := fun y hy => by
    rw [hcs]
    by_cases ha : Sh.ask rs (m : Int) = 1
    · obtain ⟨A2, c2, q1, q2⟩ := h5 m hm12 ha
      obtain ⟨-, p2, p3, -⟩ := hi.prep m ha
      exact committed_is b s.refs (stL rs) s.locks A c us m A2 c2 (Sh.upd rs m) _ y h1 (stL_length rs) h2 h3 (row_on hrow hy) hi.locks hm12 (stL_get hm12) hbb (fun _ => ⟨q1, (q2.below hy hB).more (Nat.le_trans hB hy.size), p2, p3, by have := upd_len hlen (t := (m : Int)); omega⟩)
    · exact committed_is b s.refs (stL rs) s.locks A c us m none 0 (Sh.upd rs m) _ y h1 (stL_length rs) h2 h3 (row_on hrow hy) hi.locks hm12 (stL_get hm12) hbb (fun e => absurd e ha)
  have HLed : Hid (∀ A c, Led (ledC (setR s.refs (Sh.upd rs m)) (.slice A s.locks.length c) ((stL rs).set m 2) us)) := fun A c => Led.mk_ (by rw [setR_length]; exact h1) (by rw [List.length_set]; exact stL_length rs) h2 rfl h3
  have HEnd : Hid (∀ (w' : World) A' c', OwnI w' w.heap.size (.slice A' s.locks.length c') (freeL m s.locks) → Below w.heap.size w w' → b = true → LdV w' B (ledC (setR s.refs (Sh.upd rs m)) (.slice A' s.locks.length c') ((stL rs).set m 2) us) (rs ++ [r]) s') := fun w' A' c' ho' hb' e => by
    rcases hST with ⟨-, h⟩ | ⟨h, -⟩
    · have es : s' = ⟨setR s.refs (Sh.upd rs r.t), freeL r.t s.locks⟩ := by
        cases h with
        | prepare k _ _ _ _ => omega
        | commit k _ _ => first | rfl | omega
        | abort k _ _ => first | rfl | omega
      subst es
      have := LdV.deci (w' := w') (B := B) (A' := A') (c' := c') hi hm (by omega) h (by rw [hm]) h2 h3 (fun t ht ha => by obtain ⟨A2, c2, q1, q2⟩ := h5 t ht ha; exact ⟨A2, c2, q1, q2.below hb' hB⟩) (ho'.base hB)
      rw [hk] at this
      rw [hm] at this ⊢
      exact this
    · rw [h] at e; cases e
  have hL := hid (show Led cs by rw [hcs]; exact Led.mk_ h1 (stL_length rs) h2 rfl h3)
  clear hcs h2 h3 h5 hbb hST hi ht hk h1 hl0 ho hrow hu0 hlen
  rw [hm]
  clear hm
  have a0 := (Arr4.new_ w 82 cs).alloc (.cells led0.toArray 82)
  have a1 := Arr4.new_ (w.alloc (.cells cs.toArray 82)) 82 led0
  have b1 := ((Below.refl w.heap.size w).alloc (Nat.le_refl _) (.cells cs.toArray 82)).alloc (by simp) (.cells led0.toArray 82)
  rw [World.size_alloc] at a1
  go_enter Tryd.func85, Tryd.ntmps85
  go_upto_region 1 with fail
  obtain ⟨W, hW⟩ : ∃ x, (w.alloc (.cells cs.toArray 82)).alloc (.cells led0.toArray 82) = x := ⟨_, rfl⟩
  change Code.wp _ _ _ _ ((w.alloc (.cells cs.toArray 82)).alloc (.cells led0.toArray 82))
  rw [hW] at a0 a1 b1 ⊢
  clear hW
  have hmeth := method2 (m : Int) W
  go_wp2_with fail
  refine (transaction_is _ _).mono ?_
  rintro e _ ⟨rfl, rfl⟩
  clear hmeth
  have al := (Below.refl W.heap.size W).alloc (Nat.le_refl _) (.cells #[.int .i64 (m : Int)] 130)
  have x2 := Blk1.new_ W 130 (.int .i64 (m : Int))
  have hass := assert21 (.agg #[.int .i64 (m : Int)]) W
  have hass2 := assert22 (.agg #[.int .i64 (m : Int)]) W
  go_upto_region 8 with fail
  obtain ⟨w3, hw3⟩ : ∃ x, W.alloc (.cells #[.int .i64 (m : Int)] 130) = x := ⟨_, rfl⟩
  rw [hw3] at al x2 ⊢
  clear hw3
  have q0 := a0.below al a0.lt
  have q1 := a1.below al a1.lt
  have b3 := b1.trans (al.mono b1.size)
  have hld : w3.heap[w.heap.size]? = some (.cells cs.toArray 82 (0, 0)) := q0
  clear a0 a1 b1 al x2
  go_wp2_with (refine wpList_load_row rfl 82 _ rfl w.heap.size rfl 82 cs.toArray (0, 0) _ hld Tryd.underlying82 rfl hL.out.info ?_)
  refine (CP.out _ b3).mono ?_
  rintro e w4 hP
  obtain ⟨X, rfl, hX, d4, hXX⟩ := hP.form HLed.out
  have HX := hid hX
  have b4 := b3.trans (d4.mono b3.size)
  have s1 := q1.below d4 q1.lt
  have HXX := hid hXX
  have z3 := b3.size
  have hs : w4.heap[w.heap.size + 1]? = some (.cells led0.toArray 82 (0, 0)) := s1
  clear q0 q1 b3 d4 hXX hX hld CP HLed
  go_wp2_with (refine wpList_store_rowTo rfl 82 _ _ rfl rfl (w.heap.size + 1) X.toArray rfl rfl 82 led0.toArray hs HX.out.info (led0_led.size.trans HX.out.size.symm) HX.out.2 ?_)
  have h2 := setRow_heap _ _ _ X.toArray _ _ hs
  have b9 := below_setRow b4 (Nat.le_succ _) X.toArray
  refine bodyPost_ret (v := .tuple #[.agg X.toArray, .bool b]) (results_row_slot (p := 4) (s := 5) (by kernel_rfl) _ _ (w.heap.size + 1) 82 _ (0, 0) _ _ rfl rfl h2 Tryd.underlying82 HX.out.info) rfl ⟨X, rfl, HX.out, fun e => ?_, b9⟩
  obtain ⟨A', c', eX, ho'⟩ := HXX.out e
  have o9 := (ho'.base (B' := w.heap.size) z3).keptT (by decide) (but_setRow w4 (w.heap.size + 1) X.toArray) (blk_type s1)
  rw [eX] at o9 b9 ⊢
  exact HEnd.out _ A' c' o9 b9 e
set_option maxRecDepth 100000 in
set_option maxHeartbeats 8000000 in
theorem followed_3 (b : Bool) (s' : St) (B : Nat) (cs : List Value) (rs : List Rec) (s : St) (r : Rec) (w : World) (hB : B ≤ w.heap.size) (hv : LdV w B cs rs s) (hi : Inv rs s) (ht : RightR r) (hk : r.k = 3) (hST : StepTo rs s r b s') :
    Calls Tryd.prog 85 #[.agg cs.toArray, .iface 131 (.agg #[.int .i64 r.t])] w (FolO B rs r s' b w) := by
  obtain ⟨A, c, us, hcs, h2, h3, ho, h5⟩ := hv
  obtain ⟨m, hm⟩ := Int.eq_ofNat_of_zero_le ht.1.1
  have hm12 : m < 12 := by have := ht.1.2; omega
  have h1 : s.refs.length = 4 := hi.refs.1
  have hl0 : s.locks.length = 4 := hi.locks.1
  have hu0 : r.us = [] := by
    rcases ht.2 with h | h | h
    · omega
    · exact List.eq_nil_of_length_eq_zero h.2
    · exact List.eq_nil_of_length_eq_zero h.2
  have hbb : b = true ↔ Sh.ask rs (m : Int) = 0 ∨ Sh.ask rs (m : Int) = 1 := by
    constructor
    · intro e
      rcases hST with ⟨-, h⟩ | ⟨h, -⟩
      · rw [← hm]; exact (step_3 h hk).1
      · rw [h] at e; cases e
    · intro q1
      rcases hST with ⟨h, -⟩ | ⟨-, h, -⟩
      · exact h
      · exact absurd ⟨_, Step.abort hk (by rw [hm]; exact q1) hu0⟩ h
  obtain ⟨A0, c0, ei, hrow, -⟩ := id ho.form
  injection ei with e1 e2 e3
  subst e1 e3
  have CP : Hid (∀ y, Below w.heap.size w y → Calls Tryd.prog 103 #[.agg cs.toArray, .int .i64 (m : Int)] y (PrepO b s.refs s.locks.length (freeL m s.locks) ((stL rs).set m 3) us y)) := fun y hy => by
    rw [hcs]
    exact aborted_is b s.refs (stL rs) s.locks A c us m _ y h1 (stL_length rs) h2 h3 (row_on hrow hy) hi.locks hm12 (stL_get hm12) hbb
  have HLed : Hid (∀ A c, Led (ledC s.refs (.slice A s.locks.length c) ((stL rs).set m 3) us)) := fun A c => Led.mk_ h1 (by rw [List.length_set]; exact stL_length rs) h2 rfl h3
  have HEnd : Hid (∀ (w' : World) A' c', OwnI w' w.heap.size (.slice A' s.locks.length c') (freeL m s.locks) → Below w.heap.size w w' → b = true → LdV w' B (ledC s.refs (.slice A' s.locks.length c') ((stL rs).set m 3) us) (rs ++ [r]) s') := fun w' A' c' ho' hb' e => by
    rcases hST with ⟨-, h⟩ | ⟨h, -⟩
    · have es : s' = ⟨s.refs, freeL r.t s.locks⟩ := by
        cases h with
        | prepare k _ _ _ _ => omega
        | commit k _ _ => first | rfl | omega
        | abort k _ _ => first | rfl | omega
      subst es
      have := LdV.deci (w' := w') (B := B) (A' := A') (c' := c') hi hm (by omega) h (by rw [hm]) h2 h3 (fun t ht ha => by obtain ⟨A2, c2, q1, q2⟩ := h5 t ht ha; exact ⟨A2, c2, q1, q2.below hb' hB⟩) (ho'.base hB)
      rw [hk] at this
      rw [hm] at this ⊢
      exact this
    · rw [h] at e; cases e
  have hL := hid (show Led cs by rw [hcs]; exact Led.mk_ h1 (stL_length rs) h2 rfl h3)
  clear hcs h2 h3 h5 hbb hST hi ht hk h1 hl0 ho hrow hu0
  rw [hm]
  clear hm
  have a0 := (Arr4.new_ w 82 cs).alloc (.cells led0.toArray 82)
  have a1 := Arr4.new_ (w.alloc (.cells cs.toArray 82)) 82 led0
  have b1 := ((Below.refl w.heap.size w).alloc (Nat.le_refl _) (.cells cs.toArray 82)).alloc (by simp) (.cells led0.toArray 82)
  rw [World.size_alloc] at a1
  go_enter Tryd.func85, Tryd.ntmps85
  go_upto_region 1 with fail
  obtain ⟨W, hW⟩ : ∃ x, (w.alloc (.cells cs.toArray 82)).alloc (.cells led0.toArray 82) = x := ⟨_, rfl⟩
  change Code.wp _ _ _ _ ((w.alloc (.cells cs.toArray 82)).alloc (.cells led0.toArray 82))
  rw [hW] at a0 a1 b1 ⊢
  clear hW
  have hmeth := method3 (m : Int) W
  go_wp2_with fail
  refine (transaction_is _ _).mono ?_
  rintro e _ ⟨rfl, rfl⟩
  clear hmeth
  have al := (Below.refl W.heap.size W).alloc (Nat.le_refl _) (.cells #[.int .i64 (m : Int)] 131)
  have x2 := Blk1.new_ W 131 (.int .i64 (m : Int))
  have hass := assert31 (.agg #[.int .i64 (m : Int)]) W
  have hass2 := assert32 (.agg #[.int .i64 (m : Int)]) W
  have hass3 := assert33 (.agg #[.int .i64 (m : Int)]) W
  go_upto_region 11 with fail
  obtain ⟨w3, hw3⟩ : ∃ x, W.alloc (.cells #[.int .i64 (m : Int)] 131) = x := ⟨_, rfl⟩
  rw [hw3] at al x2 ⊢
  clear hw3
  have q0 := a0.below al a0.lt
  have q1 := a1.below al a1.lt
  have b3 := b1.trans (al.mono b1.size)
  have hld : w3.heap[w.heap.size]? = some (.cells cs.toArray 82 (0, 0)) := q0
  clear a0 a1 b1 al x2
  go_wp2_with (refine wpList_load_row rfl 82 _ rfl w.heap.size rfl 82 cs.toArray (0, 0) _ hld Tryd.underlying82 rfl hL.out.info ?_)
  refine (CP.out _ b3).mono ?_
  rintro e w4 hP
  obtain ⟨X, rfl, hX, d4, hXX⟩ := hP.form HLed.out
  have HX := hid hX
  have b4 := b3.trans (d4.mono b3.size)
  have s1 := q1.below d4 q1.lt
  have HXX := hid hXX
  have z3 := b3.size
  have hs : w4.heap[w.heap.size + 1]? = some (.cells led0.toArray 82 (0, 0)) := s1
  clear q0 q1 b3 d4 hXX hX hld CP HLed
  go_wp2_with (refine wpList_store_rowTo rfl 82 _ _ rfl rfl (w.heap.size + 1) X.toArray rfl rfl 82 led0.toArray hs HX.out.info (led0_led.size.trans HX.out.size.symm) HX.out.2 ?_)
  have h2 := setRow_heap _ _ _ X.toArray _ _ hs
  have b9 := below_setRow b4 (Nat.le_succ _) X.toArray
  refine bodyPost_ret (v := .tuple #[.agg X.toArray, .bool b]) (results_row_slot (p := 4) (s := 5) (by kernel_rfl) _ _ (w.heap.size + 1) 82 _ (0, 0) _ _ rfl rfl h2 Tryd.underlying82 HX.out.info) rfl ⟨X, rfl, HX.out, fun e => ?_, b9⟩
  obtain ⟨A', c', eX, ho'⟩ := HXX.out e
  have o9 := (ho'.base (B' := w.heap.size) z3).keptT (by decide) (but_setRow w4 (w.heap.size + 1) X.toArray) (blk_type s1)
  rw [eX] at o9 b9 ⊢
  exact HEnd.out _ A' c' o9 b9 e
theorem followed_is (b : Bool) (s' : St) (B : Nat) (cs : List Value) (rs : List Rec) (s : St) (AL : Option Addr) (cL : Nat) (r : Rec) (w : World) (er0 er1 : Addr) (hB : B ≤ w.heap.size) (hv : LdV w B cs rs s) (hi : Inv rs s) (ht : RightR r)
    (hU : Row w B AL (upsV r.us)) (hlen : r.us.length ≤ 1048576) (hlen2 : ∀ x ∈ rs, x.us.length ≤ 1048576) (hE : Errs er0 er1 w) (hST : StepTo rs s r b s') :
    Calls Tryd.prog 85 #[.agg cs.toArray, entV AL cL r] w (FolO B rs r s' b w) := by
  unfold entV
  rcases ht.2 with h | h | h
  · rw [if_pos h.1]
    exact followed_1 b s' B cs rs s AL cL r w er0 er1 hB hv hi ht h.1 hU (by omega) hE hST
  · rw [if_neg (by omega), if_pos h.1]
    exact followed_2 b s' B cs rs s r w hB hv hi ht h.1 hlen2 hST
  · rw [if_neg (by omega), if_neg (by omega)]
    exact followed_3 b s' B cs rs s r w hB hv hi ht h.1 hST
end Go.Proofs.YteeffchnbkkpfabDoor
