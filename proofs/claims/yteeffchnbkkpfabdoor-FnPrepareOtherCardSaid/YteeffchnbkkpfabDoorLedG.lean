/- The coordinator with the slices $SA and $SB is stored as the answer, with the word $BB. -/
/-
  Walks: the program's ledger of all records of a shard.
-/
import Derived.Test.YteeffchnbkkpfabDoorLedF
import Derived.Test.YteeffchnbkkpfabDoorShdE
namespace Go.Proofs.YteeffchnbkkpfabDoor
open Go.RowKit Wo Pu Rf Lk Sh

/-- Behind it: a ledger, and whether the shard is valid; then it is the ledger of all its records. -/
def ReadO (rs : List Rec) (b : Bool) (w : World) (e : Ending) (w' : World) : Prop := ∃ X, e = .returned (.tuple #[.agg X.toArray, .bool b]) ∧ Led X ∧ (b = true → ∃ s, Rcv rs s ∧ LdV w' w.heap.size X rs s) ∧ Below w.heap.size w w'
theorem step_right {rs : List Rec} {s x : St} {r : Rec} (ht : TV r.t) (h : Step rs s r x) : RightR r := by
  refine ⟨ht, ?_⟩
  cases h with
  | prepare h1 _ h3 _ _ => exact .inl ⟨h1, h3⟩
  | commit h1 _ h3 => exact .inr (.inl ⟨h1, by rw [h3]; rfl⟩)
  | abort h1 _ h3 => exact .inr (.inr ⟨h1, by rw [h3]; rfl⟩)
theorem Led.row {w : World} {g : Nat} {cs ys : List Value} (h : Arr4 w g 82 cs) : Arr4 (w.setRow g ys.toArray) g 82 ys := h.setRow ys
theorem Blk1.row {w : World} {g R : Nat} {t : TypeId} {v : Value} (h : Blk1 w g t v) (hR : g ≠ R) (cs : Array Value) : Blk1 (w.setRow R cs) g t v := (setRow_other w R g cs hR).trans h
/-- What the loop holds: the shard's box, the result's, the ledger's in block g. -/
def RdL (w : World) (g : Nat) (A : Option Addr) (n c : Nat) (cs : List Value) (rs : List Rec) (s : St) (wr : World) : Prop :=
  Blk1 wr w.heap.size 25 (.slice A n c) ∧ Arr4 wr (w.heap.size + 1) 82 led0 ∧ Arr4 wr g 82 cs ∧ w.heap.size + 1 < g ∧ LdV wr w.heap.size cs rs s ∧ Below w.heap.size w wr
section
variable {w wr w' : World} {g n c : Nat} {A : Option Addr} {cs : List Value} {rs : List Rec} {s : St}
theorem RdL.later (h : RdL w g A n c cs rs s wr) (hb : Below wr.heap.size wr w') : RdL w g A n c cs rs s w' := by
  obtain ⟨h1, h2, h3, h4, h5, h6⟩ := h
  exact ⟨h1.later hb, h2.below hb h2.lt, h3.below hb h3.lt, h4, h5.below h6.size hb, h6.trans (hb.mono h6.size)⟩
theorem RdL.row {R : Nat} {cur : Array Value} (h : RdL w g A n c cs rs s wr) (hx : wr.heap[R]? = some (.cells cur 82 (0, 0))) (h1 : w.heap.size + 1 < R) (h2 : R ≠ g) (ys : List Value) : RdL w g A n c cs rs s (wr.setRow R ys.toArray) := by
  obtain ⟨k1, k2, k3, k4, k5, k6⟩ := h
  exact ⟨k1.row (by omega) _, k2.farRow (by omega) _, k3.farRow (fun e => h2 e.symm) _, k4, k5.but k6.size (but_setRow wr R _) (by omega) hx (by decide), below_setRow k6 (by omega) _⟩
/-- The ledger is another one. -/
theorem RdL.next {X : List Value} {rs' : List Rec} {s' : St} (h : RdL w g A n c cs rs s wr) (hv : LdV wr w.heap.size X rs' s') : RdL w g A n c X rs' s' (wr.setRow g X.toArray) := by
  obtain ⟨k1, k2, k3, k4, k5, k6⟩ := h
  exact ⟨k1.row (by omega) _, k2.farRow (by omega) _, k3.setRow X, k4, hv.but k6.size (but_setRow wr g _) (by omega) k3 (by decide), below_setRow k6 (by omega) _⟩
end
/- The zero ledger is the answer, in the world WW. -/
set_option maxRecDepth 100000 in
set_option maxHeartbeats 16000000 in
theorem readShard_is (b : Bool) (v : Value) (rs : List Rec) (w : World) (er0 er1 : Addr) (h : Shd w w.heap.size v rs) (hE : Errs er0 er1 w) (hf : FitR rs) (hb : b = true ↔ Vld rs) :
    Calls Tryd.prog 57 #[v] w (ReadO rs b w) := by
  obtain ⟨A, c, rfl, h0, hc⟩ := h
  unfold shV
  have HB := hid hb
  have HE := hid hE
  clear hb hE
  have x0 := (Blk1.new_ w 25 (.slice A rs.length c)).alloc (.cells led0.toArray 82)
  have a1 := Arr4.new_ (w.alloc (.cells #[.slice A rs.length c] 25)) 82 led0
  have b1 := ((Below.refl w.heap.size w).alloc (Nat.le_refl _) (.cells #[.slice A rs.length c] 25)).alloc (by simp) (.cells led0.toArray 82)
  rw [World.size_alloc] at a1
  go_enter Tryd.func57, Tryd.ntmps57
  go_upto_region 1 with fail
  obtain ⟨W, hW⟩ : ∃ x, (w.alloc (.cells #[.slice A rs.length c] 25)).alloc (.cells led0.toArray 82) = x := ⟨_, rfl⟩
  change Code.wp _ _ _ _ ((w.alloc (.cells #[.slice A rs.length c] 25)).alloc (.cells led0.toArray 82))
  rw [hW] at x0 a1 b1 ⊢
  clear hW
  obtain ⟨y0, -⟩ := id x0.reads
  by_cases h30 : 30 < rs.length
  · have e0 : decide (30 < (rs.length : Int)) = true := decide_eq_true (by omega)
    have e1 : decide (30 < rs.length) = true := decide_eq_true h30
    have F : Hid (b = false) := by
      show b = false
      rw [← Bool.not_eq_true]
      exact fun e => by have := (HB.out.1 e).2; omega
    have s1 := a1
    have b4 := b1
    clear h30 a1 b1
    have hs : (W).heap[w.heap.size + 1]? = some (.cells led0.toArray 82 (0, 0)) := s1
    go_wp2_with (refine wpList_store_rowTo rfl 82 _ _ rfl rfl (w.heap.size + 1) led0.toArray rfl rfl 82 led0.toArray hs led0_led.info rfl led0_led.2 ?_)
    have h2 := setRow_heap _ _ _ led0.toArray _ _ hs
    have b9 := below_setRow b4 (Nat.le_succ _) led0.toArray
    rw [F.out]
    refine bodyPost_ret (v := .tuple #[.agg led0.toArray, .bool false]) (results_row_slot (p := 2) (s := 3) (by kernel_rfl) _ _ (w.heap.size + 1) 82 _ (0, 0) _ _ rfl rfl h2 Tryd.underlying82 led0_led.info) rfl ⟨led0, rfl, led0_led, (fun e => by cases e), b9⟩
  · have e0 : decide (30 < (rs.length : Int)) = false := decide_eq_false (by omega)
    have e1 : decide (30 < rs.length) = false := decide_eq_false h30
    have H30 : Hid (rs.length ≤ 30) := by show _ ≤ _; omega
    clear h30
    go_wp2_with fail
    refine (newLedger_is W).mono ?_
    rintro e w2 ⟨cs0, rfl, l0, d2⟩
    have b2 := b1.trans (d2.mono b1.size)
    have x2 := x0.later d2
    have a2 := a1.below d2 a1.lt
    have l2 := l0.base (B' := w.heap.size) b1.size
    have hL0 := hid (l2.led rfl)
    clear x0 a1 b1 d2 l0 y0
    have al := (Below.refl w2.heap.size w2).alloc (Nat.le_refl _) (.cells led0.toArray 82)
    have hg := heap_alloc_new w2 (.cells led0.toArray 82)
    have a3 : Arr4 (w2.alloc (.cells led0.toArray 82)) w2.heap.size 82 led0 := hg
    have zg : w.heap.size + 1 < w2.heap.size := a2.lt
    have S0 : RdL w w2.heap.size A rs.length c cs0 [] ⟨[-1, -1, -1, -1], [-1, -1, -1, -1]⟩ ((w2.alloc (.cells led0.toArray 82)).setRow w2.heap.size cs0.toArray) :=
      ⟨(x2.later al).row (by omega) _, (a2.below al a2.lt).farRow (by omega) _, a3.setRow cs0, zg, (l2.below b2.size al).but (by have := al.size; have := b2.size; omega) (but_setRow _ w2.heap.size cs0.toArray) b2.size hg (by decide), below_setRow (b2.trans (al.mono b2.size)) b2.size cs0.toArray⟩
    clear x2 a2 l2 b2 al a3 zg
    go_upto_region 4 with (refine wpList_store_rowTo rfl 82 _ _ rfl rfl w2.heap.size cs0.toArray rfl rfl 82 led0.toArray hg hL0.out.info (led0_led.size.trans hL0.out.size.symm) hL0.out.2 ?_)
    change Code.wp _ _ _ _ ((w2.alloc (.cells led0.toArray 82)).setRow w2.heap.size cs0.toArray)
    obtain ⟨w3, hw3⟩ : ∃ x, (w2.alloc (.cells led0.toArray 82)).setRow w2.heap.size cs0.toArray = x := ⟨_, rfl⟩
    rw [hw3] at S0 ⊢
    clear hw3 hg
    obtain ⟨g, hgg⟩ : ∃ g, w2.heap.size = g := ⟨_, rfl⟩
    rw [hgg] at S0 ⊢
    clear hgg hL0
    obtain ⟨y0, -⟩ := id S0.1.reads
    go_wp2_with fail
    go_loopw [20] (fun i wr => ∃ (k : Nat) (cs : List Value) (s : St), k ≤ rs.length ∧ i = .int .i64 k ∧ RdL w g A rs.length c cs (rs.take k) s wr ∧ Hid (Rcv (rs.take k) s)) (fun i _ => rs.length - (intOf i).toNat)
    case atStart => exact ⟨0, _, _, Nat.zero_le _, rfl, S0, .nil⟩
    case round =>
      obtain ⟨k, cs, s, hk, rfl, S, HR⟩ := hrel
      clear S0 y0
      have hbw := S.2.2.2.2.2
      have hz := hbw.size
      obtain ⟨y0, -⟩ := id S.1.reads
      by_cases hlt : k < rs.length
      · obtain ⟨r, ad, A', c', ho, rfl, ha, g0, g1, g2, g3, g4⟩ := (h0.below hbw (Nat.le_refl _)).rec hlt
        have q0 : (0 : Int) ≤ (k : Int) := by omega
        have q1 : (k : Int) < (rs.length : Int) := by omega
        have hf1 := hf.1
        have hT : Hid (rs.take (k + 1) = rs.take k ++ [r]) := by
          show _ = _
          rw [List.take_succ_eq_append_getElem hlt, ho]
        have hr1 := hf.2 r (by rw [← ho]; exact List.getElem_mem hlt)
        have hf2 : Hid (∀ x ∈ rs.take k, x.us.length ≤ 1048576) := fun x hx => hf.2 x (List.mem_of_mem_take hx)
        obtain ⟨vr, hvr⟩ := bool_ofP (RightR r)
        obtain ⟨b', s', hst⟩ := step_ex (rs.take k) s r
        have HNO : Hid ((vr = false ∨ b' = false) → b = false) := fun e => by
          rw [← Bool.not_eq_true]
          intro eb
          refine rcv_bad hlt HR.out ?_ (HB.out.1 eb)
          rw [ho]
          rintro ⟨ht, x, hx⟩
          rcases e with e | e
          · rw [hvr.2 (step_right ht hx)] at e; cases e
          · rw [(hst.yes hx).1] at e; cases e
        have HYES : Hid (vr = true → b' = true → Rcv (rs.take (k + 1)) s') := fun e1 e2 => by
          rcases hst with ⟨-, h⟩ | ⟨h, -⟩
          · exact rcv_next hlt HR.out (by rw [ho]; exact (hvr.1 e1).1) (by rw [ho]; exact h)
          · rw [h] at e2; cases e2
        have HI := hid HR.out.inv
        have CEN : Hid (∀ x, Below wr.heap.size wr x → Calls Tryd.prog 84 #[.agg #[.int .i64 r.k, .int .i64 r.t, .slice A' r.us.length c']] x (EntO A' c' r vr x)) := fun x hx => entry_is vr A' c' r x ((g4.below hx hz).more (Nat.le_trans hz hx.size)) (by omega) hvr
        have CF : Hid (vr = true → ∀ x, Below wr.heap.size wr x → Calls Tryd.prog 85 #[.agg cs.toArray, entV A' c' r] x (FolO w.heap.size (rs.take k) r s' b' x)) := fun e x hx =>
          followed_is b' s' w.heap.size cs (rs.take k) s A' c' r x er0 er1 (Nat.le_trans hz hx.size) (S.2.2.2.2.1.below hz hx) HI.out (hvr.1 e) (g4.below hx hz) hr1 hf2.out (HE.out.below (hbw.trans (hx.mono hz))) hst
        have x3 := Blk3s.new_ wr 33 (.int .i64 r.k) (.int .i64 r.t) (.slice A' r.us.length c')
        have al := (Below.refl wr.heap.size wr).alloc (Nat.le_refl _) (.cells #[.int .i64 r.k, .int .i64 r.t, .slice A' r.us.length c'] 33)
        have hLc := hid (S.2.2.2.2.1.led HI.out.refs.1)
        clear hst hvr ho HR hf2
        go_upto_region 7 with fail
        obtain ⟨w3, hw3⟩ : ∃ x, wr.alloc (.cells #[.int .i64 r.k, .int .i64 r.t, .slice A' r.us.length c'] 33) = x := ⟨_, rfl⟩
        rw [hw3] at x3 al ⊢
        clear hw3 g0 g1 g2 y0
        obtain ⟨e0, e1, e2, -⟩ := id x3.reads
        go_wp2_with fail
        refine (CEN.out _ al).mono ?_
        rintro e w4 ⟨rfl, d4⟩
        have bb4 := al.trans (d4.mono al.size)
        have S4 := S.later bb4
        clear e0 e1 e2 x3 al d4 CEN S
        cases vr with
        | false =>
          have F := hid (HNO.out (.inl rfl))
          have s1 := S4.2.1
          have b4 := S4.2.2.2.2.2
          clear bb4 S4 HNO HYES CF g3 g4
          have hs : (w4).heap[w.heap.size + 1]? = some (.cells led0.toArray 82 (0, 0)) := s1
          go_wp2_with (refine wpList_store_rowTo rfl 82 _ _ rfl rfl (w.heap.size + 1) led0.toArray rfl rfl 82 led0.toArray hs led0_led.info rfl led0_led.2 ?_)
          have h2 := setRow_heap _ _ _ led0.toArray _ _ hs
          have b9 := below_setRow b4 (Nat.le_succ _) led0.toArray
          rw [F.out]
          refine bodyPost_ret (v := .tuple #[.agg led0.toArray, .bool false]) (results_row_slot (p := 2) (s := 3) (by kernel_rfl) _ _ (w.heap.size + 1) 82 _ (0, 0) _ _ rfl rfl h2 Tryd.underlying82 led0_led.info) rfl ⟨led0, rfl, led0_led, (fun e => by cases e), b9⟩
        | true =>
          rw [if_pos rfl]
          have CF4 := hid (CF.out rfl _ bb4)
          have hld : w4.heap[g]? = some (.cells cs.toArray 82 (0, 0)) := S4.2.2.1
          clear CF bb4 g3 g4
          go_wp2_with (refine wpList_load_row rfl 82 _ rfl g rfl 82 cs.toArray (0, 0) _ hld Tryd.underlying82 rfl hLc.out.info ?_)
          refine CF4.out.mono ?_
          rintro e w5 ⟨X, rfl, hX, hv5, d5⟩
          have HX := hid hX
          have S5 := S4.later d5
          have al := (Below.refl w5.heap.size w5).alloc (Nat.le_refl _) (.cells led0.toArray 82)
          have hg := heap_alloc_new w5 (.cells led0.toArray 82)
          have S6 := (S5.later al).row hg (by have := S5.2.1.lt; omega) (by have := S5.2.2.1.lt; omega) X
          have z5 := S5.2.2.2.2.2.size
          have hv6 : Hid (b' = true → LdV ((w5.alloc (.cells led0.toArray 82)).setRow w5.heap.size X.toArray) w.heap.size X (rs.take k ++ [r]) s') := fun e => ((hv5 e).below z5 al).but (Nat.le_trans z5 al.size) (but_setRow _ w5.heap.size X.toArray) z5 hg (by decide)
          have hX6 : ((w5.alloc (.cells led0.toArray 82)).setRow w5.heap.size X.toArray).heap[w5.heap.size]? = some (.cells X.toArray 82 (0, 0)) := setRow_heap _ _ _ X.toArray _ _ hg
          clear S4 S5 hv5 d5 hld CF4 hX al
          go_upto_region 11 with (refine wpList_store_rowTo rfl 82 _ _ rfl rfl w5.heap.size X.toArray rfl rfl 82 led0.toArray hg HX.out.info (led0_led.size.trans HX.out.size.symm) HX.out.2 ?_)
          change Code.wp _ _ _ _ ((w5.alloc (.cells led0.toArray 82)).setRow w5.heap.size X.toArray)
          obtain ⟨g5, hg5⟩ : ∃ g5, w5.heap.size = g5 := ⟨_, rfl⟩
          obtain ⟨w6, hw6⟩ : ∃ x, (w5.alloc (.cells led0.toArray 82)).setRow w5.heap.size X.toArray = x := ⟨_, rfl⟩
          rw [hw6] at S6 hv6 hX6 ⊢
          rw [hg5] at hX6 ⊢
          clear hw6 hg hg5 z5
          cases b' with
          | false =>
            have F := hid (HNO.out (.inr rfl))
            have s1 := S6.2.1
            have b4 := S6.2.2.2.2.2
            clear S6 HNO HYES hv6 hX6
            have hs : (w6).heap[w.heap.size + 1]? = some (.cells led0.toArray 82 (0, 0)) := s1
            go_wp2_with (refine wpList_store_rowTo rfl 82 _ _ rfl rfl (w.heap.size + 1) led0.toArray rfl rfl 82 led0.toArray hs led0_led.info rfl led0_led.2 ?_)
            have h2 := setRow_heap _ _ _ led0.toArray _ _ hs
            have b9 := below_setRow b4 (Nat.le_succ _) led0.toArray
            rw [F.out]
            refine bodyPost_ret (v := .tuple #[.agg led0.toArray, .bool false]) (results_row_slot (p := 2) (s := 3) (by kernel_rfl) _ _ (w.heap.size + 1) 82 _ (0, 0) _ _ rfl rfl h2 Tryd.underlying82 led0_led.info) rfl ⟨led0, rfl, led0_led, (fun e => by cases e), b9⟩
          | true =>
            have hv7 := hv6.out rfl
            rw [← hT.out] at hv7
            have S7 := S6.next hv7
            have HR7 : Hid (Rcv (rs.take (k + 1)) s') := by
              show Rcv _ _
              first | exact HYES.out rfl rfl | exact HYES.out trivial rfl | exact HYES.out trivial trivial | exact HYES.out rfl | exact HYES.out trivial | exact HYES.out
            have hs : w6.heap[g]? = some (.cells cs.toArray 82 (0, 0)) := S6.2.2.1
            clear S6 HNO HYES hv6 hv7
            go_wp2_with (first
              | (refine wpList_load_row rfl 82 _ rfl g5 rfl 82 X.toArray (0, 0) _ hX6 Tryd.underlying82 rfl HX.out.info ?_)
              | (refine wpList_store_rowTo rfl 82 _ _ rfl rfl g X.toArray rfl rfl 82 cs.toArray hs HX.out.info (hLc.out.size.trans HX.out.size.symm) HX.out.2 ?_))
            go_roundw
            case rel => exact ⟨k + 1, X, s', hlt, by go_num, S7, HR7⟩
            case measure => simp [intOf]; omega
      · have hk' : k = rs.length := by omega
        subst hk'
        rw [List.take_length] at S HR
        have F := hid (HB.out.2 ⟨⟨_, HR.out⟩, H30.out⟩)
        have hLc := hid (S.2.2.2.2.1.led HR.out.inv.refs.1)
        have hld : wr.heap[g]? = some (.cells cs.toArray 82 (0, 0)) := S.2.2.1
        have hs : wr.heap[w.heap.size + 1]? = some (.cells led0.toArray 82 (0, 0)) := S.2.1
        have b9 := below_setRow hbw (Nat.le_succ _) cs.toArray
        have h9 := S.2.2.2.2.1.but hz (but_setRow wr (w.heap.size + 1) cs.toArray) (Nat.le_succ _) S.2.1 (by decide)
        clear S
        go_wp2_with (first
          | (refine wpList_load_row rfl 82 _ rfl g rfl 82 cs.toArray (0, 0) _ hld Tryd.underlying82 rfl hLc.out.info ?_)
          | (refine wpList_store_rowTo rfl 82 _ _ rfl rfl (w.heap.size + 1) cs.toArray rfl rfl 82 led0.toArray hs hLc.out.info (led0_led.size.trans hLc.out.size.symm) hLc.out.2 ?_))
        have h2 := setRow_heap _ _ _ cs.toArray _ _ hs
        rw [F.out]
        refine bodyPost_ret (v := .tuple #[.agg cs.toArray, .bool true]) (results_row_slot (p := 2) (s := 3) (by kernel_rfl) _ _ (w.heap.size + 1) 82 _ (0, 0) _ _ rfl rfl h2 Tryd.underlying82 hLc.out.info) rfl ⟨cs, rfl, hLc.out, fun _ => ⟨s, HR.out, h9⟩, b9⟩
end Go.Proofs.YteeffchnbkkpfabDoor
