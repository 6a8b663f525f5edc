/-
  Walks: the program's channel of votes: sent into a buffer with room for all, received till it is closed; nothing waits.
-/
import Derived.Test.YtjplondblkkpmaaG0C
import Derived.Conc.LoneCalls
import Derived.KernelRfl
import Derived.Laws.Rows
namespace Go.Proofs.Ytjplondblkkpmaa
open Go.RowKit Wo Pu Rf Co Go.Conc

set_option linter.unusedVariables false in
def sndSeq : Code → Code | .seq _ b => b | c => c
set_option linter.unusedVariables false in
def fstSeq : Code → Code | .seq a _ => a | c => c
set_option linter.unusedVariables false in
def unBlock : Code → Code | .block _ c => c | c => c
set_option linter.unusedVariables false in
def unLoop : Code → Code | .loop c => c | c => c
set_option linter.unusedVariables false in
/-- Behind it: a closed channel of the call's own that holds the votes. -/
def Sent (vs : List Int) (w : World) (e : Ending) (w' : World) : Prop := ∃ ch s r, e = .returned (.chan (some ch)) ∧ w.heap.size ≤ ch ∧ w'.heap[ch]? = some (.chan vs.length (ints vs).toArray true s r false) ∧ Below w.heap.size w w'
set_option linter.unusedVariables false in
noncomputable def sendBody : Code := unLoop (unBlock (sndSeq (fstSeq (sndSeq (sndSeq (Try.f82.body.getD .skip))))))
set_option linter.unusedVariables false in
noncomputable def sendAfter : Code := sndSeq (sndSeq (sndSeq (Try.f82.body.getD .skip)))
set_option linter.unusedVariables false in
set_option linter.unusedSimpArgs false in
theorem bytes_chan : ∃ i, Try.prog.info? 3 = some i ∧ i.bytes = 8 := by
  have h : (Try.prog.info? 3).map (·.bytes) = some 8 := by kernel_rfl
  obtain ⟨i, hi, hb⟩ := Option.map_eq_some_iff.1 h
  exact ⟨i, hi, hb⟩
set_option linter.unusedVariables false in
set_option linter.unusedSimpArgs false in
theorem mkVotes (n : Nat) (hn : n ≤ 100) (w : World) : (Instr.makeChan 117 (.int .i64 (n : Int))).run Try.prog w = .ok (.chan (some w.heap.size)) (w.alloc (.chan n #[] false 0 0 false)) := by
  obtain ⟨i, hi, hb⟩ := bytes_chan
  simpa using run_makeChan (P := Try.prog) (w := w) Try.underlying117 hi .i64 n (by omega) (by rw [hb]; omega)
set_option linter.unusedVariables false in
def SEnds (cs : List Frame) (vs : List Int) (ch : Nat) (w : World) (g' : Goroutine) (w' : World) : Prop := ∃ e fr, g' = G fr cs ∧ Sent vs w e w' ∧ fr.fn = 82 ∧ fr.leaving Try.prog w' e
set_option linter.unusedVariables false in
set_option linter.unusedSimpArgs false in
set_option maxRecDepth 100000 in
set_option maxHeartbeats 4000000 in
theorem send_loop (cs : List Frame) (A : Option Addr) (c0 : Nat) (vs : List Int) (ch : Nat) (w : World) (hr : Row w w.heap.size A (ints vs)) (hch : w.heap.size ≤ ch) (hm : vs.length ≤ 100) :
    ∀ (m k : Nat) (wk : World) (s : Nat) (j5 j12 j13 j14 j15 j16 j17 j18 j19 : Value), k + m = vs.length → wk.heap[ch]? = some (.chan vs.length (ints (vs.take k)).toArray false s 0 false) → Below w.heap.size w wk →
      LoneTo Try.prog (SEnds cs vs ch w) (G ((base 82).at ⟨#[.slice A vs.length c0, undef, .chan none, .chan (some ch), undef, j5, .slice A vs.length c0, .int .i64 (vs.length : Int), .chan (some ch), .slice A vs.length c0, .int .i64 (vs.length : Int), .int .i64 (k : Int), j12, j13, j14, j15, j16, j17, j18, j19], []⟩ [.code sendBody, .inLoop sendBody, .inBlock 0, .code sendAfter]) cs) wk := by
  intro m
  induction m with
  | zero =>
    intro k wk s j5 j12 j13 j14 j15 j16 j17 j18 j19 hk hc hb
    have hk' : k = vs.length := by omega
    subst hk'
    rw [List.take_length] at hc
    have e1 : decide ((vs.length : Int) < (vs.length : Int)) = false := decide_eq_false (by omega)
    refine LoneTo.goes (n := 40) ?_
    simp only [sendBody, sendAfter, Try.f82, Option.getD_some, sndSeq, fstSeq, unBlock, unLoop]
    s_c stepG_seq
    s_reg
    s_op
    s_c stepG_region_end
    s_c stepG_seq
    s_cond false
    s_exit
    s_c stepG_seq
    s_reg
    s_op
    s_in
    refine goes_oper_k rfl rfl (by decide) (fun K hK => ?_)
    have hcl := fun ats ty => run_close_open (P := Try.prog) (w := wk) ats ty hc
    go_simp
    refine hK _ _ ⟨trivial, ?_⟩
    clear hK K hcl
    s_c stepG_region_end
    s_c stepG_seq
    s_reg
    s_op
    s_op
    s_c stepG_region_end
    s_c stepG_ret'
    s_stop
    have hl : ch < wk.heap.size := by
      rcases Nat.lt_or_ge ch wk.heap.size with h | h
      · exact h
      · rw [Array.getElem?_eq_none h] at hc; cases hc
    refine LoneTo.done ⟨.returned (.chan (some ch)), _, rfl, ⟨ch, s, 0, rfl, hch, heap_setChan wk ch vs.length (ints vs).toArray true s 0 false hl, below_setChan hb hch vs.length (ints vs).toArray true s 0 false⟩, rfl, rfl, rfl, rfl, _, Try.func82, by simp [results, Try.f82, Frame.at]⟩
  | succ m ih =>
    intro k wk s j5 j12 j13 j14 j15 j16 j17 j18 j19 hk hc hb
    have hlt : k < vs.length := by omega
    obtain ⟨ad, rfl, hbl, hcell⟩ := (hr.below hb (Nat.le_refl _)).int_ hlt
    have q0 : (0 : Int) ≤ (k : Int) := by omega
    have q1 : (k : Int) < (vs.length : Int) := by omega
    have e1 : decide ((k : Int) < (vs.length : Int)) = true := decide_eq_true q1
    have hw1 : IntKind.i64.wrap ((k : Int) + 1) = ((k + 1 : Nat) : Int) := by rw [IntWalk.i64_in _ (by omega)]; omega
    have e2 : ints (vs.take k) ++ [.int .i64 vs[k]] = ints (vs.take (k + 1)) := by
      unfold ints
      rw [List.take_succ_eq_append_getElem hlt, List.map_append]
      rfl
    refine LoneTo.goes (n := 40) ?_
    simp only [sendBody, sendAfter, Try.f82, Option.getD_some, sndSeq, fstSeq, unBlock, unLoop]
    s_c stepG_seq
    s_reg
    s_op
    s_c stepG_region_end
    s_c stepG_seq
    s_cond true
    s_c stepG_skip
    s_c stepG_seq
    s_c stepG_block
    s_c stepG_seq
    s_reg
    s_op
    s_op
    s_op
    s_c stepG_region_end
    s_reg
    s_op
    s_op
    s_stop
    refine LoneTo.step (step_lone_send_room (c := ch) (cap := vs.length) (buf := (ints (vs.take k)).toArray) (s := s) (r := 0) (tm := false) (stepG_comm (cases := #[scase ch (.int .i64 vs[k]) (.tuple #[])]) (blocking := true) (shape := .send) (w' := wk) rfl rfl (by decide) (by simp [execOp, scase, Act.eval])) hc (by simp [ints]; omega)) ?_
    rw [Frame.finish_at]
    walk_nrm
    refine LoneTo.goes (n := 20) ?_
    s_c stepG_region_end
    s_c stepG_inBlock
    s_reg
    s_op
    s_op
    s_c stepG_region_end
    s_c stepG_inLoop
    s_stop
    have hl : ch < wk.heap.size := by
      rcases Nat.lt_or_ge ch wk.heap.size with h | h
      · exact h
      · rw [Array.getElem?_eq_none h] at hc; cases hc
    exact ih (k + 1) _ (s + 1) _ _ _ _ _ _ _ _ _ (by omega) (by exact heap_setChan wk ch vs.length _ false (s + 1) 0 false hl) (below_setChan hb hch _ _ _ _ _ _)
set_option linter.unusedVariables false in
set_option linter.unusedSimpArgs false in
set_option maxRecDepth 100000 in
set_option maxHeartbeats 4000000 in
theorem sendVotes_is (A : Option Addr) (c0 : Nat) (vs : List Int) (w : World) (hr : Row w w.heap.size A (ints vs)) (hm : vs.length ≤ 100) :
    Calls Try.prog 82 #[.slice A vs.length c0] w (Sent vs w) := by
  refine calls_of_loneTo (fun cs => ?_) (by rintro _ ⟨_, _, _, h, _⟩; cases h)
  have e : Frame.enter Try.prog 82 #[.slice A vs.length c0] .normal = (base 82).at ⟨#[.slice A vs.length c0, undef, undef, undef, undef, undef, undef, undef, undef, undef, undef, undef, undef, undef, undef, undef, undef, undef, undef, undef], []⟩ [.code (Try.f82.body.getD .skip)] := by
    simp [Frame.enter, Frame.at, Try.func82, base, Try.f82]
  rw [e]
  have hmc := mkVotes vs.length hm
  refine LoneTo.goes (n := 60) ?_
  simp only [Try.f82, Option.getD_some]
  s_c stepG_seq
  s_reg
  s_op
  s_c stepG_region_end
  s_c stepG_seq
  s_reg
  s_op
  s_op
  s_op
  s_op
  s_c stepG_region_end
  s_c stepG_seq
  s_c stepG_seq
  s_reg
  s_op
  s_op
  s_op
  s_c stepG_region_end
  s_c stepG_block
  s_c stepG_loop
  s_stop
  exact send_loop cs A c0 vs w.heap.size w hr (Nat.le_refl _) hm vs.length 0 _ 0 _ _ _ _ _ _ _ _ _ (by omega) (heap_alloc_new _ _) ((Below.refl _ w).alloc (Nat.le_refl _) _)
set_option linter.unusedVariables false in
/-- Neither for it nor against it nor missing. -/
def wrong (v : Int) : Bool := !(v == 1) && (!(v == -1) && !(v == 0))
set_option linter.unusedVariables false in
/-- Behind it: how many votes are not for it; the channel at ch has been emptied. -/
def Counts (vs : List Int) (ch : Nat) (w : World) (e : Ending) (w' : World) : Prop := e = .returned (.agg #[.int .i64 (vs.count (-1) : Nat), .int .i64 (vs.count 0 : Nat), .int .i64 (vs.countP wrong : Nat)]) ∧ But ch w w'
set_option linter.unusedVariables false in
noncomputable def recvBody : Code := unLoop (unBlock (sndSeq (fstSeq (sndSeq (sndSeq (Try.f81.body.getD .skip))))))
set_option linter.unusedVariables false in
noncomputable def recvAfter : Code := sndSeq (sndSeq (sndSeq (Try.f81.body.getD .skip)))
set_option linter.unusedVariables false in
def CEnds (cs : List Frame) (R : Ending → World → Prop) (g' : Goroutine) (w' : World) : Prop := ∃ e fr, g' = G fr cs ∧ R e w' ∧ fr.fn = 81 ∧ fr.leaving Try.prog w' e
set_option linter.unusedVariables false in
set_option linter.unusedSimpArgs false in
theorem but_chan {w wk : World} {ch : Nat} (h : But ch w wk) (cap : Nat) (buf : Array Value) (cl : Bool) (s r : Nat) (tm : Bool) : But ch w (wk.setChan ch cap buf cl s r tm) :=
  World.grownBy.trans h ⟨rfl, rfl, rfl, by simp [World.setChan], fun k _ hne => by simp only [World.setChan]; rw [Array.getElem?_setIfInBounds_ne (fun e => hne (by rw [e]))]⟩
set_option linter.unusedVariables false in
set_option linter.unusedSimpArgs false in
theorem blk_chan {wk : World} {ch g : Nat} {T : TypeId} {v0 v1 v2 : Value} (h : Blk3s wk g T v0 v1 v2) (hne : g ≠ ch) (cap : Nat) (buf : Array Value) (cl : Bool) (s r : Nat) (tm : Bool) : Blk3s (wk.setChan ch cap buf cl s r tm) g T v0 v1 v2 := by
  unfold Blk3s at h ⊢
  simp only [World.setChan]
  rw [Array.getElem?_setIfInBounds_ne (fun e => hne e.symm)]
  exact h
set_option linter.unusedVariables false in
set_option linter.unusedSimpArgs false in
set_option maxRecDepth 100000 in
set_option maxHeartbeats 16000000 in
theorem count_loop (cs : List Frame) (all : List Int) (ch cap g2 g3 : Nat) (w : World) (hg2 : w.heap.size ≤ g2) (hg23 : g2 ≠ g3) (hg3 : w.heap.size ≤ g3) (hch : ch < w.heap.size) :
    ∀ (vs : List Int) (a m x : Nat) (wk : World) (s r : Nat) (j4 j6 j7 j8 j9 j10 j11 j12 j13 j14 j15 j16 j17 j18 j19 j20 j21 j22 j23 j24 j25 j26 j27 j28 : Value), a + vs.count (-1) = all.count (-1) → m + vs.count 0 = all.count 0 → x + vs.countP wrong = all.countP wrong → a + m + x + vs.length ≤ 1000 → wk.heap[ch]? = some (.chan cap (ints vs).toArray true s r false) →
      Blk3s wk g2 105 (.int .i64 0) (.int .i64 0) (.int .i64 0) → Blk3s wk g3 105 (.int .i64 (a : Nat)) (.int .i64 (m : Nat)) (.int .i64 (x : Nat)) → But ch w wk →
      LoneTo Try.prog (CEnds cs (Counts all ch w)) (G ((base 81).at ⟨#[.chan (some ch), undef, .pointer (some ⟨g2, 0, none⟩), .pointer (some ⟨g3, 0, none⟩), j4, .chan (some ch), j6, j7, j8, j9, j10, j11, j12, j13, j14, j15, j16, j17, j18, j19, j20, j21, j22, j23, j24, j25, j26, j27, j28], []⟩ [.code recvBody, .inLoop recvBody, .inBlock 0, .code recvAfter]) cs) wk := by
  intro vs
  induction vs with
  | nil =>
    intro a m x wk s r j4 j6 j7 j8 j9 j10 j11 j12 j13 j14 j15 j16 j17 j18 j19 j20 j21 j22 j23 j24 j25 j26 j27 j28 ha hm hx hs hc h2 h3 hb
    simp only [List.count_nil, List.countP_nil, Nat.add_zero] at ha hm hx
    subst ha
    subst hm
    subst hx
    refine LoneTo.goes (n := 10) ?_
    simp only [recvBody, recvAfter, Try.f81, Option.getD_some, sndSeq, fstSeq, unBlock, unLoop]
    s_c stepG_seq
    s_reg
    s_stop
    refine LoneTo.step (step_lone_recv_shut true (c := ch) (z := .int .i64 0) (cap := cap) (s := s) (r := r) (tm := false) (stepG_comm (cases := #[rcase ch (.int .i64 0)]) (blocking := true) (shape := .recv true) (w' := wk) rfl rfl (by decide) (by simp [go_sem, rcase])) hc) ?_
    rw [Frame.finish_at]
    simp only [got]
    walk_nrm
    obtain ⟨y0, y1, y2, -⟩ := id h3.reads
    obtain ⟨z0, z1, z2, zf⟩ := id h2.reads
    have zf0 := zf 0
    have zf1 := zf 1
    have zf2 := zf 2
    refine LoneTo.goes (n := 40) ?_
    s_op
    s_c stepG_region_end
    s_c stepG_seq
    s_cond false
    s_exit
    s_c stepG_seq
    s_reg
    s_op
    s_op
    s_c stepG_region_end
    s_c stepG_ret'
    s_stop
    obtain ⟨p0, p1, p2, -⟩ := (((h2.set0 (.int .i64 (all.count (-1) : Nat))).set1 (.int .i64 (all.count 0 : Nat))).set2 (.int .i64 (all.countP wrong : Nat))).reads
    refine LoneTo.done ⟨.returned (.agg #[.int .i64 (all.count (-1) : Nat), .int .i64 (all.count 0 : Nat), .int .i64 (all.countP wrong : Nat)]), _, rfl, ⟨rfl, ((hb.set_new hg2 0 _).set_new hg2 1 _).set_new hg2 2 _⟩, rfl, rfl, rfl, rfl, _, Try.func81, by simp [results, Try.f81, Frame.at, go_sem, p0, p1, p2]⟩
  | cons v vs ih =>
    intro a m x wk s r j4 j6 j7 j8 j9 j10 j11 j12 j13 j14 j15 j16 j17 j18 j19 j20 j21 j22 j23 j24 j25 j26 j27 j28 ha hm hx hs hc h2 h3 hb
    have hl : ch < wk.heap.size := by
      rcases Nat.lt_or_ge ch wk.heap.size with h | h
      · exact h
      · rw [Array.getElem?_eq_none h] at hc; cases hc
    refine LoneTo.goes (n := 10) ?_
    simp only [recvBody, recvAfter, Try.f81, Option.getD_some, sndSeq, fstSeq, unBlock, unLoop]
    s_c stepG_seq
    s_reg
    s_stop
    refine LoneTo.step (step_lone_recv_buf true (c := ch) (z := .int .i64 0) (cap := cap) (s := s) (r := r) (tm := false) (stepG_comm (cases := #[rcase ch (.int .i64 0)]) (blocking := true) (shape := .recv true) (w' := wk) rfl rfl (by decide) (by simp [go_sem, rcase])) hc (by simp [ints])) ?_
    rw [Frame.finish_at]
    have eb : (ints (v :: vs)).toArray.getD 0 undef = .int .i64 v := by simp [ints]
    have ex : (ints (v :: vs)).toArray.extract 1 (ints (v :: vs)).toArray.size = (ints vs).toArray := by simp [ints, List.take_of_length_le]
    rw [eb, ex]
    simp only [got]
    walk_nrm
    have hc2 := heap_setChan wk ch cap (ints vs).toArray true s (r + 1) false hl
    have hb2 := but_chan hb cap (ints vs).toArray true s (r + 1) false
    have b2 := blk_chan (ch := ch) h2 (by omega) cap (ints vs).toArray true s (r + 1) false
    have b3 := blk_chan (ch := ch) h3 (by omega) cap (ints vs).toArray true s (r + 1) false
    obtain ⟨W, hW⟩ : ∃ W, wk.setChan ch cap (ints vs).toArray true s (r + 1) false = W := ⟨_, rfl⟩
    rw [hW] at hc2 hb2 b2 b3 ⊢
    clear hW hc h2 h3 hb eb ex hl
    rw [List.count_cons] at ha hm
    rw [List.countP_cons] at hx
    rw [List.length_cons] at hs
    obtain ⟨y0, y1, y2, yf⟩ := id b3.reads
    have yf0 := yf 0
    have yf1 := yf 1
    have yf2 := yf 2
    by_cases v1 : v = 1
    · subst v1
      refine LoneTo.goes (n := 60) ?_
      s_op
      s_c stepG_region_end
      s_c stepG_seq
      s_cond true
      s_c stepG_skip
      s_c stepG_block
      s_c stepG_seq
      s_reg
      s_op
      s_op
      s_c stepG_region_end
      s_c stepG_seq
      s_reg
      s_op
      s_c stepG_region_end
      s_c stepG_block
      s_c stepG_seq
      s_reg
      s_op
      s_op
      s_c stepG_region_end
      s_cond true
      s_c stepG_skip
      s_c stepG_inBlock
      s_c stepG_inBlock
      s_c stepG_inLoop
      s_stop
      exact ih a m x W s (r + 1) _ _ _ _ _ _ _ _ _ _ _ _ _ _ _ _ _ _ _ _ _ _ _ _ (by simpa using ha) (by simpa using hm) (by simpa [wrong] using hx) (by omega) hc2 b2 b3 hb2
    · have e1 : (v == 1) = false := by rw [beq_eq_false_iff_ne]; exact v1
      by_cases v2 : v = -1
      · subst v2
        have hw : IntKind.i64.wrap ((a : Int) + 1) = ((a + 1 : Nat) : Int) := by rw [IntWalk.i64_in _ (by omega)]; omega
        refine LoneTo.goes (n := 60) ?_
        s_op
        s_c stepG_region_end
        s_c stepG_seq
        s_cond true
        s_c stepG_skip
        s_c stepG_block
        s_c stepG_seq
        s_reg
        s_op
        s_op
        s_c stepG_region_end
        s_c stepG_seq
        s_reg
        s_op
        s_c stepG_region_end
        s_c stepG_block
        s_c stepG_seq
        s_reg
        s_op
        s_op
        s_c stepG_region_end
        s_cond false
        s_c stepG_seq
        s_reg
        s_op
        s_op
        s_c stepG_region_end
        s_cond true
        s_reg
        s_op
        s_op
        s_op
        s_op
        s_op
        s_c stepG_region_end
        s_c stepG_inBlock
        s_c stepG_inBlock
        s_c stepG_inLoop
        s_stop
        exact ih (a + 1) m x _ s (r + 1) _ _ _ _ _ _ _ _ _ _ _ _ _ _ _ _ _ _ _ _ _ _ _ _ (by simp at ha; omega) (by simpa using hm) (by simpa [wrong] using hx) (by omega) ((Below.heap_setCell _ _ _ ch (by show ch ≠ g3; omega)).trans hc2) (b2.far hg23 _) (b3.set0 _) (hb2.set_new hg3 0 _)
      · have e2 : (v == -1) = false := by rw [beq_eq_false_iff_ne]; exact v2
        by_cases v3 : v = 0
        · subst v3
          have hw : IntKind.i64.wrap ((m : Int) + 1) = ((m + 1 : Nat) : Int) := by rw [IntWalk.i64_in _ (by omega)]; omega
          refine LoneTo.goes (n := 70) ?_
          s_op
          s_c stepG_region_end
          s_c stepG_seq
          s_cond true
          s_c stepG_skip
          s_c stepG_block
          s_c stepG_seq
          s_reg
          s_op
          s_op
          s_c stepG_region_end
          s_c stepG_seq
          s_reg
          s_op
          s_c stepG_region_end
          s_c stepG_block
          s_c stepG_seq
          s_reg
          s_op
          s_op
          s_c stepG_region_end
          s_cond false
          s_c stepG_seq
          s_reg
          s_op
          s_op
          s_c stepG_region_end
          s_cond false
          s_c stepG_seq
          s_reg
          s_op
          s_op
          s_c stepG_region_end
          s_cond true
          s_reg
          s_op
          s_op
          s_op
          s_op
          s_op
          s_c stepG_region_end
          s_c stepG_inBlock
          s_c stepG_inBlock
          s_c stepG_inLoop
          s_stop
          exact ih a (m + 1) x _ s (r + 1) _ _ _ _ _ _ _ _ _ _ _ _ _ _ _ _ _ _ _ _ _ _ _ _ (by simpa using ha) (by simp at hm; omega) (by simpa [wrong] using hx) (by omega) ((Below.heap_setCell _ _ _ ch (by show ch ≠ g3; omega)).trans hc2) (b2.far hg23 _) (b3.set1 _) (hb2.set_new hg3 1 _)
        · have e3 : (v == 0) = false := by rw [beq_eq_false_iff_ne]; exact v3
          have hw : IntKind.i64.wrap ((x : Int) + 1) = ((x + 1 : Nat) : Int) := by rw [IntWalk.i64_in _ (by omega)]; omega
          have e9 : wrong v = true := by unfold wrong; rw [e1, e2, e3]; rfl
          refine LoneTo.goes (n := 70) ?_
          s_op
          s_c stepG_region_end
          s_c stepG_seq
          s_cond true
          s_c stepG_skip
          s_c stepG_block
          s_c stepG_seq
          s_reg
          s_op
          s_op
          s_c stepG_region_end
          s_c stepG_seq
          s_reg
          s_op
          s_c stepG_region_end
          s_c stepG_block
          s_c stepG_seq
          s_reg
          s_op
          s_op
          s_c stepG_region_end
          s_cond false
          s_c stepG_seq
          s_reg
          s_op
          s_op
          s_c stepG_region_end
          s_cond false
          s_c stepG_seq
          s_reg
          s_op
          s_op
          s_c stepG_region_end
          s_cond false
          s_reg
          s_op
          s_op
          s_op
          s_op
          s_op
          s_c stepG_region_end
          s_c stepG_inBlock
          s_c stepG_inBlock
          s_c stepG_inLoop
          s_stop
          exact ih a m (x + 1) _ s (r + 1) _ _ _ _ _ _ _ _ _ _ _ _ _ _ _ _ _ _ _ _ _ _ _ _ (by rw [if_neg (by simpa using v2)] at ha; simpa using ha) (by rw [if_neg (by simpa using v3)] at hm; simpa using hm) (by rw [e9] at hx; simp at hx; omega) (by omega) ((Below.heap_setCell _ _ _ ch (by show ch ≠ g3; omega)).trans hc2) (b2.far hg23 _) (b3.set2 _) (hb2.set_new hg3 2 _)
set_option linter.unusedVariables false in
set_option linter.unusedSimpArgs false in
set_option maxRecDepth 100000 in
set_option maxHeartbeats 4000000 in
theorem countVotes_is (vs : List Int) (ch cap s r : Nat) (w : World) (hc : w.heap[ch]? = some (.chan cap (ints vs).toArray true s r false)) (hm : vs.length ≤ 100) :
    Calls Try.prog 81 #[.chan (some ch)] w (Counts vs ch w) := by
  refine calls_of_loneTo (fun cs => ?_) (by rintro _ ⟨h, _⟩; cases h)
  have hl : ch < w.heap.size := by
    rcases Nat.lt_or_ge ch w.heap.size with h | h
    · exact h
    · rw [Array.getElem?_eq_none h] at hc; cases hc
  have e : Frame.enter Try.prog 81 #[.chan (some ch)] .normal = (base 81).at ⟨#[.chan (some ch), undef, undef, undef, undef, undef, undef, undef, undef, undef, undef, undef, undef, undef, undef, undef, undef, undef, undef, undef, undef, undef, undef, undef, undef, undef, undef, undef, undef], []⟩ [.code (Try.f81.body.getD .skip)] := by
    simp [Frame.enter, Frame.at, Try.func81, base, Try.f81]
  rw [e]
  refine LoneTo.goes (n := 40) ?_
  simp only [Try.f81, Option.getD_some]
  s_c stepG_seq
  s_reg
  s_op
  s_c stepG_region_end
  s_c stepG_seq
  s_reg
  s_op
  s_c stepG_region_end
  s_c stepG_seq
  s_c stepG_seq
  s_reg
  s_op
  s_c stepG_region_end
  s_c stepG_block
  s_c stepG_loop
  s_stop
  have al := (Below.refl w.heap.size w).alloc (Nat.le_refl _) (.cells #[.int .i64 0, .int .i64 0, .int .i64 0] 105)
  have al2 := al.alloc al.size (.cells #[.int .i64 0, .int .i64 0, .int .i64 0] 105)
  have x0 := (Blk3s.new_ w 105 (.int .i64 0) (.int .i64 0) (.int .i64 0)).alloc (.cells #[.int .i64 0, .int .i64 0, .int .i64 0] 105)
  have x1 := Blk3s.new_ (w.alloc (.cells #[.int .i64 0, .int .i64 0, .int .i64 0] 105)) 105 (.int .i64 0) (.int .i64 0) (.int .i64 0)
  rw [World.size_alloc] at x1
  exact count_loop cs vs ch cap w.heap.size (w.heap.size + 1) w (Nat.le_refl _) (by omega) (by omega) hl vs 0 0 0 _ s r _ _ _ _ _ _ _ _ _ _ _ _ _ _ _ _ _ _ _ _ _ _ _ _ (by omega) (by omega) (by omega) (by omega) ((al2.block ch hl).trans hc) x0 x1 (.of_below al2)
end Go.Proofs.Ytjplondblkkpmaa
