/-
  Walks: sizes of parts, transactions and coordinators by the laws' own helpers; lists that are turned place by place.
  What a coordinator and parts that read as data give the walks.
  Walks: copies of parts, transactions and coordinators by the laws' own helpers.
  Walks: marks written into parts, transactions and coordinators of the call's own, whose lists lie apart.
  Walks: marks written into transactions and coordinators.
  Walks: marks read again in parts, transactions and coordinators.
  The coordinator with the slices $SA and $SB is stored as the answer, with the word $BB.
-/
import Derived.Test.YtjplondblkkpmaaG0C
import Derived.Test.YtjplondblkkpmaaUpK
import Derived.Test.YtjplondblkkpmaaRefW
import Derived.Test.YtjplondblkkpmaaSameC
import Derived.Deep.Cut
namespace Go.Proofs.Ytjplondblkkpmaa
open Go.RowKit Wo Pu Rf Co
set_option linter.unusedVariables false
set_option linter.unusedSimpArgs false

/-! ### Lists that are turned place by place. -/
def mixL {α : Type} (xs zs : List α) (m : Nat) : List α := xs.take m ++ zs.drop m
section
variable {α : Type} {xs zs : List α} {m : Nat}
theorem mixL_zero (xs zs : List α) : mixL xs zs 0 = zs := by simp [mixL]
theorem mixL_len (h : xs.length = zs.length) (m : Nat) : (mixL xs zs m).length = zs.length := by
  unfold mixL
  rw [List.length_append, List.length_take, List.length_drop]
  omega
theorem mixL_done (h : xs.length = zs.length) : mixL xs zs zs.length = xs := by
  unfold mixL
  rw [← h, List.take_length, h, List.drop_length, List.append_nil]
theorem mixL_at (h : xs.length = zs.length) (hm : m < zs.length) (h2 : m < (mixL xs zs m).length) : (mixL xs zs m)[m] = zs[m] := by
  have e : (mixL xs zs m)[m]? = some zs[m] := by
    unfold mixL
    have e1 : (xs.take m).length = m := by rw [List.length_take]; omega
    rw [List.getElem?_append_right (by omega), e1, Nat.sub_self, List.getElem?_drop, Nat.add_zero, List.getElem?_eq_getElem hm]
  rw [List.getElem?_eq_getElem h2] at e
  injection e
theorem mixL_set (h : xs.length = zs.length) (hm : m < zs.length) : (mixL xs zs m).set m (xs[m]'(by omega)) = mixL xs zs (m + 1) := by
  unfold mixL
  have e1 : (xs.take m).length = m := by rw [List.length_take]; omega
  rw [List.set_append_right _ _ (by omega), e1, Nat.sub_self, List.drop_eq_getElem_cons hm, List.set_cons_zero, List.take_succ_eq_append_getElem (by omega), List.append_assoc]
  rfl
/-- Sums of the first places. -/
def preS (f : α → Nat) (l : List α) (k : Nat) : Nat := ((l.take k).map f).sum
theorem preS_zero (f : α → Nat) (l : List α) : preS f l 0 = 0 := by simp [preS]
theorem preS_succ {f : α → Nat} {l : List α} {k : Nat} (hk : k < l.length) : preS f l (k + 1) = preS f l k + f l[k] := by
  unfold preS
  rw [List.take_succ_eq_append_getElem hk, List.map_append, List.sum_append]
  simp
theorem preS_mono {f : α → Nat} {l : List α} {i : Nat} : ∀ k, i ≤ k → k ≤ l.length → preS f l i ≤ preS f l k := by
  intro k
  induction k with
  | zero => intro h _; rw [show i = 0 by omega]; exact Nat.le_refl _
  | succ k ih =>
    intro h1 h2
    rw [preS_succ (by omega)]
    rcases Nat.lt_or_ge k i with e | e
    · rw [show i = k + 1 by omega, preS_succ (by omega)]; exact Nat.le_refl _
    · have := ih e (by omega); omega
theorem preS_ge {f : α → Nat} {l : List α} {i : Nat} (hi : i < l.length) : f l[i] ≤ preS f l l.length := by
  have h1 := preS_mono (f := f) (l := l) (i := i + 1) l.length (by omega) (Nat.le_refl _)
  rw [preS_succ hi] at h1
  omega
theorem preS_le {f g : α → Nat} (h : ∀ a, f a ≤ g a) (l : List α) (k : Nat) : preS f l k ≤ preS g l k := by
  unfold preS
  generalize l.take k = l
  induction l with
  | nil => simp
  | cons a l ih => simp only [List.map_cons, List.sum_cons]; have := h a; omega
end
def uN (p : Part) : Nat := p.us.length
def allP (ps : List Part) : Nat := ps.length + preS uN ps ps.length
def tN (t : Tx) : Nat := allP t.ps + t.vs.length
def allT (ts : List Tx) : Nat := ts.length + preS tN ts ts.length
def allC (q : Crd) : Nat := allT q.ts + q.os.length
theorem allP_us {ps : List Part} {p : Part} (hp : p ∈ ps) : p.us.length ≤ allP ps := by
  obtain ⟨i, hi, rfl⟩ := List.mem_iff_getElem.1 hp
  have := preS_ge (f := uN) hi
  unfold allP
  unfold uN at this ⊢
  omega
theorem allT_tN {ts : List Tx} {t : Tx} (ht : t ∈ ts) : tN t ≤ allT ts := by
  obtain ⟨i, hi, rfl⟩ := List.mem_iff_getElem.1 ht
  have := preS_ge (f := tN) hi
  unfold allT
  omega
theorem allC_fit {q : Crd} {m : Nat} (h : allC q ≤ m) (hm : m ≤ 1048576) : FitC q := by
  have h1 : q.ts.length ≤ allT q.ts := by unfold allT; omega
  unfold allC at h
  refine ⟨by omega, by omega, fun t ht => ?_, fun t ht p hp => ?_⟩
  · have h2 := allT_tN ht
    have h3 : t.ps.length ≤ allP t.ps := by unfold allP; omega
    unfold tN at h2
    omega
  · have h2 := allT_tN ht
    have h3 := allP_us hp
    unfold tN at h2
    omega
/-- Lists no longer than slices can be. -/
def WideP (ps : List Part) : Prop := ps.length ≤ maxLen ∧ ∀ p ∈ ps, p.us.length ≤ maxLen
def WideT (ts : List Tx) : Prop := ts.length ≤ maxLen ∧ ∀ t ∈ ts, WideP t.ps ∧ t.vs.length ≤ maxLen
def WideC (q : Crd) : Prop := WideT q.ts ∧ q.os.length ≤ maxLen
/-- The sizes: all fit, or not. -/
def SizedC (tot : Nat) (left : Int) (w : World) (e : Ending) (w' : World) : Prop := ∃ r : Int, e = .returned (.int .i64 r) ∧ (r = -1 ∨ (0 ≤ r ∧ r = left - tot)) ∧ Below w.heap.size w w'
theorem szInts_no (A : Option Addr) (n c : Nat) (left : Int) (w : World) (hn : n ≤ maxLen) (h0 : 0 ≤ left) (h1 : left ≤ 1048576) (h : left < n) :
    Calls Try.prog 51 #[.slice A n c, .int .i64 left] w (Same (.int .i64 (-1)) w) := by
  unfold maxLen at hn
  go_enter Try.func51, Try.ntmps51
  go_wp2
  go_ret
  exact ⟨rfl, rfl⟩
theorem szInts_yes (A : Option Addr) (n c : Nat) (left : Int) (w : World) (hn : n ≤ maxLen) (h0 : 0 ≤ left) (h1 : left ≤ 1048576) (h : n ≤ left) :
    Calls Try.prog 51 #[.slice A n c, .int .i64 left] w (Same (.int .i64 (left - n)) w) := by
  unfold maxLen at hn
  go_enter Try.func51, Try.ntmps51
  go_wp2
  go_ret
  exact ⟨rfl, rfl⟩
theorem szInts_any (A : Option Addr) (n c : Nat) (left : Int) (w : World) (hn : n ≤ maxLen) (h0 : 0 ≤ left) (h1 : left ≤ 1048576) :
    Calls Try.prog 51 #[.slice A n c, .int .i64 left] w (SizedC n left w) := by
  by_cases h : left < n
  · exact (szInts_no A n c left w hn h0 h1 h).mono fun _ _ ⟨e, hw⟩ => ⟨-1, e, .inl rfl, by subst hw; exact Below.refl _ _⟩
  · exact (szInts_yes A n c left w hn h0 h1 (by omega)).mono fun _ _ ⟨e, hw⟩ => ⟨_, e, .inr ⟨by omega, rfl⟩, by subst hw; exact Below.refl _ _⟩
theorem szUps_any (A : Option Addr) (n c : Nat) (left : Int) (w : World) (hn : n ≤ maxLen) (h0 : 0 ≤ left) (h1 : left ≤ 1048576) :
    Calls Try.prog 97 #[.slice A n c, .int .i64 left] w (SizedC n left w) := by
  by_cases h : left < n
  · exact (szUpdateS_no A n c left w hn h0 h1 h).mono fun _ _ ⟨e, hw⟩ => ⟨-1, e, .inl rfl, by subst hw; exact Below.refl _ _⟩
  · exact (szUpdateS_yes A n c left w hn h0 h1 (by omega)).mono fun _ _ ⟨e, hw⟩ => ⟨_, e, .inr ⟨by omega, rfl⟩, by subst hw; exact Below.refl _ _⟩
set_option maxHeartbeats 2000000 in
theorem szPart_any (A : Option Addr) (c : Nat) (p : Part) (left : Int) (w : World) (hn : p.us.length ≤ maxLen) (h0 : 0 ≤ left) (h1 : left ≤ 1048576) :
    Calls Try.prog 93 #[.agg #[.int .i64 p.s, .slice A p.us.length c], .int .i64 left] w (SizedC p.us.length left w) := by
  have b0 := (Below.refl w.heap.size w).alloc (Nat.le_refl _) (.cells #[.int .i64 p.s, .slice A p.us.length c] 121)
  have CY := hid fun x => szUps_any A p.us.length c left x hn h0 h1
  go_enter Try.func93, Try.ntmps93
  go_wp2_with fail
  refine (CY.out _).mono ?_
  rintro e w1 ⟨r, rfl, hr, d⟩
  have b1 := b0.trans (d.mono b0.size)
  rcases hr with rfl | ⟨r0, hr⟩
  · go_wp2
    go_ret
    exact ⟨-1, rfl, .inl rfl, b1⟩
  · have HR := hid hr
    clear hr
    go_wp2
    go_ret
    exact ⟨r, rfl, .inr ⟨r0, HR.out⟩, b1⟩
set_option maxHeartbeats 2000000 in
theorem szPartS_any (A : Option Addr) (c : Nat) (ps : List Part) (left : Int) (w : World) (h : Parts w w.heap.size A ps) (hf : WideP ps) (h0 : 0 ≤ left) (h1 : left ≤ 1048576) :
    Calls Try.prog 87 #[.slice A ps.length c, .int .i64 left] w (SizedC (allP ps) left w) := by
  obtain ⟨hn, hf⟩ := hf
  unfold maxLen at hn
  by_cases h2 : left < ps.length
  · go_enter Try.func87, Try.ntmps87
    go_wp2
    go_ret
    exact ⟨-1, rfl, .inl rfl, Below.refl _ _⟩
  · go_enter Try.func87, Try.ntmps87
    go_wp2_with fail
    go_loopw [1, 5] (fun l i wr => ∃ k : Nat, k ≤ ps.length ∧ i = .int .i64 k ∧ l = .int .i64 (left - ps.length - preS uN ps k) ∧ 0 ≤ left - ps.length - preS uN ps k ∧ Below w.heap.size w wr) (fun _ i _ => ps.length - (intOf i).toNat)
    case atStart => exact ⟨0, Nat.zero_le _, rfl, by simp [preS_zero], by simp [preS_zero]; omega, Below.refl _ _⟩
    case round =>
      obtain ⟨k, hk, rfl, rfl, hp, hb⟩ := hrel
      by_cases hlt : k < ps.length
      · have hsucc := hid (preS_succ (f := uN) hlt)
        obtain ⟨p, ad, A', c', hre, rfl, ha, g0, g1, -, -⟩ := (h.on hb).part hlt
        have hfk := hf p (by rw [← hre]; exact List.getElem_mem hlt)
        have k0 : 0 ≤ (k : Int) := by omega
        have k1 : (k : Int) < (ps.length : Int) := by omega
        have HSU : Hid (preS uN ps (k + 1) = preS uN ps k + p.us.length) := by rw [← hre]; exact hsucc.out
        clear hre hsucc
        go_wp2_with fail
        refine (szPart_any A' c' p _ wr hfk hp (by omega)).mono ?_
        rintro e w1 ⟨q, rfl, hr, hb1⟩
        rcases hr with rfl | ⟨r0, hr⟩
        · go_wp2
          go_ret
          exact ⟨-1, rfl, .inl rfl, hb.trans (hb1.mono hb.size)⟩
        · have HR := hid hr
          clear hr
          go_wp2
          go_roundw
          case rel => exact ⟨k + 1, by omega, by go_num, by have := HR.out; have := HSU.out; congr 1; omega, by have := HR.out; have := HSU.out; omega, hb.trans (hb1.mono hb.size)⟩
          case measure => simp [intOf]; omega
      · have hk' : k = ps.length := by omega
        subst hk'
        go_wp2
        go_ret
        exact ⟨_, rfl, .inr ⟨hp, by unfold allP; omega⟩, hb⟩
set_option maxHeartbeats 2000000 in
theorem szTxn_any (A : Option Addr) (c : Nat) (A2 : Option Addr) (c2 : Nat) (t : Tx) (left : Int) (w : World) (h : Parts w w.heap.size A t.ps) (hf : WideP t.ps) (hv : t.vs.length ≤ maxLen) (h0 : 0 ≤ left) (h1 : left ≤ 1048576) :
    Calls Try.prog 72 #[.agg #[.slice A t.ps.length c, .slice A2 t.vs.length c2, .int .i64 t.d], .int .i64 left] w (SizedC (tN t) left w) := by
  have b0 := (Below.refl w.heap.size w).alloc (Nat.le_refl _) (.cells #[.slice A t.ps.length c, .slice A2 t.vs.length c2, .int .i64 t.d] 97)
  have x0 := Blk3s.new_ w 97 (.slice A t.ps.length c) (.slice A2 t.vs.length c2) (.int .i64 t.d)
  have CP := hid (szPartS_any A c t.ps left _ (h.on b0) hf h0 h1)
  go_enter Try.func72, Try.ntmps72
  go_wp2_with fail
  refine CP.out.mono ?_
  rintro e w1 ⟨r, rfl, hr, d⟩
  have b1 := b0.trans (d.mono b0.size)
  have x1 := x0.later d
  obtain ⟨y0, y1, y2, -⟩ := id x1.reads
  clear CP x0 d
  rcases hr with rfl | ⟨r0, hr⟩
  · go_wp2
    go_ret
    exact ⟨-1, rfl, .inl rfl, b1⟩
  · have HR := hid hr
    have r1 : r ≤ 1048576 := by omega
    have CI := hid (szInts_any A2 t.vs.length c2 r w1 hv r0 r1)
    clear hr
    go_wp2_with fail
    refine CI.out.mono ?_
    rintro e w2 ⟨s, rfl, hs, d⟩
    have b2 := b1.trans (d.mono b1.size)
    rcases hs with rfl | ⟨s0, hs⟩
    · go_wp2
      go_ret
      exact ⟨-1, rfl, .inl rfl, b2⟩
    · have HS := hid hs
      clear hs
      go_wp2
      go_ret
      exact ⟨s, rfl, .inr ⟨s0, by have := HR.out; have := HS.out; unfold tN; omega⟩, b2⟩
set_option maxHeartbeats 2000000 in
theorem szTxnS_any (A : Option Addr) (c : Nat) (ts : List Tx) (left : Int) (w : World) (h : Txs w w.heap.size A ts) (hf : WideT ts) (h0 : 0 ≤ left) (h1 : left ≤ 1048576) :
    Calls Try.prog 50 #[.slice A ts.length c, .int .i64 left] w (SizedC (allT ts) left w) := by
  obtain ⟨hn, hf⟩ := hf
  unfold maxLen at hn
  by_cases h2 : left < ts.length
  · go_enter Try.func50, Try.ntmps50
    go_wp2
    go_ret
    exact ⟨-1, rfl, .inl rfl, Below.refl _ _⟩
  · go_enter Try.func50, Try.ntmps50
    go_wp2_with fail
    go_loopw [1, 5] (fun l i wr => ∃ k : Nat, k ≤ ts.length ∧ i = .int .i64 k ∧ l = .int .i64 (left - ts.length - preS tN ts k) ∧ 0 ≤ left - ts.length - preS tN ts k ∧ Below w.heap.size w wr) (fun _ i _ => ts.length - (intOf i).toNat)
    case atStart => exact ⟨0, Nat.zero_le _, rfl, by simp [preS_zero], by simp [preS_zero]; omega, Below.refl _ _⟩
    case round =>
      obtain ⟨k, hk, rfl, rfl, hp, hb⟩ := hrel
      by_cases hlt : k < ts.length
      · have hsucc := hid (preS_succ (f := tN) hlt)
        obtain ⟨t, ad, A1, c1, B1, e1, hre, rfl, ha, g0, g1, g2, -, -, g5, g6⟩ := (h.on hb).tx hlt
        have hfk := hf t (by rw [← hre]; exact List.getElem_mem hlt)
        have k0 : 0 ≤ (k : Int) := by omega
        have k1 : (k : Int) < (ts.length : Int) := by omega
        have HSU : Hid (preS tN ts (k + 1) = preS tN ts k + tN t) := by rw [← hre]; exact hsucc.out
        clear hre hsucc
        go_wp2_with fail
        refine (szTxn_any A1 c1 B1 e1 t _ wr g5 hfk.1 hfk.2 hp (by omega)).mono ?_
        rintro e w1 ⟨q, rfl, hr, hb1⟩
        rcases hr with rfl | ⟨r0, hr⟩
        · go_wp2
          go_ret
          exact ⟨-1, rfl, .inl rfl, hb.trans (hb1.mono hb.size)⟩
        · have HR := hid hr
          clear hr
          go_wp2
          go_roundw
          case rel => exact ⟨k + 1, by omega, by go_num, by have := HR.out; have := HSU.out; congr 1; omega, by have := HR.out; have := HSU.out; omega, hb.trans (hb1.mono hb.size)⟩
          case measure => simp [intOf]; omega
      · have hk' : k = ts.length := by omega
        subst hk'
        go_wp2
        go_ret
        exact ⟨_, rfl, .inr ⟨hp, by unfold allT; omega⟩, hb⟩
set_option maxHeartbeats 2000000 in
theorem szCoordinator_any (v : Value) (q : Crd) (left : Int) (w : World) (h : Crdd w w.heap.size v q) (hf : WideC q) (h0 : 0 ≤ left) (h1 : left ≤ 1048576) :
    Calls Try.prog 25 #[v, .int .i64 left] w (SizedC (allC q) left w) := by
  obtain ⟨A, c, A2, c2, rfl, hT, hc, hO, hc2⟩ := h
  unfold crV
  have b0 := (Below.refl w.heap.size w).alloc (Nat.le_refl _) (.cells #[.slice A q.ts.length c, .slice A2 q.os.length c2] 48)
  have x0 := Blk2s.new_ w 48 (.slice A q.ts.length c) (.slice A2 q.os.length c2)
  have CP := hid (szTxnS_any A c q.ts left _ (hT.on b0) hf.1 h0 h1)
  go_enter Try.func25, Try.ntmps25
  go_wp2_with fail
  refine CP.out.mono ?_
  rintro e w1 ⟨r, rfl, hr, d⟩
  have b1 := b0.trans (d.mono b0.size)
  have x1 := x0.later d
  obtain ⟨y0, y1, -⟩ := id x1.reads
  clear CP x0 d
  rcases hr with rfl | ⟨r0, hr⟩
  · go_wp2
    go_ret
    exact ⟨-1, rfl, .inl rfl, b1⟩
  · have HR := hid hr
    have r1 : r ≤ 1048576 := by omega
    have CI := hid (szInts_any A2 q.os.length c2 r w1 hf.2 r0 r1)
    clear hr
    go_wp2_with fail
    refine CI.out.mono ?_
    rintro e w2 ⟨s, rfl, hs, d⟩
    have b2 := b1.trans (d.mono b1.size)
    rcases hs with rfl | ⟨s0, hs⟩
    · go_wp2
      go_ret
      exact ⟨-1, rfl, .inl rfl, b2⟩
    · have HS := hid hs
      clear hs
      go_wp2
      go_ret
      exact ⟨s, rfl, .inr ⟨s0, by have := HR.out; have := HS.out; unfold allC; omega⟩, b2⟩
end Go.Proofs.Ytjplondblkkpmaa
namespace Go.Proofs.Ytjplondblkkpmaa
set_option maxRecDepth 100000
set_option linter.unusedVariables false
set_option linter.unusedSimpArgs false
open Go.RowKit Go.ChangeShapes Go.WideShapes Go.Joins Wo Pu Rf Co

section
variable {H : Type} {enc : TypeId × Value → H} {w : World} {held : Bool}

theorem read_ups {fuel : Nat} {cs : List Value} {x : DataW H × List MemPlace} (hf : DataW.trod enc Try.prog w 0 (fun _ => true) held fuel 119 cs = some x) :
    ∃ (A : Option Addr) (c : Nat) (us : List Up), cs = [.slice A us.length c] ∧ Row w w.heap.size A (upsV us) ∧ us.length ≤ maxLen ∧ us.length ≤ c := by
  rcases Deep.open_slice Try.underlying119 hf with ⟨hcs, _⟩ | ⟨a, len, cap, m, n, D, Pl, hcs, _, hl, hm, hmm, _, hel⟩
  · exact ⟨none, 0, [], hcs, .inl rfl, Nat.zero_le _, Nat.zero_le _⟩
  · simp only [if_true] at hmm
    have one : ∀ i, i < len → ∃ o : Up, ∀ d u, (upV o)[d]? = some u → w.cell? (a.add (i * 3 + d)) = some u := fun i hi => by
      obtain ⟨cs', hc, ht⟩ := hel i (by omega)
      have hC : Try.prog.cellsOf 128 = 3 := by kernel_rfl
      rw [hC] at hc
      obtain ⟨_, hlen, hat⟩ := World.cells?_some hc
      match cs', hlen with
      | [c0, c1, c2], _ =>
        obtain ⟨y0, y1, y2, n', _, _, h0, h1, h2⟩ := Deep.trod_struct3 Try.underlying128 ht
        have k0 : Try.prog.cellsOf 3 = 1 := by kernel_rfl
        obtain ⟨x0, e0, _, _⟩ := DataW.trod_int Try.underlying3 (show DataW.trod enc Try.prog w 0 (fun _ => true) held n' 3 [c0] = some y0 by simpa [k0] using h0)
        obtain ⟨x1, e1, _, _⟩ := DataW.trod_int Try.underlying3 (show DataW.trod enc Try.prog w 0 (fun _ => true) held n' 3 [c1] = some y1 by simpa [k0] using h1)
        obtain ⟨x2, e2, _, _⟩ := DataW.trod_int Try.underlying3 (show DataW.trod enc Try.prog w 0 (fun _ => true) held n' 3 [c2] = some y2 by simpa [k0] using h2)
        have q0 := hat 0 (by omega)
        have q1 := hat 1 (by omega)
        have q2 := hat 2 (by omega)
        have f0 : c0 = .int .i64 x0 := by simpa using e0
        have f1 : c1 = .int .i64 x1 := by simpa using e1
        have f2 : c2 = .int .i64 x2 := by simpa using e2
        subst f0 f1 f2
        refine ⟨⟨x0, x1, x2⟩, fun d u hu => ?_⟩
        rw [← add_add]
        match d with
        | 0 => simp [upV] at hu; subst hu; exact q0
        | 1 => simp [upV] at hu; subst hu; exact q1
        | 2 => simp [upV] at hu; subst hu; exact q2
        | d + 3 => simp [upV] at hu
    have all : ∃ us : List Up, us.length = len ∧ ∀ i (hi : i < us.length), ∀ d u, (upV us[i])[d]? = some u → w.cell? (a.add (i * 3 + d)) = some u := by
      refine ⟨(List.range len).map fun i => if h : i < len then (one i h).choose else ⟨0, 0, 0⟩, by simp, fun i hi => ?_⟩
      have hi' : i < len := by simpa using hi
      simp only [List.getElem_map, List.getElem_range, hi', dite_true]
      exact (one i hi').choose_spec
    obtain ⟨us, ho, hos⟩ := all
    refine ⟨some a, cap, us, by rw [ho]; exact hcs, ?_, by omega, by omega⟩
    rcases Nat.eq_zero_or_pos us.length with h0 | h0
    · rw [List.eq_nil_of_length_eq_zero h0]; exact .inl rfl
    · refine .inr ⟨a, rfl, ?_, fun j u hu => ?_⟩
      · have q := hos 0 h0 0 _ rfl
        have := World.block_lt_of_cell? _ _ q
        rwa [add_block] at this
      · have hj : j < us.length * 3 := by
          rcases Nat.lt_or_ge j (us.length * 3) with h1 | h1
          · exact h1
          · rw [List.getElem?_eq_none (by rw [upsV_length]; exact h1)] at hu; cases hu
        have hd : j / 3 * 3 + j % 3 = j := by omega
        rw [← hd, upsV_get (by omega) (by omega)] at hu
        have := hos (j / 3) (by omega) _ u hu
        rwa [hd] at this
theorem read_intsC {fuel : Nat} {cs : List Value} {x : DataW H × List MemPlace} (h : DataW.trod enc Try.prog w 0 (fun _ => true) held fuel 24 cs = some x) :
    ∃ (A : Option Addr) (c : Nat) (zs : List Int), cs = [.slice A zs.length c] ∧ Row w w.heap.size A (ints zs) ∧ zs.length ≤ maxLen ∧ zs.length ≤ c := by
  rcases open_ints Try.underlying24 Try.underlying3 (by kernel_rfl) h with ⟨hcs, _⟩ | ⟨a, len, cap, zs, hcs, _, hl, hm, hz, _, hcell, hwf⟩
  · exact ⟨none, 0, [], hcs, .inl rfl, Nat.zero_le _, Nat.zero_le _⟩
  · simp only [if_true] at hz
    have hlen : (zs.take len).length = len := by rw [List.length_take]; omega
    refine ⟨some a, cap, zs.take len, by rw [hlen]; exact hcs, ?_, by omega, by omega⟩
    have hr := row_of_cells (n := len) (f := fun i => .int .i64 (zs.getD i 0)) (fun i hi => hcell i (by omega))
    have e : ints (zs.take len) = (List.range len).map (fun i => Value.int .i64 (zs.getD i 0)) := by
      apply List.ext_getElem
      · rw [ints_length, hlen]; simp
      · intro i h1 h2
        simp at h2
        rw [ints_get _ _ (by rw [hlen]; exact h2)]
        simp [List.getD, List.getElem?_eq_getElem (show i < zs.length by omega)]
    rw [e]
    exact hr
theorem read_parts {fuel : Nat} {cs : List Value} {x : DataW H × List MemPlace} (hf : DataW.trod enc Try.prog w 0 (fun _ => true) held fuel 95 cs = some x) :
    ∃ (A : Option Addr) (c : Nat) (ps : List Part), cs = [.slice A ps.length c] ∧ Parts w w.heap.size A ps ∧ WideP ps ∧ ps.length ≤ c := by
  rcases Deep.open_slice Try.underlying95 hf with ⟨hcs, _⟩ | ⟨a, len, cap, m, n, D, Pl, hcs, _, hl, hm, hmm, _, hel⟩
  · exact ⟨none, 0, [], hcs, .inl rfl, ⟨Nat.zero_le _, fun o ho => by cases ho⟩, Nat.zero_le _⟩
  · simp only [if_true] at hmm
    have one : ∀ i, i < len → ∃ p : Part, PartAt w w.heap.size (a.add (i * 2)) p ∧ p.us.length ≤ maxLen := fun i hi => by
      obtain ⟨cs', hc, ht⟩ := hel i (by omega)
      have hC : Try.prog.cellsOf 121 = 2 := by kernel_rfl
      rw [hC] at hc
      obtain ⟨_, hlen, hat⟩ := World.cells?_some hc
      match cs', hlen with
      | [c0, c1], _ =>
        obtain ⟨y0, y1, n', _, _, h0, h1⟩ := trod_struct2 Try.underlying121 ht
        have k0 : Try.prog.cellsOf 3 = 1 := by kernel_rfl
        have k1 : Try.prog.cellsOf 119 = 1 := by kernel_rfl
        obtain ⟨s, e0, _, _⟩ := DataW.trod_int Try.underlying3 (show DataW.trod enc Try.prog w 0 (fun _ => true) held n' 3 [c0] = some y0 by simpa [k0] using h0)
        obtain ⟨A, c, us, e1, hr, hz, hz3⟩ := read_ups (show DataW.trod enc Try.prog w 0 (fun _ => true) held n' 119 [c1] = some y1 by simpa [k1] using h1)
        have q0 := hat 0 (by omega)
        have q1 := hat 1 (by omega)
        have f0 : c0 = .int .i64 s := by simpa using e0
        have f1 : c1 = .slice A us.length c := by simpa using e1
        subst f0 f1
        exact ⟨⟨s, us⟩, ⟨A, c, by rw [add_zero] at q0; exact q0, q1, hz3, hr⟩, hz⟩
    have all : ∃ ps : List Part, ps.length = len ∧ ∀ i (hi : i < ps.length), PartAt w w.heap.size (a.add (i * 2)) ps[i] ∧ ps[i].us.length ≤ maxLen := by
      refine ⟨(List.range len).map fun i => if h : i < len then (one i h).choose else ⟨0, []⟩, by simp, fun i hi => ?_⟩
      have hi' : i < len := by simpa using hi
      simp only [List.getElem_map, List.getElem_range, hi', dite_true]
      exact (one i hi').choose_spec
    obtain ⟨ps, ho, hps⟩ := all
    refine ⟨some a, cap, ps, by rw [ho]; exact hcs, ?_, ⟨by omega, fun o hmem => ?_⟩, by omega⟩
    · rcases Nat.eq_zero_or_pos ps.length with h0 | h0
      · exact .inl (List.eq_nil_of_length_eq_zero h0)
      · refine .inr ⟨a, rfl, ?_, fun i hi => (hps i hi).1⟩
        obtain ⟨_, _, q, _⟩ := (hps 0 h0).1
        have := World.block_lt_of_cell? _ _ q
        rwa [add_block] at this
    · obtain ⟨i, hi, rfl⟩ := List.mem_iff_getElem.1 hmem
      exact (hps i hi).2
theorem read_txs {fuel : Nat} {cs : List Value} {x : DataW H × List MemPlace} (hf : DataW.trod enc Try.prog w 0 (fun _ => true) held fuel 46 cs = some x) :
    ∃ (A : Option Addr) (c : Nat) (ts : List Tx), cs = [.slice A ts.length c] ∧ Txs w w.heap.size A ts ∧ WideT ts ∧ ts.length ≤ c := by
  rcases Deep.open_slice Try.underlying46 hf with ⟨hcs, _⟩ | ⟨a, len, cap, m, n, D, Pl, hcs, _, hl, hm, hmm, _, hel⟩
  · exact ⟨none, 0, [], hcs, .inl rfl, ⟨Nat.zero_le _, fun o ho => by cases ho⟩, Nat.zero_le _⟩
  · simp only [if_true] at hmm
    have one : ∀ i, i < len → ∃ t : Tx, TxAt w w.heap.size (a.add (i * 3)) t ∧ WideP t.ps ∧ t.vs.length ≤ maxLen := fun i hi => by
      obtain ⟨cs', hc, ht⟩ := hel i (by omega)
      have hC : Try.prog.cellsOf 97 = 3 := by kernel_rfl
      rw [hC] at hc
      obtain ⟨_, hlen, hat⟩ := World.cells?_some hc
      match cs', hlen with
      | [c0, c1, c2], _ =>
        obtain ⟨y0, y1, y2, n', _, _, h0, h1, h2⟩ := Deep.trod_struct3 Try.underlying97 ht
        have k0 : Try.prog.cellsOf 95 = 1 := by kernel_rfl
        have k1 : Try.prog.cellsOf 24 = 1 := by kernel_rfl
        have k2 : Try.prog.cellsOf 3 = 1 := by kernel_rfl
        obtain ⟨A, c, ps, e0, hr, hz, hz3⟩ := read_parts (show DataW.trod enc Try.prog w 0 (fun _ => true) held n' 95 [c0] = some y0 by simpa [k0] using h0)
        obtain ⟨A2, c2', vs, e1, hr2, hz2, hz4⟩ := read_intsC (show DataW.trod enc Try.prog w 0 (fun _ => true) held n' 24 [c1] = some y1 by simpa [k1] using h1)
        obtain ⟨d, e2, _, _⟩ := DataW.trod_int Try.underlying3 (show DataW.trod enc Try.prog w 0 (fun _ => true) held n' 3 [c2] = some y2 by simpa [k2] using h2)
        have q0 := hat 0 (by omega)
        have q1 := hat 1 (by omega)
        have q2 := hat 2 (by omega)
        have f0 : c0 = .slice A ps.length c := by simpa using e0
        have f1 : c1 = .slice A2 vs.length c2' := by simpa using e1
        have f2 : c2 = .int .i64 d := by simpa using e2
        subst f0 f1 f2
        exact ⟨⟨ps, vs, d⟩, ⟨A, c, A2, c2', by rw [add_zero] at q0; exact q0, q1, q2, hz3, hz4, hr, hr2⟩, hz, hz2⟩
    have all : ∃ ts : List Tx, ts.length = len ∧ ∀ i (hi : i < ts.length), TxAt w w.heap.size (a.add (i * 3)) ts[i] ∧ WideP ts[i].ps ∧ ts[i].vs.length ≤ maxLen := by
      refine ⟨(List.range len).map fun i => if h : i < len then (one i h).choose else ⟨[], [], 0⟩, by simp, fun i hi => ?_⟩
      have hi' : i < len := by simpa using hi
      simp only [List.getElem_map, List.getElem_range, hi', dite_true]
      exact (one i hi').choose_spec
    obtain ⟨ts, ho, hts⟩ := all
    refine ⟨some a, cap, ts, by rw [ho]; exact hcs, ?_, ⟨by omega, fun o hmem => ?_⟩, by omega⟩
    · rcases Nat.eq_zero_or_pos ts.length with h0 | h0
      · exact .inl (List.eq_nil_of_length_eq_zero h0)
      · refine .inr ⟨a, rfl, ?_, fun i hi => (hts i hi).1⟩
        obtain ⟨_, _, _, _, q, _⟩ := (hts 0 h0).1
        have := World.block_lt_of_cell? _ _ q
        rwa [add_block] at this
    · obtain ⟨i, hi, rfl⟩ := List.mem_iff_getElem.1 hmem
      exact (hts i hi).2
/-- A coordinator. -/
theorem open_coord {base : Nat} {v : Value} {d : DataW H} {p : List MemPlace} (hv : Value.okWide Try.prog w .any base 48 v) (h : DataW.Trod enc Try.prog w 0 (fun _ => true) held 48 v d p) :
    ∃ q : Crd, Crdd w w.heap.size v q ∧ WideC q := by
  obtain ⟨c0, c1, y0, y1, m, rfl, rfl, rfl, h0, h1⟩ := open_agg2 Try.underlying48 (by kernel_rfl) (by kernel_rfl) hv h
  obtain ⟨A, c, ts, e0, hr, hf, hc⟩ := read_txs h0
  obtain ⟨A2, c2, zs, e1, hr2, hf2, hc2⟩ := read_intsC h1
  obtain rfl : c0 = .slice A ts.length c := by injection e0
  obtain rfl : c1 = .slice A2 zs.length c2 := by injection e1
  exact ⟨⟨ts, zs⟩, ⟨A, c, A2, c2, rfl, hr, hc, hr2, hc2⟩, hf, hf2⟩
/-- Parts. -/
theorem open_parts {base : Nat} {v : Value} {d : DataW H} {p : List MemPlace} (_hv : Value.okWide Try.prog w .any base 95 v) (h : DataW.Trod enc Try.prog w 0 (fun _ => true) held 95 v d p) :
    ∃ (A : Option Addr) (c : Nat) (ps : List Part), v = .slice A ps.length c ∧ Parts w w.heap.size A ps ∧ WideP ps := by
  obtain ⟨A0, n0, c0, rfl⟩ := okWide_slice Try.underlying95 _hv
  obtain ⟨fuel, hf⟩ := h
  obtain ⟨A, c, ps, e, hr, hm, _⟩ := read_parts hf
  refine ⟨A, c, ps, ?_, hr, hm⟩
  simpa [Value.cells] using e
end
end Go.Proofs.Ytjplondblkkpmaa
namespace Go.Proofs.Ytjplondblkkpmaa
open Go.RowKit Wo Pu Rf Co
set_option linter.unusedVariables false
set_option linter.unusedSimpArgs false

theorem OwnPs.len_ {col : Nat → Nat} {c l cc B : Nat} {w : World} {A : Option Addr} {ps : List Part} (h : OwnPs col c w B (.slice A l cc) ps) : l = ps.length := by
  obtain ⟨A', c', e, -, -⟩ := h.form
  injection e
theorem OwnTxs.len_ {col : Nat → Nat} {l cc B : Nat} {w : World} {A : Option Addr} {ts : List Tx} (h : OwnTxs col w B (.slice A l cc) ts) : l = ts.length := by
  obtain ⟨A', c', e, -, -⟩ := h.form
  injection e
/-! ### Lists as they are made. -/
def zP : Part := ⟨0, []⟩
def zT : Tx := ⟨[], [], 0⟩
theorem made_at (zs : Array Value) (n j d : Nat) (hj : j < n) (hd : d < zs.size) : (madeCells zs (n * zs.size)).toList[j * zs.size + d]? = some zs[d] := by
  have h : j * zs.size + d < n * zs.size := by
    have := Nat.mul_le_mul_right zs.size (show j + 1 ≤ n from hj)
    rw [Nat.add_mul, Nat.one_mul] at this
    omega
  unfold madeCells
  simp only [Array.toList_map, Array.toList_range, List.getElem?_map]
  rw [List.getElem?_range h]
  simp only [Option.map_some]
  rw [Nat.mul_comm, Nat.mul_add_mod, Nat.mod_eq_of_lt hd]
  simp [hd]
theorem made_parts {w : World} {B g n : Nat} (h : w.ownsRow B 36 2 (.slice (some ⟨g, 0, none⟩) n n) n (madeCells (Value.agg #[.int .i64 0, .slice none 0 0]).cells (n * 2)).toList) :
    OwnPs (fun _ => 0) 0 w B (.slice (some ⟨g, 0, none⟩) n n) (List.replicate n zP) := by
  have hl : (List.replicate n zP).length = n := List.length_replicate
  refine ⟨_, by rw [hl]; exact h, fun j hj => ?_, fun i j v u hi hj hij hv hu => ?_, fun _ _ _ _ _ _ => rfl, fun _ _ => rfl⟩
  · have hj' : j < n := by rw [hl] at hj; exact hj
    have e0 := made_at (Value.agg #[.int .i64 0, .slice none 0 0]).cells n j 0 hj' (by decide)
    have e1 := made_at (Value.agg #[.int .i64 0, .slice none 0 0]).cells n j 1 hj' (by decide)
    rw [List.getElem_replicate]
    exact ⟨none, 0, e0, e1, Nat.le_refl _, ⟨rfl, .inl ⟨rfl, rfl⟩⟩⟩
  · have hi' : i < n := by rw [hl] at hi; exact hi
    have e1 := made_at (Value.agg #[.int .i64 0, .slice none 0 0]).cells n i 1 hi' (by decide)
    have e2 : v = .slice none 0 0 := by
      have := hv.symm.trans e1
      injection this
    subst e2
    intro g hg
    cases hg
theorem made_txs {w : World} {B g n : Nat} (h : w.ownsRow B 33 3 (.slice (some ⟨g, 0, none⟩) n n) n (madeCells (Value.agg #[.slice none 0 0, .slice none 0 0, .int .i64 0]).cells (n * 3)).toList) :
    OwnTxs (fun _ => 1) w B (.slice (some ⟨g, 0, none⟩) n n) (List.replicate n zT) := by
  have hl : (List.replicate n zT).length = n := List.length_replicate
  refine ⟨_, by rw [hl]; exact h, fun j hj => ?_, fun _ _ => rfl⟩
  have hj' : j < n := by rw [hl] at hj; exact hj
  have e0 := made_at (Value.agg #[.slice none 0 0, .slice none 0 0, .int .i64 0]).cells n j 0 hj' (by decide)
  have e1 := made_at (Value.agg #[.slice none 0 0, .slice none 0 0, .int .i64 0]).cells n j 1 hj' (by decide)
  have e2 := made_at (Value.agg #[.slice none 0 0, .slice none 0 0, .int .i64 0]).cells n j 2 hj' (by decide)
  rw [List.getElem_replicate]
  exact ⟨.slice none 0 0, .slice none 0 0, e0, e1, e2, ⟨[], ⟨rfl, .inl ⟨rfl, rfl⟩⟩, (fun j hj => absurd hj (by simp [zT])), (fun i _ _ _ hi => absurd hi (by simp [zT])), (fun i _ hi => absurd hi (by simp [zT])), fun g hg => by cases hg⟩, ⟨rfl, .inl ⟨rfl, rfl⟩⟩, fun g hg => by cases hg⟩
/-- Part n is another one, whose updates are new. -/
theorem OwnPs.put {w3 w4 : World} {B g l c c' n : Nat} {A : Option Addr} {ps : List Part} {p : Part} (h : OwnPs (fun _ => 0) 0 w3 B (.slice (some ⟨g, 0, none⟩) l c) ps) (hn : n < ps.length) (d : Below w3.heap.size w3 w4) (hB : B ≤ w3.heap.size) (hu : OwnUps w4 w3.heap.size (.slice A p.us.length c') p.us) (hc : p.us.length ≤ c') :
    (∃ v, w4.cell? ⟨g, n * 2, none⟩ = some v) ∧ (∃ v, w4.cell? ⟨g, n * 2 + 1, none⟩ = some v) ∧ (∀ o, w4.frozen? ⟨g, o, none⟩ = false) ∧ B ≤ g ∧
      OwnPs (fun _ => 0) 0 ((w4.setCell ⟨g, n * 2, none⟩ (.int .i64 p.s)).setCell ⟨g, n * 2 + 1, none⟩ (.slice A p.us.length c')) B (.slice (some ⟨g, 0, none⟩) l c) (ps.set n p) := by
  obtain rfl := h.len_
  obtain ⟨xs, h1, h2, h3, h4, h5⟩ := h
  have hl : xs.length = ps.length * 2 := h1.1
  have hrow := own_below h1 d (Nat.le_refl _)
  have s1 := (World.ownsRow.stored hrow (n * 2) (.int .i64 p.s)).1
  have s2 := (World.ownsRow.stored s1 (n * 2 + 1) (.slice A p.us.length c')).1
  have keep : ∀ {u : Value} {us : List Up}, OwnUps w4 B u us → OwnUps ((w4.setCell ⟨g, n * 2, none⟩ (.int .i64 p.s)).setCell ⟨g, n * 2 + 1, none⟩ (.slice A p.us.length c')) B u us := fun h =>
    row_far_type (row_far_type h (by decide) (but_set _ g _ _) (row_typed hrow)) (by decide) (but_set _ g _ _) (row_typed s1)
  have t : ∀ j e, j < ps.length → e < 2 → j ≠ n → ((xs.set (n * 2) (.int .i64 p.s)).set (n * 2 + 1) (.slice A p.us.length c'))[j * 2 + e]? = xs[j * 2 + e]? := fun j e hj he hne => by
    rw [List.getElem?_set_ne (by omega), List.getElem?_set_ne (by omega)]
  have tn : ((xs.set (n * 2) (.int .i64 p.s)).set (n * 2 + 1) (.slice A p.us.length c'))[n * 2 + 1]? = some (.slice A p.us.length c') := by
    rw [List.getElem?_set_self (by simp; omega)]
  have low : ∀ j v, j < ps.length → xs[j * 2 + 1]? = some v → Ap2P v (.slice A p.us.length c') := fun j v hj hv q q1 q2 => by
    obtain ⟨A', c2, r0, r1, r2, r3⟩ := h2 j hj
    rw [r1] at hv
    injection hv with hv
    subst hv
    have := (World.ownsRow.lt r3 q q1).2
    have := hu.lt q q2
    omega
  refine ⟨⟨_, (World.ownsRow.cellAt hrow _ (by omega)).trans (List.getElem?_eq_getElem (by omega))⟩, ⟨_, (World.ownsRow.cellAt hrow _ (by omega)).trans (List.getElem?_eq_getElem (by omega))⟩, fun o => World.ownsRow.frozenAt hrow o, (World.ownsRow.lt h1 g rfl).1, _, by rw [List.length_set]; exact s2, fun j hj => ?_, fun i j v u hi hj hij hv hu' => ?_, fun _ _ _ _ _ _ => rfl, fun _ _ => rfl⟩
  · have hj' : j < ps.length := by rw [List.length_set] at hj; exact hj
    rw [List.getElem_set]
    by_cases e : n = j
    · subst e
      rw [if_pos rfl]
      refine ⟨A, c', ?_, tn, hc, keep (hu.base hB)⟩
      rw [List.getElem?_set_ne (by omega), List.getElem?_set_self (by omega)]
    · rw [if_neg e]
      obtain ⟨A', c2, r0, r1, r2, r3⟩ := h2 j hj'
      exact ⟨A', c2, by have := t j 0 hj' (by omega) (fun q => e q.symm); simp only [Nat.add_zero] at this; rw [this]; exact r0, by rw [t j 1 hj' (by omega) (fun q => e q.symm)]; exact r1, r2, keep (r3.below d)⟩
  · rw [List.length_set] at hi hj
    by_cases ei : i = n
    · subst ei
      rw [tn] at hv
      injection hv with hv
      subst hv
      rw [t j 1 hj (by omega) (fun q => hij q.symm)] at hu'
      exact (low j u hj hu').symm
    · rw [t i 1 hi (by omega) ei] at hv
      by_cases ej : j = n
      · subst ej
        rw [tn] at hu'
        injection hu' with hu'
        subst hu'
        exact low i v hi hv
      · rw [t j 1 hj (by omega) ej] at hu'
        exact h3 i j v u hi hj hij hv hu'

/-! ### Copies. -/
def NewPart (p : Part) (w : World) (e : Ending) (w' : World) : Prop := ∃ g, e = .returned (.agg #[.int .i64 p.s, .slice (some ⟨g, 0, none⟩) p.us.length p.us.length]) ∧ OwnUps w' w.heap.size (.slice (some ⟨g, 0, none⟩) p.us.length p.us.length) p.us ∧ Below w.heap.size w w'
set_option maxHeartbeats 4000000 in
theorem toPart_any (A : Option Addr) (c : Nat) (p : Part) (w : World) (h : Row w w.heap.size A (upsV p.us)) (hn : p.us.length ≤ 1048576) :
    Calls Try.prog 94 #[.agg #[.int .i64 p.s, .slice A p.us.length c]] w (NewPart p w) := by
  have b1 := (Below.refl w.heap.size w).alloc (Nat.le_refl _) (.cells #[.int .i64 p.s, .slice A p.us.length c] 121)
  have b2 := b1.alloc (by simp) (.cells #[.int .i64 0, .slice none 0 0] 36)
  have b3 := b2.alloc (by simp; omega) (.cells #[.int .i64 p.s, .slice none 0 0] 36)
  have R3 := (Blk2s.new_ (w.alloc (.cells #[.int .i64 p.s, .slice A p.us.length c] 121)) 36 (.int .i64 0) (.slice none 0 0)).alloc (.cells #[.int .i64 p.s, .slice none 0 0] 36)
  have O3 := Blk2s.new_ ((w.alloc (.cells #[.int .i64 p.s, .slice A p.us.length c] 121)).alloc (.cells #[.int .i64 0, .slice none 0 0] 36)) 36 (.int .i64 p.s) (.slice none 0 0)
  simp only [World.size_alloc] at R3 O3
  clear b1 b2
  go_enter Try.func94, Try.ntmps94
  go_wp2_with fail
  refine (toUpdateS_any A c p.us _ ((h.below b3 (Nat.le_refl _)).more b3.size) hn).mono ?_
  rintro e w4 ⟨g1, rfl, m4, hb4⟩
  have b4 := b3.trans (hb4.mono b3.size)
  have R4 := R3.later hb4
  have O4 := O3.later hb4
  have m5 : OwnUps w4 w.heap.size (.slice (some ⟨g1, 0, none⟩) p.us.length p.us.length) p.us := (show OwnUps w4 _ _ _ from m4).base b3.size
  clear R3 O3 b3 hb4 m4
  obtain ⟨o0, o1, of⟩ := id O4.reads
  obtain ⟨r0, r1, rf⟩ := id R4.reads
  have of1 := of 1
  have rf0 := rf 0
  have rf1 := rf 1
  clear of rf
  go_wp2_with fail
  have R5 := R4.far (p := ⟨w.heap.size + 1 + 1, 1, none⟩) (by simp) (.slice (some ⟨g1, 0, none⟩) p.us.length p.us.length)
  have T9 := (R5.set0 (.int .i64 p.s)).set1 (.slice (some ⟨g1, 0, none⟩) p.us.length p.us.length)
  obtain ⟨t0, t1, -⟩ := T9.reads
  have q1 := row_far_type m5 (by decide) (but_set w4 (w.heap.size + 1 + 1) 1 (.slice (some ⟨g1, 0, none⟩) p.us.length p.us.length)) (blk_type O4)
  have q2 := row_far_type q1 (by decide) (but_set _ (w.heap.size + 1) 0 (.int .i64 p.s)) (blk_type R5)
  have q3 := row_far_type q2 (by decide) (but_set _ (w.heap.size + 1) 1 (.slice (some ⟨g1, 0, none⟩) p.us.length p.us.length)) (blk_type (R5.set0 _))
  have b9 := ((b4.setCell (p := ⟨w.heap.size + 1 + 1, 1, none⟩) (by show w.heap.size ≤ w.heap.size + 1 + 1; omega) (.slice (some ⟨g1, 0, none⟩) p.us.length p.us.length)).setCell (p := ⟨w.heap.size + 1, 0, none⟩) (Nat.le_succ _) (.int .i64 p.s)).setCell (p := ⟨w.heap.size + 1, 1, none⟩) (Nat.le_succ _) (.slice (some ⟨g1, 0, none⟩) p.us.length p.us.length)
  exact bodyPost_ret (v := .agg #[.int .i64 p.s, .slice (some ⟨g1, 0, none⟩) p.us.length p.us.length]) (by simp [results, Try.results94, go_sem, t0, t1]) rfl ⟨g1, rfl, q3, b9⟩
set_option maxHeartbeats 4000000 in
theorem toPartS_any (A : Option Addr) (c : Nat) (ps : List Part) (w : World) (h : Parts w w.heap.size A ps) (hn : ps.length ≤ 1048576) (hs : ∀ p ∈ ps, p.us.length ≤ 1048576) :
    Calls Try.prog 88 #[.slice A ps.length c] w (NewPs ps w) := by
  obtain ⟨i0, hi, hz0, hz1, hz2⟩ := info_of info_part
  go_enter Try.func88, Try.ntmps88
  go_wp2_with (at_make; go_must (refine wpList_make_full _ rfl (.tmp 6) (.tmp 6) 31 rfl w.heap.size 36 i0 (.agg #[.int .i64 0, .slice none 0 0]) 2 Try.underlying31 hi hz0 hz1 .i64 .i64 ps.length ps.length ps.length rfl rfl rfl rfl (by rw [hz2]; omega) (by unfold maxLen; omega) (Nat.le_refl _) ?_); intro w1 hown hg)
  have hb1 : Below w.heap.size w w1 := (Below.refl _ _).grown hg (Nat.le_refl _) (by simp)
  have f1 : OwnPs (fun _ => 0) 0 w1 w.heap.size (.slice (some ⟨w.heap.size, 0, none⟩) ps.length ps.length) (mixL ps (List.replicate ps.length zP) 0) := by rw [mixL_zero]; exact made_parts hown
  have HL : Hid (ps.length = (List.replicate ps.length zP).length) := by show _ = _; rw [List.length_replicate]
  clear hown hg
  go_loopw [4] (fun i wr => ∃ k : Nat, k ≤ ps.length ∧ i = .int .i64 k ∧ OwnPs (fun _ => 0) 0 wr w.heap.size (.slice (some ⟨w.heap.size, 0, none⟩) ps.length ps.length) (mixL ps (List.replicate ps.length zP) k) ∧ Below w.heap.size w wr) (fun i _ => ps.length - (intOf i).toNat)
  case atStart => exact ⟨0, Nat.zero_le _, rfl, f1, hb1⟩
  case round =>
    clear f1 hb1
    obtain ⟨k, hk, rfl, hf, hb⟩ := hrel
    by_cases hlt : k < ps.length
    · obtain ⟨p, ad, A', c', hre, rfl, ha, g0, g1, -, g4⟩ := (h.on hb).part hlt
      have hsk := hs p (by rw [← hre]; exact List.getElem_mem hlt)
      have k0 : 0 ≤ (k : Int) := by omega
      have k1 : (k : Int) < (ps.length : Int) := by omega
      have HMS : Hid ((mixL ps (List.replicate ps.length zP) k).set k p = mixL ps (List.replicate ps.length zP) (k + 1)) := by
        have := mixL_set (m := k) HL.out (by rw [List.length_replicate]; exact hlt)
        rw [hre] at this
        exact this
      have HML : Hid (k < (mixL ps (List.replicate ps.length zP) k).length) := by
        show _ < _
        rw [mixL_len HL.out, List.length_replicate]
        exact hlt
      clear hre
      go_wp2_with fail
      refine (toPart_any A' c' p wr g4 hsk).mono ?_
      rintro e w2 ⟨g', rfl, o2, d2⟩
      have hb2 := hb.trans (d2.mono hb.size)
      obtain ⟨⟨u0, c0⟩, ⟨u1, c1⟩, cf, hBg, hst⟩ := hf.put HML.out d2 hb.size o2 (Nat.le_refl _)
      rw [HMS.out] at hst
      have cf0 := cf (k * 2)
      have cf1 := cf (k * 2 + 1)
      have HST := hid hst
      clear hf o2 d2 cf g0 g1 g4 hst
      go_wp2_with fail
      go_roundw
      case rel => exact ⟨k + 1, by omega, by go_num, HST.out, (hb2.setCell (Nat.le_refl _) _).setCell (Nat.le_refl _) _⟩
      case measure => simp [intOf]; omega
    · have hk' : k = ps.length := by omega
      subst hk'
      have e : mixL ps (List.replicate ps.length zP) ps.length = ps := by
        have := mixL_done HL.out
        rwa [List.length_replicate] at this
      rw [e] at hf
      go_wp2
      go_ret
      exact ⟨_, rfl, hf, hb⟩
set_option maxHeartbeats 4000000 in
theorem toTxn_any (A : Option Addr) (c : Nat) (A2 : Option Addr) (c2 : Nat) (t : Tx) (w : World) (h : Parts w w.heap.size A t.ps) (hv : Row w w.heap.size A2 (ints t.vs)) (hn : t.ps.length ≤ 1048576) (hs : ∀ p ∈ t.ps, p.us.length ≤ 1048576) (hm : t.vs.length ≤ 1048576) :
    Calls Try.prog 73 #[.agg #[.slice A t.ps.length c, .slice A2 t.vs.length c2, .int .i64 t.d]] w (NewTx t w) := by
  have b1 := (Below.refl w.heap.size w).alloc (Nat.le_refl _) (.cells #[.slice A t.ps.length c, .slice A2 t.vs.length c2, .int .i64 t.d] 97)
  have b2 := b1.alloc (by simp) (.cells #[.slice none 0 0, .slice none 0 0, .int .i64 0] 33)
  have b3 := b2.alloc (by simp; omega) (.cells #[.slice none 0 0, .slice none 0 0, .int .i64 0] 33)
  have X3 := ((Blk3s.new_ w 97 (.slice A t.ps.length c) (.slice A2 t.vs.length c2) (.int .i64 t.d)).alloc (.cells #[.slice none 0 0, .slice none 0 0, .int .i64 0] 33)).alloc (.cells #[.slice none 0 0, .slice none 0 0, .int .i64 0] 33)
  have R3 := (Blk3s.new_ (w.alloc (.cells #[.slice A t.ps.length c, .slice A2 t.vs.length c2, .int .i64 t.d] 97)) 33 (.slice none 0 0) (.slice none 0 0) (.int .i64 0)).alloc (.cells #[.slice none 0 0, .slice none 0 0, .int .i64 0] 33)
  have O3 := Blk3s.new_ ((w.alloc (.cells #[.slice A t.ps.length c, .slice A2 t.vs.length c2, .int .i64 t.d] 97)).alloc (.cells #[.slice none 0 0, .slice none 0 0, .int .i64 0] 33)) 33 (.slice none 0 0) (.slice none 0 0) (.int .i64 0)
  simp only [World.size_alloc] at R3 O3
  clear b1 b2
  go_enter Try.func73, Try.ntmps73
  go_wp2_with fail
  refine (toPartS_any A c t.ps _ (h.on b3) hn hs).mono ?_
  rintro e w4 ⟨v1, rfl, m4, hb4⟩
  obtain ⟨A1, c1, rfl, -, -⟩ := m4.form
  have b4 := b3.trans (hb4.mono b3.size)
  have R4 := R3.later hb4
  have O4 := O3.later hb4
  have X4 := X3.later hb4
  have m5 := m4.base (B' := w.heap.size) b3.size
  obtain ⟨o0, o1, o2, of⟩ := id O4.reads
  obtain ⟨x0, x1, x2, -⟩ := id X4.reads
  have of0 := of 0
  have O5 := O4.set0 (.slice A1 t.ps.length c1)
  have R5 := R4.far (p := ⟨w.heap.size + 1 + 1, 0, none⟩) (by simp) (.slice A1 t.ps.length c1)
  have X5 := X4.far (p := ⟨w.heap.size + 1 + 1, 0, none⟩) (by simp; omega) (.slice A1 t.ps.length c1)
  have m6 := m5.keptT (by decide) (by decide) (by decide) (but_set w4 (w.heap.size + 1 + 1) 0 (.slice A1 t.ps.length c1)) (blk_type O4)
  have b5 := b4.setCell (p := ⟨w.heap.size + 1 + 1, 0, none⟩) (by show w.heap.size ≤ w.heap.size + 1 + 1; omega) (.slice A1 t.ps.length c1)
  clear R3 O3 X3 b3 hb4 m4 of
  go_wp2_with fail
  obtain ⟨w5, hw5⟩ : ∃ x, w4.setCell ⟨w.heap.size + 1 + 1, 0, none⟩ (.slice A1 t.ps.length c1) = x := ⟨_, rfl⟩
  rw [hw5] at O5 R5 X5 m6 b5 ⊢
  clear hw5 o0 o1 o2 of0 x0 x1 x2 O4 R4 X4 m5 b4
  refine (toIntS_any w.heap.size A2 c2 t.vs w5 (hv.below b5 (Nat.le_refl _)) b5.size hm).mono ?_
  rintro e w6 ⟨g2, rfl, m7, d6⟩
  have b6 := b5.trans (d6.mono b5.size)
  have R6 := R5.later d6
  have O6 := O5.later d6
  have X6 := X5.later d6
  have m8 := m6.below d6
  have i8 : OwnI w6 w.heap.size (.slice (some ⟨g2, 0, none⟩) t.vs.length t.vs.length) t.vs := OwnI.base (show OwnI w6 w5.heap.size _ _ from m7) b5.size
  obtain ⟨o0, o1, o2, of⟩ := id O6.reads
  obtain ⟨x0, x1, x2, -⟩ := id X6.reads
  obtain ⟨r0, r1, r2, rf⟩ := id R6.reads
  have of1 := of 1
  have of2 := of 2
  have rf0 := rf 0
  have rf1 := rf 1
  have rf2 := rf 2
  clear of rf R5 O5 X5 m6 b5 m7 d6
  go_wp2_with fail
  have O7 := O6.set1 (.slice (some ⟨g2, 0, none⟩) t.vs.length t.vs.length)
  have R7 := (R6.far (p := ⟨w.heap.size + 1 + 1, 1, none⟩) (by simp) (.slice (some ⟨g2, 0, none⟩) t.vs.length t.vs.length)).far (p := ⟨w.heap.size + 1 + 1, 2, none⟩) (by simp) (.int .i64 t.d)
  have R8 := R7.set0 (.slice A1 t.ps.length c1)
  have R9 := R8.set1 (.slice (some ⟨g2, 0, none⟩) t.vs.length t.vs.length)
  obtain ⟨t0, t1, t2, -⟩ := (R9.set2 (.int .i64 t.d)).reads
  have q1 := m8.keptT (by decide) (by decide) (by decide) (but_set w6 (w.heap.size + 1 + 1) 1 (.slice (some ⟨g2, 0, none⟩) t.vs.length t.vs.length)) (blk_type O6)
  have q2 := q1.keptT (by decide) (by decide) (by decide) (but_set _ (w.heap.size + 1 + 1) 2 (.int .i64 t.d)) (blk_type O7)
  have q3 := q2.keptT (by decide) (by decide) (by decide) (but_set _ (w.heap.size + 1) 0 (.slice A1 t.ps.length c1)) (blk_type R7)
  have q4 := q3.keptT (by decide) (by decide) (by decide) (but_set _ (w.heap.size + 1) 1 (.slice (some ⟨g2, 0, none⟩) t.vs.length t.vs.length)) (blk_type R8)
  have q5 := q4.keptT (by decide) (by decide) (by decide) (but_set _ (w.heap.size + 1) 2 (.int .i64 t.d)) (blk_type R9)
  have j1 := row_far_type i8 (by decide) (but_set w6 (w.heap.size + 1 + 1) 1 (.slice (some ⟨g2, 0, none⟩) t.vs.length t.vs.length)) (blk_type O6)
  have j2 := row_far_type j1 (by decide) (but_set _ (w.heap.size + 1 + 1) 2 (.int .i64 t.d)) (blk_type O7)
  have j3 := row_far_type j2 (by decide) (but_set _ (w.heap.size + 1) 0 (.slice A1 t.ps.length c1)) (blk_type R7)
  have j4 := row_far_type j3 (by decide) (but_set _ (w.heap.size + 1) 1 (.slice (some ⟨g2, 0, none⟩) t.vs.length t.vs.length)) (blk_type R8)
  have j5 := row_far_type j4 (by decide) (but_set _ (w.heap.size + 1) 2 (.int .i64 t.d)) (blk_type R9)
  have b9 := ((((b6.setCell (p := ⟨w.heap.size + 1 + 1, 1, none⟩) (by show w.heap.size ≤ w.heap.size + 1 + 1; omega) (.slice (some ⟨g2, 0, none⟩) t.vs.length t.vs.length)).setCell (p := ⟨w.heap.size + 1 + 1, 2, none⟩) (by show w.heap.size ≤ w.heap.size + 1 + 1; omega) (.int .i64 t.d)).setCell (p := ⟨w.heap.size + 1, 0, none⟩) (Nat.le_succ _) (.slice A1 t.ps.length c1)).setCell (p := ⟨w.heap.size + 1, 1, none⟩) (Nat.le_succ _) (.slice (some ⟨g2, 0, none⟩) t.vs.length t.vs.length)).setCell (p := ⟨w.heap.size + 1, 2, none⟩) (Nat.le_succ _) (.int .i64 t.d)
  exact bodyPost_ret (v := .agg #[.slice A1 t.ps.length c1, .slice (some ⟨g2, 0, none⟩) t.vs.length t.vs.length, .int .i64 t.d]) (by simp [results, Try.results73, go_sem, t0, t1, t2]) rfl ⟨_, _, rfl, ⟨q5, j5, fun _ _ => rfl⟩, b9⟩
set_option maxHeartbeats 4000000 in
theorem toTxnS_any (A : Option Addr) (c : Nat) (ts : List Tx) (w : World) (h : Txs w w.heap.size A ts) (hn : ts.length ≤ 1048576) (hps : ∀ t ∈ ts, t.ps.length ≤ 1048576 ∧ t.vs.length ≤ 1048576) (hus : ∀ t ∈ ts, ∀ p ∈ t.ps, p.us.length ≤ 1048576) :
    Calls Try.prog 52 #[.slice A ts.length c] w (fun e w' => ∃ v col, e = .returned v ∧ OwnTxs col w' w.heap.size v ts ∧ Below w.heap.size w w') := by
  obtain ⟨i0, hi, hz0, hz1, hz2⟩ := info_of info_txn
  go_enter Try.func52, Try.ntmps52
  go_wp2_with (at_make; go_must (refine wpList_make_full _ rfl (.tmp 6) (.tmp 6) 23 rfl w.heap.size 33 i0 (.agg #[.slice none 0 0, .slice none 0 0, .int .i64 0]) 3 Try.underlying23 hi hz0 hz1 .i64 .i64 ts.length ts.length ts.length rfl rfl rfl rfl (by rw [hz2]; omega) (by unfold maxLen; omega) (Nat.le_refl _) ?_); intro w1 hown hg)
  have hb1 : Below w.heap.size w w1 := (Below.refl _ _).grown hg (Nat.le_refl _) (by simp)
  have f1 : OwnTxs (fun _ => 1) w1 w.heap.size (.slice (some ⟨w.heap.size, 0, none⟩) ts.length ts.length) (mixL ts (List.replicate ts.length zT) 0) := by rw [mixL_zero]; exact made_txs hown
  have HL : Hid (ts.length = (List.replicate ts.length zT).length) := by show _ = _; rw [List.length_replicate]
  clear hown hg
  go_loopw [4] (fun i wr => ∃ (k : Nat) (col : Nat → Nat), k ≤ ts.length ∧ i = .int .i64 k ∧ OwnTxs col wr w.heap.size (.slice (some ⟨w.heap.size, 0, none⟩) ts.length ts.length) (mixL ts (List.replicate ts.length zT) k) ∧ Below w.heap.size w wr) (fun i _ => ts.length - (intOf i).toNat)
  case atStart => exact ⟨0, _, Nat.zero_le _, rfl, f1, hb1⟩
  case round =>
    clear f1 hb1
    obtain ⟨k, col, hk, rfl, hf, hb⟩ := hrel
    by_cases hlt : k < ts.length
    · obtain ⟨t, ad, A1, c1, B1, e1, hre, rfl, ha, g0, g1, g2, -, -, g5, g6⟩ := (h.on hb).tx hlt
      have hps' := hps t (by rw [← hre]; exact List.getElem_mem hlt)
      have hus' := hus t (by rw [← hre]; exact List.getElem_mem hlt)
      have k0 : 0 ≤ (k : Int) := by omega
      have k1 : (k : Int) < (ts.length : Int) := by omega
      have HMS : Hid ((mixL ts (List.replicate ts.length zT) k).set k t = mixL ts (List.replicate ts.length zT) (k + 1)) := by
        have := mixL_set (m := k) HL.out (by rw [List.length_replicate]; exact hlt)
        rw [hre] at this
        exact this
      have hll : (mixL ts (List.replicate ts.length zT) k).length = ts.length := by rw [mixL_len HL.out, List.length_replicate]
      have HLL := hid hll
      clear hre hll
      go_wp2_with fail
      refine (toTxn_any A1 c1 B1 e1 t wr g5 g6 hps'.1 hus' hps'.2).mono ?_
      rintro e w2 ⟨a, b, rfl, o2, d2⟩
      have hb2 := hb.trans (d2.mono hb.size)
      have hf' : OwnTxs col wr w.heap.size (.slice (some ⟨w.heap.size, 0, none⟩) (mixL ts (List.replicate ts.length zT) k).length ts.length) (mixL ts (List.replicate ts.length zT) k) := by rw [HLL.out]; exact hf
      obtain ⟨⟨a0, b0, c0, c1, c2⟩, cf, hst⟩ := hf'.put (n := k) (by rw [HLL.out]; exact hlt) d2 hb.size o2
      rw [HMS.out, HLL.out] at hst
      have cf0 := cf (k * 3)
      have cf1 := cf (k * 3 + 1)
      have cf2 := cf (k * 3 + 2)
      obtain ⟨u2, cu2⟩ : ∃ u, w2.cell? ⟨w.heap.size, k * 3 + 2, none⟩ = some u := ⟨_, c2⟩
      have HST := hid hst
      obtain ⟨Aa, ca, Ab, cb, rfl, rfl, -⟩ := o2.form
      clear hf hf' o2 d2 cf g0 g1 g2 g5 g6 hst c2
      go_wp2_with fail
      go_roundw
      case rel => exact ⟨k + 1, _, by omega, by go_num, HST.out, ((hb2.setCell (Nat.le_refl _) _).setCell (Nat.le_refl _) _).setCell (Nat.le_refl _) _⟩
      case measure => simp [intOf]; omega
    · have hk' : k = ts.length := by omega
      subst hk'
      have e : mixL ts (List.replicate ts.length zT) ts.length = ts := by
        have := mixL_done HL.out
        rwa [List.length_replicate] at this
      rw [e] at hf
      go_wp2
      go_ret
      exact ⟨_, col, rfl, hf, hb⟩
set_option maxHeartbeats 4000000 in
theorem toCoordinator_any (v : Value) (q : Crd) (w : World) (h : Crdd w w.heap.size v q) (hf : FitC q) :
    Calls Try.prog 26 #[v] w (NewCr q w) := by
  obtain ⟨A, c, A2, c2, rfl, hT, hc, hO, hc2⟩ := h
  have f2 := hf.os
  unfold crV
  have b3 := (((Below.refl w.heap.size w).alloc (Nat.le_refl _) (.cells #[.slice A q.ts.length c, .slice A2 q.os.length c2] 48)).alloc (by simp) (.cells #[.slice none 0 0, .slice none 0 0] 26)).alloc (by simp; omega) (.cells #[.slice none 0 0, .slice none 0 0] 26)
  have X3 := ((Blk2s.new_ w 48 (.slice A q.ts.length c) (.slice A2 q.os.length c2)).alloc (.cells #[.slice none 0 0, .slice none 0 0] 26)).alloc (.cells #[.slice none 0 0, .slice none 0 0] 26)
  have R3 := (Blk2s.new_ (w.alloc (.cells #[.slice A q.ts.length c, .slice A2 q.os.length c2] 48)) 26 (.slice none 0 0) (.slice none 0 0)).alloc (.cells #[.slice none 0 0, .slice none 0 0] 26)
  have O3 := Blk2s.new_ ((w.alloc (.cells #[.slice A q.ts.length c, .slice A2 q.os.length c2] 48)).alloc (.cells #[.slice none 0 0, .slice none 0 0] 26)) 26 (.slice none 0 0) (.slice none 0 0)
  simp only [World.size_alloc] at R3 O3
  go_enter Try.func26, Try.ntmps26
  go_wp2_with fail
  refine (toTxnS_any A c q.ts _ (hT.on b3) hf.ts hf.ps hf.us).mono ?_
  rintro e w4 ⟨v1, col, rfl, m4, hb4⟩
  obtain ⟨A1, c1, rfl, -, -⟩ := m4.form
  have b4 := b3.trans (hb4.mono b3.size)
  have R4 := R3.later hb4
  have O4 := O3.later hb4
  have X4 := X3.later hb4
  have m5 := m4.base (B' := w.heap.size) b3.size
  obtain ⟨o0, o1, of⟩ := id O4.reads
  obtain ⟨x0, x1, -⟩ := id X4.reads
  have of0 := of 0
  have O5 := O4.set0 (.slice A1 q.ts.length c1)
  have R5 := R4.far (p := ⟨w.heap.size + 1 + 1, 0, none⟩) (by simp) (.slice A1 q.ts.length c1)
  have X5 := X4.far (p := ⟨w.heap.size + 1 + 1, 0, none⟩) (by simp; omega) (.slice A1 q.ts.length c1)
  have m6 := m5.keptT (by decide) (by decide) (by decide) (by decide) (but_set w4 (w.heap.size + 1 + 1) 0 (.slice A1 q.ts.length c1)) (blk_type O4)
  have b5 := b4.setCell (p := ⟨w.heap.size + 1 + 1, 0, none⟩) (by show w.heap.size ≤ w.heap.size + 1 + 1; omega) (.slice A1 q.ts.length c1)
  clear R3 O3 X3 b3 hb4 m4 of
  go_wp2_with fail
  obtain ⟨w5, hw5⟩ : ∃ x, w4.setCell ⟨w.heap.size + 1 + 1, 0, none⟩ (.slice A1 q.ts.length c1) = x := ⟨_, rfl⟩
  rw [hw5] at O5 R5 X5 m6 b5 ⊢
  clear hw5 o0 o1 of0 x0 x1 O4 R4 X4 m5 b4
  refine (toIntS_any w.heap.size A2 c2 q.os w5 (hO.below b5 (Nat.le_refl _)) b5.size f2).mono ?_
  rintro e w6 ⟨g2, rfl, m7, d6⟩
  have b6 := b5.trans (d6.mono b5.size)
  have R6 := R5.later d6
  have O6 := O5.later d6
  have m8 := m6.below d6
  have i7 : OwnI w6 w5.heap.size (.slice (some ⟨g2, 0, none⟩) q.os.length q.os.length) q.os := m7
  have i8 : OwnI w6 w.heap.size (.slice (some ⟨g2, 0, none⟩) q.os.length q.os.length) q.os := OwnI.base i7 b5.size
  obtain ⟨o0, o1, of⟩ := id O6.reads
  obtain ⟨r0, r1, rf⟩ := id R6.reads
  have of1 := of 1
  have rf0 := rf 0
  have rf1 := rf 1
  have m9 : OwnTxs (tint w5 col 0) w6 w.heap.size (.slice A1 q.ts.length c1) q.ts := m6.map (fun _ _ _ _ _ _ _ hr hcv => ⟨own_below hr d6 (Nat.le_refl _), tint_old hr hcv⟩) fun _ _ _ _ hr hcv => ⟨own_below hr d6 (Nat.le_refl _), tint_old hr hcv⟩
  clear of rf R5 O5 X5 m7 d6
  go_wp2_with fail
  have R7 := R6.far (p := ⟨w.heap.size + 1 + 1, 1, none⟩) (by simp) (.slice (some ⟨g2, 0, none⟩) q.os.length q.os.length)
  have R8 := R7.set0 (.slice A1 q.ts.length c1)
  obtain ⟨t0, t1, -⟩ := (R8.set1 (.slice (some ⟨g2, 0, none⟩) q.os.length q.os.length)).reads
  have q1 := m9.keptT (by decide) (by decide) (by decide) (by decide) (but_set w6 (w.heap.size + 1 + 1) 1 (.slice (some ⟨g2, 0, none⟩) q.os.length q.os.length)) (blk_type O6)
  have q2 := q1.keptT (by decide) (by decide) (by decide) (by decide) (but_set _ (w.heap.size + 1) 0 (.slice A1 q.ts.length c1)) (blk_type R7)
  have q3 := q2.keptT (by decide) (by decide) (by decide) (by decide) (but_set _ (w.heap.size + 1) 1 (.slice (some ⟨g2, 0, none⟩) q.os.length q.os.length)) (blk_type R8)
  have j1 := row_far_type i8 (by decide) (but_set w6 (w.heap.size + 1 + 1) 1 (.slice (some ⟨g2, 0, none⟩) q.os.length q.os.length)) (blk_type O6)
  have j2 := row_far_type j1 (by decide) (but_set _ (w.heap.size + 1) 0 (.slice A1 q.ts.length c1)) (blk_type R7)
  have j3 := row_far_type j2 (by decide) (but_set _ (w.heap.size + 1) 1 (.slice (some ⟨g2, 0, none⟩) q.os.length q.os.length)) (blk_type R8)
  have b9 := ((b6.setCell (p := ⟨w.heap.size + 1 + 1, 1, none⟩) (by show w.heap.size ≤ w.heap.size + 1 + 1; omega) (.slice (some ⟨g2, 0, none⟩) q.os.length q.os.length)).setCell (p := ⟨w.heap.size + 1, 0, none⟩) (Nat.le_succ _) (.slice A1 q.ts.length c1)).setCell (p := ⟨w.heap.size + 1, 1, none⟩) (Nat.le_succ _) (.slice (some ⟨g2, 0, none⟩) q.os.length q.os.length)
  have hcol : ColV (tint w5 col 0) 0 (.slice (some ⟨g2, 0, none⟩) q.os.length q.os.length) := tint_new i7
  exact bodyPost_ret (v := .agg #[.slice A1 q.ts.length c1, .slice (some ⟨g2, 0, none⟩) q.os.length q.os.length]) (by simp [results, Try.results26, go_sem, t0, t1]) rfl ⟨_, _, rfl, ⟨_, _, rfl, q3, j3, hcol⟩, b9⟩
end Go.Proofs.Ytjplondblkkpmaa
namespace Go.Proofs.Ytjplondblkkpmaa
open Go.RowKit Wo Pu Rf Co
set_option linter.unusedVariables false
set_option linter.unusedSimpArgs false

/-! ### The marks. -/
def pZ (p : Part) : Nat := 1 + 3 * p.us.length
def zPs (ps : List Part) : Nat := preS pZ ps ps.length
def mkP (k : Nat) (p : Part) : Part := ⟨(k : Int), mksU (k + 1) p.us.length⟩
def mkPs (k : Nat) (ps : List Part) : List Part := (List.finRange ps.length).map fun j => mkP (k + preS pZ ps j.1) ps[j.1]
def tZ (t : Tx) : Nat := zPs t.ps + t.vs.length + 1
def zTs (ts : List Tx) : Nat := preS tZ ts ts.length
def mkT (k : Nat) (t : Tx) : Tx := ⟨mkPs k t.ps, marks ((k + zPs t.ps : Nat) : Int) t.vs.length, ((k + zPs t.ps + t.vs.length : Nat) : Int)⟩
def mkTs (k : Nat) (ts : List Tx) : List Tx := (List.finRange ts.length).map fun j => mkT (k + preS tZ ts j.1) ts[j.1]
def zC (q : Crd) : Nat := zTs q.ts + q.os.length
def mkC (k : Nat) (q : Crd) : Crd := ⟨mkTs k q.ts, marks ((k + zTs q.ts : Nat) : Int) q.os.length⟩
theorem mkPs_length (k : Nat) (ps : List Part) : (mkPs k ps).length = ps.length := by simp [mkPs]
theorem mkPs_get {k : Nat} {ps : List Part} {j : Nat} (h : j < ps.length) : (mkPs k ps)[j]'(by rw [mkPs_length]; exact h) = mkP (k + preS pZ ps j) ps[j] := by simp [mkPs]
theorem mkTs_length (k : Nat) (ts : List Tx) : (mkTs k ts).length = ts.length := by simp [mkTs]
theorem mkTs_get {k : Nat} {ts : List Tx} {j : Nat} (h : j < ts.length) : (mkTs k ts)[j]'(by rw [mkTs_length]; exact h) = mkT (k + preS tZ ts j) ts[j] := by simp [mkTs]
theorem zPs_le (ps : List Part) : zPs ps ≤ 3 * allP ps := by
  have : ∀ k, k ≤ ps.length → preS pZ ps k ≤ k + 3 * preS uN ps k := by
    intro k
    induction k with
    | zero => intro _; simp [preS_zero]
    | succ k ih =>
      intro h
      rw [preS_succ (by omega), preS_succ (by omega)]
      have h1 := ih (by omega)
      have e1 : pZ ps[k] = 1 + 3 * ps[k].us.length := rfl
      have e2 : uN ps[k] = ps[k].us.length := rfl
      omega
  have := this ps.length (Nat.le_refl _)
  unfold zPs allP
  omega
theorem zTs_le (ts : List Tx) : zTs ts ≤ 3 * allT ts := by
  have : ∀ k, k ≤ ts.length → preS tZ ts k ≤ k + 3 * preS tN ts k := by
    intro k
    induction k with
    | zero => intro _; simp [preS_zero]
    | succ k ih =>
      intro h
      rw [preS_succ (by omega), preS_succ (by omega)]
      have h1 := ih (by omega)
      have h2 := zPs_le ts[k].ps
      have e1 : tZ ts[k] = zPs ts[k].ps + ts[k].vs.length + 1 := rfl
      have e2 : tN ts[k] = allP ts[k].ps + ts[k].vs.length := rfl
      omega
  have := this ts.length (Nat.le_refl _)
  unfold zTs allT
  omega
theorem zC_le (q : Crd) : zC q ≤ 3 * allC q := by
  have := zTs_le q.ts
  unfold zC allC
  omega

/-! ### Parts. -/
/-- Rows of numbers stay. -/
def KeepI (w w' : World) : Prop := ∀ (B sz n : Nat) (u : Value) (ys : List Value), w.ownsRow B 3 sz u n ys → w'.ownsRow B 3 sz u n ys
theorem KeepI.refl (w : World) : KeepI w w := fun _ _ _ _ _ h => h
theorem KeepI.trans {a b c : World} (h : KeepI a b) (k : KeepI b c) : KeepI a c := fun _ _ _ _ _ r => k _ _ _ _ _ (h _ _ _ _ _ r)
/-- What the round at part n finds and leaves. -/
theorem OwnPs.mark {col : Nat → Nat} {c B g l cc n : Nat} {w : World} {ps : List Part} {p : Part} (h : OwnPs col c w B (.slice (some ⟨g, 0, none⟩) l cc) ps) (hn : n < ps.length) (hp : ps[n] = p) (x : Int) :
    ∃ (A : Option Addr) (c' : Nat), (∃ v, w.cell? ⟨g, n * 2, none⟩ = some v) ∧ w.frozen? ⟨g, n * 2, none⟩ = false ∧ w.cell? ⟨g, n * 2 + 1, none⟩ = some (.slice A p.us.length c') ∧ col g = c ∧ g < w.heap.size ∧
      (∀ q, (Value.slice A p.us.length c').ownBlock = some q → col q = c) ∧ OwnUps (w.setCell ⟨g, n * 2, none⟩ (.int .i64 x)) B (.slice A p.us.length c') p.us ∧
      ∀ R w2 (us' : List Up), us'.length = p.us.length → InB A R → (A = none → w.heap.size ≤ R) → But R (w.setCell ⟨g, n * 2, none⟩ (.int .i64 x)) w2 → OwnUps w2 B (.slice A p.us.length c') us' → OwnPs col c w2 B (.slice (some ⟨g, 0, none⟩) l cc) (ps.set n ⟨x, us'⟩) ∧ KeepI w w2 := by
  obtain rfl := h.len_
  subst hp
  obtain ⟨xs, h1, h2, h3, h4, h5⟩ := h
  have hl : xs.length = ps.length * 2 := h1.1
  obtain ⟨A, c', q0, q1, q2, q3⟩ := h2 n hn
  have s1 := (World.ownsRow.stored h1 (n * 2) (.int .i64 x)).1
  have keep : ∀ {u : Value} {us : List Up}, OwnUps w B u us → OwnUps (w.setCell ⟨g, n * 2, none⟩ (.int .i64 x)) B u us := fun h => row_far_type h (by decide) (but_set w g _ _) (row_typed h1)
  have hgl := (World.ownsRow.lt h1 g rfl).2
  refine ⟨A, c', ⟨_, (World.ownsRow.cellAt h1 _ (by omega)).trans (List.getElem?_eq_getElem (by omega))⟩, World.ownsRow.frozenAt h1 _, (World.ownsRow.cellAt h1 _ (by omega)).trans q1, h5 g rfl, hgl, fun q hq => h4 n _ hn q1 q hq, keep q3, fun R w2 us' hus hR hN hb ho => ?_⟩
  have notR : ∀ q, q < w.heap.size → (∀ ad, A = some ad → ad.block ≠ q) → q ≠ R := fun q hq hne => by
    rcases A with _ | ad
    · have := hN rfl; omega
    · have := hR ad rfl
      have := hne ad rfl
      omega
  have keptR : ∀ {e : TypeId} {sz m : Nat} {u : Value} {ys : List Value}, (w.setCell ⟨g, n * 2, none⟩ (.int .i64 x)).ownsRow B e sz u m ys → (∀ q, u.ownBlock = some q → ∀ ad, A = some ad → ad.block ≠ q) → w2.ownsRow B e sz u m ys := fun hr hne => by
    refine World.ownsRow.kept hr hb ?_
    rcases hu : Value.ownBlock _ with _ | q
    · exact .inl rfl
    · refine .inr fun e => ?_
      injection e with e
      have hq := (World.ownsRow.lt hr q hu).2
      have := notR q (by simpa [World.setCell] using hq) (hne q hu)
      omega
  have hgA : ∀ ad, A = some ad → ad.block ≠ g := fun ad e1 e2 => by
    subst e1
    obtain ⟨cur, fr, t1⟩ := row_typed q3 ad.block rfl
    obtain ⟨cur2, fr2, t2⟩ := row_typed h1 g rfl
    rw [e2, t2] at t1
    injection t1 with t1
    injection t1 with _ t1
    exact absurd t1 (by decide)
  have hrow : w2.ownsRow B 36 2 (.slice (some ⟨g, 0, none⟩) ps.length cc) ps.length (xs.set (n * 2) (.int .i64 x)) := keptR s1 fun q hq ad e => by
    have e2 : g = q := by simpa [Value.ownBlock] using hq
    rw [← e2]
    exact hgA ad e
  have hI : KeepI w w2 := fun B' sz m u ys hr => by
    have r1 := row_far_type hr (by decide) (but_set w g (n * 2) (.int .i64 x)) (row_typed h1)
    refine World.ownsRow.kept r1 hb ?_
    rcases hu : u.ownBlock with _ | q
    · exact .inl rfl
    · refine .inr fun e => ?_
      injection e with e
      have hq := (World.ownsRow.lt hr q hu).2
      have := notR q hq fun ad e1 e2 => by
        subst e1
        obtain ⟨cur, fr, t1⟩ := row_typed q3 ad.block rfl
        obtain ⟨cur2, fr2, t2⟩ := row_typed hr q hu
        rw [e2, t2] at t1
        injection t1 with t1
        injection t1 with _ t1
        exact absurd t1 (by decide)
      omega
  refine ⟨?_, hI⟩
  refine ⟨xs.set (n * 2) (.int .i64 x), by rw [List.length_set]; exact hrow, fun j hj => ?_, fun i j a b hi hj hij ha hb' => ?_, fun i a hi ha => ?_, h5⟩
  · have hj' : j < ps.length := by rw [List.length_set] at hj; exact hj
    rw [List.getElem_set]
    by_cases e : n = j
    · subst e
      rw [if_pos rfl]
      refine ⟨A, c', List.getElem?_set_self (by omega), ?_, ?_, ?_⟩
      · rw [List.getElem?_set_ne (by omega)]
        show _ = some (Value.slice A us'.length c')
        rw [hus]; exact q1
      · show us'.length ≤ c'
        rw [hus]; exact q2
      · show OwnUps w2 B (.slice A us'.length c') us'
        rw [hus]; exact ho
    · rw [if_neg e]
      obtain ⟨A2, c2, r0, r1, r2, r3⟩ := h2 j hj'
      refine ⟨A2, c2, by rw [List.getElem?_set_ne (by omega)]; exact r0, by rw [List.getElem?_set_ne (by omega)]; exact r1, r2, keptR (keep r3) fun q hq ad e1 e2 => ?_⟩
      subst e1
      exact h3 j n _ _ hj' hn (fun q => e q.symm) r1 q1 q hq (by show some ad.block = some q; rw [e2])
  · rw [List.length_set] at hi hj
    rw [List.getElem?_set_ne (by omega)] at ha hb'
    exact h3 i j a b hi hj hij ha hb'
  · rw [List.length_set] at hi
    rw [List.getElem?_set_ne (by omega)] at ha
    exact h4 i a hi ha
theorem OwnPs.head {col : Nat → Nat} {c B l cc : Nat} {w : World} {A : Option Addr} {ps : List Part} (h : OwnPs col c w B (.slice A l cc) ps) (hp : 0 < ps.length) : ∃ g, A = some ⟨g, 0, none⟩ := by
  obtain rfl := h.len_
  obtain ⟨xs, h1, -⟩ := h
  obtain ⟨g, cap, e, -⟩ := World.ownsRow.form h1 hp
  injection e with e
  exact ⟨g, e⟩
/-- Behind the marks on parts. -/
def PsMarked (col : Nat → Nat) (c B k : Nat) (v : Value) (ps : List Part) (w : World) (e : Ending) (w' : World) : Prop := e = .returned (.int .i64 ((k + zPs ps : Nat) : Int)) ∧ OwnPs col c w' B v (mkPs k ps) ∧ Only (Hue col c) w w' ∧ KeepI w w'
set_option maxRecDepth 100000 in
set_option maxHeartbeats 4000000 in
theorem markPartS_C (col : Nat → Nat) (c B k : Nat) (v : Value) (ps : List Part) (w : World) (h : OwnPs col c w B v ps) (hm : ps.length ≤ 1048576) (hu : ∀ p ∈ ps, p.us.length ≤ 1048576) (h1 : 1 ≤ k) (hk : k + zPs ps ≤ 4000000) :
    Calls Try.prog 75 #[v, .int .i64 (k : Int)] w (PsMarked col c B k v ps w) := by
  have HKM : Hid (∀ m, m ≤ ps.length → k + preS pZ ps m ≤ 4000000) := fun m hm => by
    have := preS_mono (f := pZ) (l := ps) (i := m) ps.length hm (Nat.le_refl _)
    unfold zPs at hk
    omega
  have HLN := hid (mkPs_length k ps)
  obtain ⟨A, cc, rfl, -, -⟩ := h.form
  by_cases h0 : ps.length = 0
  · have e : ps = [] := List.eq_nil_of_length_eq_zero h0
    subst e
    have hz : Hid (PsMarked col c B k (.slice A 0 cc) [] w (.returned (.int .i64 (k : Int))) w) := ⟨rfl, h, Only.refl _ _, KeepI.refl _⟩
    clear h HKM HLN hk hu hm
    go_enter Try.func75, Try.ntmps75
    go_wp2_with fail
    go_loopw [1, 5] (fun q i wr => i = .int .i64 0 ∧ q = .int .i64 (k : Int) ∧ w = wr) (fun _ _ _ => 0)
    case atStart => exact ⟨rfl, rfl, rfl⟩
    case round =>
      obtain ⟨rfl, rfl, rfl⟩ := hrel
      go_wp2
      go_ret
      exact hz.out
  · obtain ⟨g, rfl⟩ := h.head (by omega)
    have HU := hid hu
    have hX : OwnPs col c w B (.slice (some ⟨g, 0, none⟩) ps.length cc) (mixL (mkPs k ps) ps 0) := by rw [mixL_zero]; exact h
    clear hk hu h
    go_enter Try.func75, Try.ntmps75
    go_wp2_with fail
    go_loopw [1, 5] (fun q i wr => ∃ m K : Nat, m ≤ ps.length ∧ i = .int .i64 m ∧ q = .int .i64 (K : Nat) ∧ K ≤ 4000000 ∧ 1 ≤ K ∧ Hid (K = k + preS pZ ps m) ∧ OwnPs col c wr B (.slice (some ⟨g, 0, none⟩) ps.length cc) (mixL (mkPs k ps) ps m) ∧ Only (Hue col c) w wr ∧ KeepI w wr) (fun _ i _ => ps.length - (intOf i).toNat)
    case atStart => exact ⟨0, k, Nat.zero_le _, rfl, rfl, by have := HKM.out 0 (Nat.zero_le _); rw [preS_zero] at this; omega, h1, by show _ = _; rw [preS_zero]; rfl, hX, Only.refl _ _, KeepI.refl _⟩
    case round =>
      clear hX
      obtain ⟨m, K, hm9, rfl, rfl, hK1, hK2, HK, hX, hO, hI⟩ := hrel
      by_cases hlt : m < ps.length
      · obtain ⟨p, hp⟩ : ∃ p, ps[m] = p := ⟨_, rfl⟩
        have hlm : m < (mixL (mkPs k ps) ps m).length := by rw [mixL_len HLN.out]; exact hlt
        obtain ⟨A, c', ⟨v0, c0⟩, f0, c1, hcg, hgl, hq, ou, HN⟩ := hX.mark hlm ((mixL_at HLN.out hlt hlm).trans hp) (K : Nat)
        have hk2 := HKM.out (m + 1) (by omega)
        have hks := preS_succ (f := pZ) hlt
        have hul := HU.out p (by rw [← hp]; exact List.getElem_mem hlt)
        have HST : Hid ((mixL (mkPs k ps) ps m).set m (mkP K p) = mixL (mkPs k ps) ps (m + 1)) := by
          show _ = _
          rw [← mixL_set HLN.out hlt, mkPs_get hlt, ← HK.out, hp]
        have HKS : Hid (k + preS pZ ps (m + 1) = K + (1 + 3 * p.us.length)) := by
          show _ = _
          rw [hks, hp, HK.out]
          unfold pZ
          omega
        rw [HKS.out] at hk2
        obtain ⟨R, hR1, hR2⟩ := inB_of A wr.heap.size
        have k0 : 0 ≤ (m : Int) := by omega
        have k1 : (m : Int) < (ps.length : Int) := by omega
        have HOS : Hid (Only (Hue col c) w (wr.setCell ⟨g, m * 2, none⟩ (.int .i64 (K : Nat)))) := hO.set_ hcg _ _
        have HNN := hid HN
        have HRR : Hid (∀ w2, But R (wr.setCell ⟨g, m * 2, none⟩ (.int .i64 (K : Nat))) w2 → Only (Hue col c) w w2) := fun w2 hb => by
          refine HOS.out.trans ⟨hb.os, hb.tape, hb.output, hb.size, fun i hi hc => hb.block i hi fun e => ?_⟩
          injection e with e
          rcases A with _ | ad
          · have := hR2 rfl
            simp [World.setCell] at hi
            omega
          · refine hc (hq i ?_)
            have := hR1 ad rfl
            show some ad.block = some i
            rw [this, e]
        have e2 : ((K + 1 : Nat) : Int) = (K : Int) + 1 := by omega
        have HMU : Hid (∀ x : World, OwnUps x B (.slice A p.us.length c') p.us → Calls Try.prog 90 #[.slice A p.us.length c', .int .i64 ((K : Int) + 1)] x (UpsMarked ((K : Int) + 1 + 3 * (p.us.length : Int)) (.slice A p.us.length c') (K + 1) p.us.length R B x)) := fun x ho => by
          have := markUps_to ((K : Int) + 1 + 3 * (p.us.length : Int)) (K + 1) R B A c' p.us x ho hR1 hul (by omega) (by omega) (by omega)
          rwa [e2] at this
        have HOU := hid ou
        clear HN hX hO hks hq hp e2 ou hlm
        go_wp2_with fail
        refine (HMU.out _ HOU.out).mono ?_
        rintro e w2 ⟨rfl, ho2, hb2⟩
        obtain ⟨X2, I2⟩ := HNN.out R w2 (mksU (K + 1) p.us.length) (mksU_length _ _) hR1 (fun e => by rw [hR2 e]; exact Nat.le_refl _) hb2 ho2
        have O2 := HRR.out w2 hb2
        have I3 := hI.trans I2
        have X3 : OwnPs col c w2 B (.slice (some ⟨g, 0, none⟩) ps.length cc) (mixL (mkPs k ps) ps (m + 1)) := by rw [← HST.out]; exact X2
        have HK3 : Hid (K + 1 + 3 * p.us.length = k + preS pZ ps (m + 1)) := by show _ = _; rw [HKS.out]; omega
        clear HMU HNN HOS HOU ho2 hb2 X2 HRR HST I2 hI
        go_wp2_with fail
        go_roundw
        case rel => exact ⟨m + 1, K + 1 + 3 * p.us.length, by omega, by go_num, by congr 1, by omega, by omega, HK3, X3, O2, I3⟩
        case measure => simp [intOf]; omega
      · have hm' : m = ps.length := by omega
        subst hm'
        rw [mixL_done HLN.out] at hX
        go_wp2
        go_ret
        exact ⟨by rw [HK.out]; rfl, hX, hO, hI⟩
end Go.Proofs.Ytjplondblkkpmaa
namespace Go.Proofs.Ytjplondblkkpmaa
open Go.RowKit Wo Pu Rf Co
set_option linter.unusedVariables false
set_option linter.unusedSimpArgs false

/-- Behind the marks on numbers. -/
def IsMarked (col : Nat → Nat) (c B k : Nat) (v : Value) (n : Nat) (w : World) (e : Ending) (w' : World) : Prop := e = .returned (.int .i64 ((k + n : Nat) : Int)) ∧ OwnI w' B v (marks (k : Int) n) ∧ Only (Hue col c) w w' ∧ ∃ row, w.grownBy w' row ∧ ∀ g, row = some g → ∃ cur fr, w.heap[g]? = some (.cells cur 3 fr)
set_option maxHeartbeats 1000000 in
theorem markInts_C (col : Nat → Nat) (c B k : Nat) (v : Value) (zs : List Int) (w : World) (h : OwnI w B v zs) (hc : ColV col c v) (hm : zs.length ≤ 1048576) (hk : k ≤ 4000000) :
    Calls Try.prog 30 #[v, .int .i64 (k : Int)] w (IsMarked col c B k v zs.length w) := by
  obtain ⟨A, cc, rfl, -, -⟩ := h.form
  by_cases h0 : zs.length = 0
  · have e : zs = [] := List.eq_nil_of_length_eq_zero h0
    subst e
    have hz : Hid (IsMarked col c B k (.slice A 0 cc) 0 w (.returned (.int .i64 (k : Int))) w) := ⟨rfl, h, Only.refl _ _, none, World.grownBy.refl w _, fun g e => by cases e⟩
    clear h hc
    go_enter Try.func30, Try.ntmps30
    go_wp2_with fail
    go_loopw [1, 5] (fun q i wr => i = .int .i64 0 ∧ q = .int .i64 (k : Int) ∧ w = wr) (fun _ _ _ => 0)
    case atStart => exact ⟨rfl, rfl, rfl⟩
    case round =>
      obtain ⟨rfl, rfl, rfl⟩ := hrel
      go_wp2
      go_ret
      exact hz.out
  · obtain ⟨g, cap, e, -⟩ := World.ownsRow.form h (by omega)
    injection e with e1 _ e3
    subst e1 e3
    refine (markIntS_own B g zs.length cc (k : Int) (ints zs) w h hm (by omega) (by omega)).mono ?_
    rintro e w' ⟨rfl, hw, ho⟩
    refine ⟨by congr 2, ?_, ⟨hw.1.os, hw.1.tape, hw.1.output, hw.1.size, fun i hi hn => hw.1.block i hi fun e => ?_⟩, some g, hw.1, fun q hq => ?_⟩
    · unfold OwnI
      rw [marks_length]
      exact ho
    · injection e with e
      exact hn (hc i (by rw [e]; rfl))
    · injection hq with hq
      exact row_typed h q (by rw [hq]; rfl)

/-! ### Transactions. -/
theorem only_cell {S : Nat → Prop} {w x : World} {g o : Nat} (h : Only S w x) (hg : g < w.heap.size) (hs : ¬ S g) : x.cell? ⟨g, o, none⟩ = w.cell? ⟨g, o, none⟩ := World.cell?_of_block (w := w) (a := ⟨g, o, none⟩) (h.block g hg hs)
theorem only_frozen {S : Nat → Prop} {w x : World} {g o : Nat} (h : Only S w x) (hg : g < w.heap.size) (hs : ¬ S g) : x.frozen? ⟨g, o, none⟩ = w.frozen? ⟨g, o, none⟩ := World.frozen?_of_block (w := w) (a := ⟨g, o, none⟩) (h.block g hg hs)
/-- What the round at transaction n finds and leaves. -/
theorem OwnTxs.step {col : Nat → Nat} {B g l cc n : Nat} {w : World} {ts : List Tx} {t : Tx} (h : OwnTxs col w B (.slice (some ⟨g, 0, none⟩) l cc) ts) (hn : n < ts.length) (ht : ts[n] = t) :
    ∃ a b, TxOf col (n + 2) w B a b t ∧ (∀ x, Only (Hue col (n + 2)) w x → x.cell? ⟨g, n * 3, none⟩ = some a ∧ x.cell? ⟨g, n * 3 + 1, none⟩ = some b ∧ x.cell? ⟨g, n * 3 + 2, none⟩ = some (.int .i64 t.d) ∧ ∀ o, x.frozen? ⟨g, o, none⟩ = false) ∧ col g = 1 ∧ g < w.heap.size ∧
      ∀ x (t' : Tx), t'.d = t.d → TxOf col (n + 2) x B a b t' → Only (Hue col (n + 2)) w x → OwnTxs col x B (.slice (some ⟨g, 0, none⟩) l cc) (ts.set n t') := by
  obtain rfl := h.len_
  subst ht
  obtain ⟨xs, h1, h2, h3⟩ := h
  have hl : xs.length = ts.length * 3 := h1.1
  obtain ⟨a, b, q0, q1, q2, q3⟩ := h2 n hn
  have hgl := (World.ownsRow.lt h1 g rfl).2
  have hg1 : col g = 1 := h3 g rfl
  have hns : ¬ Hue col (n + 2) g := fun e => by
    have : col g = n + 2 := e
    omega
  refine ⟨a, b, q3, fun x hx => ⟨(only_cell hx hgl hns).trans ((World.ownsRow.cellAt h1 _ (by omega)).trans q0), (only_cell hx hgl hns).trans ((World.ownsRow.cellAt h1 _ (by omega)).trans q1), (only_cell hx hgl hns).trans ((World.ownsRow.cellAt h1 _ (by omega)).trans q2), fun o => (only_frozen hx hgl hns).trans (World.ownsRow.frozenAt h1 o)⟩, hg1, hgl, fun x t' hd hx hO => ?_⟩
  have hrow : x.ownsRow B 33 3 (.slice (some ⟨g, 0, none⟩) ts.length cc) ts.length xs := row_same h1 fun q hq => hO.block q (World.ownsRow.lt h1 q hq).2 (by
    have e : g = q := by simpa [Value.ownBlock] using hq
    rw [← e]
    exact hns)
  refine ⟨xs, by rw [List.length_set]; exact hrow, fun j hj => ?_, h3⟩
  have hj' : j < ts.length := by rw [List.length_set] at hj; exact hj
  rw [List.getElem_set]
  by_cases e : n = j
  · subst e
    rw [if_pos rfl]
    exact ⟨a, b, q0, q1, by rw [hd]; exact q2, hx⟩
  · rw [if_neg e]
    obtain ⟨a2, b2, r0, r1, r2, r3⟩ := h2 j hj'
    exact ⟨a2, b2, r0, r1, r2, r3.other hO fun i hi e9 => by have : col i = n + 2 := e9; omega⟩
theorem OwnTxs.dec_ {col : Nat → Nat} {w : World} {B g l c n : Nat} {ts : List Tx} {t : Tx} (h : OwnTxs col w B (.slice (some ⟨g, 0, none⟩) l c) ts) (hn : n < ts.length) (ht : ts[n] = t) (x : Int) :
    OwnTxs col (w.setCell ⟨g, n * 3 + 2, none⟩ (.int .i64 x)) B (.slice (some ⟨g, 0, none⟩) l c) (ts.set n ⟨t.ps, t.vs, x⟩) := by
  obtain rfl := h.len_
  subst ht
  exact (h.dec hn x).2.2
theorem OwnTxs.head {col : Nat → Nat} {B l cc : Nat} {w : World} {A : Option Addr} {ts : List Tx} (h : OwnTxs col w B (.slice A l cc) ts) (hp : 0 < ts.length) : ∃ g, A = some ⟨g, 0, none⟩ := by
  obtain rfl := h.len_
  obtain ⟨xs, h1, -⟩ := h
  obtain ⟨g, cap, e, -⟩ := World.ownsRow.form h1 hp
  injection e with e
  exact ⟨g, e⟩
/-- Behind the marks on transactions. -/
def TsMarked (col : Nat → Nat) (B k : Nat) (v : Value) (ts : List Tx) (w : World) (e : Ending) (w' : World) : Prop := e = .returned (.int .i64 ((k + zTs ts : Nat) : Int)) ∧ OwnTxs col w' B v (mkTs k ts) ∧ Only (fun g => 1 ≤ col g ∧ col g < ts.length + 2) w w'
set_option maxRecDepth 100000 in
set_option maxHeartbeats 4000000 in
theorem markTxnS_C (col : Nat → Nat) (B k : Nat) (v : Value) (ts : List Tx) (w : World) (h : OwnTxs col w B v ts) (hm : ts.length ≤ 1048576) (hps : ∀ t ∈ ts, t.ps.length ≤ 1048576 ∧ t.vs.length ≤ 1048576) (hus : ∀ t ∈ ts, ∀ p ∈ t.ps, p.us.length ≤ 1048576) (h1 : 1 ≤ k) (hk : k + zTs ts ≤ 4000000) :
    Calls Try.prog 55 #[v, .int .i64 (k : Int)] w (TsMarked col B k v ts w) := by
  have HKM : Hid (∀ m, m ≤ ts.length → k + preS tZ ts m ≤ 4000000) := fun m hm => by
    have := preS_mono (f := tZ) (l := ts) (i := m) ts.length hm (Nat.le_refl _)
    unfold zTs at hk
    omega
  have HLN := hid (mkTs_length k ts)
  obtain ⟨A, cc, rfl, -, -⟩ := h.form
  by_cases h0 : ts.length = 0
  · have e : ts = [] := List.eq_nil_of_length_eq_zero h0
    subst e
    have hz : Hid (TsMarked col B k (.slice A 0 cc) [] w (.returned (.int .i64 (k : Int))) w) := ⟨rfl, h, Only.refl _ _⟩
    clear h HKM HLN hk hps hus hm
    go_enter Try.func55, Try.ntmps55
    go_wp2_with fail
    go_loopw [1, 5] (fun q i wr => i = .int .i64 0 ∧ q = .int .i64 (k : Int) ∧ w = wr) (fun _ _ _ => 0)
    case atStart => exact ⟨rfl, rfl, rfl⟩
    case round =>
      obtain ⟨rfl, rfl, rfl⟩ := hrel
      go_wp2
      go_ret
      exact hz.out
  · obtain ⟨g, rfl⟩ := h.head (by omega)
    have HP := hid hps
    have HU := hid hus
    have hX : OwnTxs col w B (.slice (some ⟨g, 0, none⟩) ts.length cc) (mixL (mkTs k ts) ts 0) := by rw [mixL_zero]; exact h
    clear hk hus hps h
    go_enter Try.func55, Try.ntmps55
    go_wp2_with fail
    go_loopw [1, 5] (fun q i wr => ∃ m K : Nat, m ≤ ts.length ∧ i = .int .i64 m ∧ q = .int .i64 (K : Nat) ∧ K ≤ 4000000 ∧ 1 ≤ K ∧ Hid (K = k + preS tZ ts m) ∧ OwnTxs col wr B (.slice (some ⟨g, 0, none⟩) ts.length cc) (mixL (mkTs k ts) ts m) ∧ Only (fun g => 1 ≤ col g ∧ col g < ts.length + 2) w wr) (fun _ i _ => ts.length - (intOf i).toNat)
    case atStart => exact ⟨0, k, Nat.zero_le _, rfl, rfl, by have := HKM.out 0 (Nat.zero_le _); rw [preS_zero] at this; omega, h1, by show _ = _; rw [preS_zero]; rfl, hX, Only.refl _ _⟩
    case round =>
      clear hX
      obtain ⟨m, K, hm9, rfl, rfl, hK1, hK2, HK, hX, hO⟩ := hrel
      by_cases hlt : m < ts.length
      · obtain ⟨t, ht⟩ : ∃ t, ts[m] = t := ⟨_, rfl⟩
        have hlm : m < (mixL (mkTs k ts) ts m).length := by rw [mixL_len HLN.out]; exact hlt
        obtain ⟨a, b, hT, hC, hg1, hgl, HN⟩ := hX.step hlm ((mixL_at HLN.out hlt hlm).trans ht)
        have hk2 := HKM.out (m + 1) (by omega)
        have hks := preS_succ (f := tZ) hlt
        have hpl := HP.out t (by rw [← ht]; exact List.getElem_mem hlt)
        have hul := HU.out t (by rw [← ht]; exact List.getElem_mem hlt)
        have HST : Hid ((mixL (mkTs k ts) ts m).set m (mkT K t) = mixL (mkTs k ts) ts (m + 1)) := by
          show _ = _
          rw [← mixL_set HLN.out hlt, mkTs_get hlt, ← HK.out, ht]
        have HKS : Hid (k + preS tZ ts (m + 1) = K + zPs t.ps + t.vs.length + 1) := by
          show _ = _
          rw [hks, ht, HK.out]
          unfold tZ
          omega
        rw [HKS.out] at hk2
        have k0 : 0 ≤ (m : Int) := by omega
        have k1 : (m : Int) < (ts.length : Int) := by omega
        have HNN := hid HN
        have HCC := hid hC
        have hHue : ∀ q, Hue col (m + 2) q → 1 ≤ col q ∧ col q < ts.length + 2 := fun q hq => by
          have : col q = m + 2 := hq
          omega
        have HHU := hid hHue
        have CP := hid (markPartS_C col (m + 2) B K a t.ps wr hT.1 hpl.1 hul hK2 (by omega))
        obtain ⟨A1, c1, A2, c2, rfl, rfl, -⟩ := hT.form
        obtain ⟨c0, c1', c2', cf⟩ := hC wr (Only.refl _ _)
        have HTT := hid hT
        have HML := hid hlm
        clear HN hX hC hks ht hlm hHue hT hul
        go_wp2_with fail
        refine CP.out.mono ?_
        rintro e w2 ⟨rfl, hP2, hO2, hI2⟩
        clear c0 c1' c2' cf CP
        obtain ⟨c0, c1', c2', cf⟩ := HCC.out w2 hO2
        have hV2 : OwnI w2 B (.slice A2 t.vs.length c2) t.vs := hI2 _ _ _ _ _ HTT.out.2.1
        have CI := hid (markInts_C col (m + 2) B (K + zPs t.ps) (.slice A2 t.vs.length c2) t.vs w2 hV2 HTT.out.2.2 hpl.2 (by omega))
        go_wp2_with fail
        refine CI.out.mono ?_
        rintro e w3 ⟨rfl, hV3, hO3, row, hg3, hr3⟩
        clear c0 c1' c2' cf CI
        have hP3 := hP2.keptI hg3 hr3
        have hO4 := hO2.trans hO3
        obtain ⟨c0, c1', c2', cf⟩ := HCC.out w3 hO4
        have hT3 : TxOf col (m + 2) w3 B (.slice A1 t.ps.length c1) (.slice A2 t.vs.length c2) ⟨mkPs K t.ps, marks ((K + zPs t.ps : Nat) : Int) t.vs.length, t.d⟩ := ⟨hP3, hV3, HTT.out.2.2⟩
        have hX3 := HNN.out w3 ⟨mkPs K t.ps, marks ((K + zPs t.ps : Nat) : Int) t.vs.length, t.d⟩ rfl hT3 hO4
        have hlm3 : m < ((mixL (mkTs k ts) ts m).set m ⟨mkPs K t.ps, marks ((K + zPs t.ps : Nat) : Int) t.vs.length, t.d⟩).length := by rw [List.length_set]; exact HML.out
        have hX4 := hX3.dec_ hlm3 (by rw [List.getElem_set_self]) ((K + zPs t.ps + t.vs.length : Nat) : Int)
        rw [List.set_set] at hX4
        have hX5 : OwnTxs col (w3.setCell ⟨g, m * 3 + 2, none⟩ (.int .i64 ((K + zPs t.ps + t.vs.length : Nat) : Int))) B (.slice (some ⟨g, 0, none⟩) ts.length cc) (mixL (mkTs k ts) ts (m + 1)) := by
          rw [← HST.out]
          exact hX4
        have hO5 : Only (fun g => 1 ≤ col g ∧ col g < ts.length + 2) w (w3.setCell ⟨g, m * 3 + 2, none⟩ (.int .i64 ((K + zPs t.ps + t.vs.length : Nat) : Int))) := (hO.trans (hO4.mono HHU.out)).set_ ⟨by omega, by omega⟩ _ _
        have cf2 := cf (m * 3 + 2)
        have HK3 : Hid (K + zPs t.ps + t.vs.length + 1 = k + preS tZ ts (m + 1)) := by show _ = _; rw [HKS.out]
        clear HNN HCC HTT hP2 hO2 hI2 hV2 hV3 hO3 hg3 hr3 hP3 hO4 hT3 hX3 hlm3 hX4 hO cf HST HML
        go_wp2_with fail
        go_roundw
        case rel => exact ⟨m + 1, K + zPs t.ps + t.vs.length + 1, by omega, by go_num, by congr 1, by omega, by omega, HK3, hX5, hO5⟩
        case measure => simp [intOf]; omega
      · have hm' : m = ts.length := by omega
        subst hm'
        rw [mixL_done HLN.out] at hX
        go_wp2
        go_ret
        exact ⟨by rw [HK.out]; rfl, hX, hO⟩

/-! ### Coordinators. -/
/-- Blocks from B up to D keep their colours; all others get the colour n. -/
def band (B D n : Nat) (col : Nat → Nat) : Nat → Nat := fun g => if B ≤ g ∧ g < D then col g else n
theorem band_col {w : World} {col : Nat → Nat} {B sz n c m : Nat} {e : TypeId} {v : Value} {xs : List Value} (h : w.ownsRow B e sz v n xs) (hc : ColV col c v) : ColV (band B w.heap.size m col) c v := fun g hg => by
  unfold band
  rw [if_pos ⟨(World.ownsRow.lt h g hg).1, (World.ownsRow.lt h g hg).2⟩]
  exact hc g hg
/-- Behind the marks on coordinators. -/
def CMarked (B D k : Nat) (v : Value) (q : Crd) (w : World) (e : Ending) (w' : World) : Prop := e = .returned (.int .i64 ((k + zC q : Nat) : Int)) ∧ (∃ col, OwnCr col w' B v (mkC k q)) ∧ OnlyBD B D w w'
set_option maxRecDepth 100000 in
set_option maxHeartbeats 4000000 in
theorem markCoordinator_D (col : Nat → Nat) (B k : Nat) (v : Value) (q : Crd) (wx w : World) (h : OwnCr col wx B v q) (hb : Keeps B wx w) (hf : FitC q) (h1 : 1 ≤ k) (hk : k + zC q ≤ 4000000) :
    Calls Try.prog 29 #[v, .int .i64 (k : Int)] w (CMarked B wx.heap.size k v q w) := by
  have hf1 := hf.ts
  have hf2 := hf.os
  have hf3 := hf.ps
  have hf4 := hf.us
  obtain ⟨co, hco⟩ : ∃ co, band B wx.heap.size (q.ts.length + 2) col = co := ⟨_, rfl⟩
  have hB0 : OwnCr co wx B v q := by
    rw [← hco]
    exact h.map (fun _ _ _ _ _ _ _ hr hc => ⟨hr, band_col hr hc⟩) fun _ _ _ _ hr hc => ⟨hr, band_col hr hc⟩
  have hcS : ∀ g, co g < q.ts.length + 2 → B ≤ g ∧ g < wx.heap.size := fun g hg => by
    rw [← hco] at hg
    unfold band at hg
    by_cases e : B ≤ g ∧ g < wx.heap.size
    · exact e
    · rw [if_neg e] at hg
      omega
  have hB1 := hB0.keep hb
  obtain ⟨A, c1, A2, c2, rfl, -, -, -, -, hT, hI, hc0⟩ := hB1.form
  unfold crV at *
  have al := (Below.refl w.heap.size w).alloc (Nat.le_refl _) (.cells #[.slice A q.ts.length c1, .slice A2 q.os.length c2] 26)
  have x0 := Blk2s.new_ w 26 (.slice A q.ts.length c1) (.slice A2 q.os.length c2)
  have HC := hid hcS
  have hz : k + zTs q.ts ≤ 4000000 := by unfold zC at hk; omega
  have hDw : wx.heap.size ≤ w.heap.size := hb.1
  clear h hB0 hB1 hcS hco hb hf
  go_enter Try.func29, Try.ntmps29
  go_upto_region 1 with fail
  obtain ⟨w1, hw1⟩ : ∃ x, w.alloc (.cells #[.slice A q.ts.length c1, .slice A2 q.os.length c2] 26) = x := ⟨_, rfl⟩
  rw [hw1] at al x0 ⊢
  clear hw1
  have hT1 := hT.below al
  have hI1 := hI.below al (Nat.le_refl _)
  have CT := hid (markTxnS_C co B k (.slice A q.ts.length c1) q.ts w1 hT1 hf1 hf3 hf4 h1 hz)
  have hO0 : OnlyBD B wx.heap.size w w1 := OnlyBD.of_below al
  obtain ⟨y0, y1, -⟩ := id x0.reads
  clear hT hI al hf3 hf4
  go_wp2_with fail
  refine CT.out.mono ?_
  rintro e w2 ⟨rfl, hT2, hO2⟩
  have hI2 : OwnI w2 B (.slice A2 q.os.length c2) q.os := row_same hI1 fun g hg => hO2.block g (World.ownsRow.lt hI1 g hg).2 (by
    have := hc0 g hg
    omega)
  have x2 : Blk2s w2 w.heap.size 26 (.slice A q.ts.length c1) (.slice A2 q.os.length c2) := (hO2.block _ x0.lt fun hs => by
    have := HC.out _ hs.2
    omega).trans x0
  have CI := hid (markInts_C co 0 B (k + zTs q.ts) (.slice A2 q.os.length c2) q.os w2 hI2 hc0 hf2 hz)
  clear y0 y1 x0 CT hT1 hI1 hI2
  obtain ⟨y0, y1, -⟩ := id x2.reads
  go_wp2_with fail
  refine CI.out.mono ?_
  rintro e w3 ⟨rfl, hI3, hO3, -⟩
  have hT3 := hT2.other hO3 fun g hg hs => by
    have : co g = 0 := hs
    omega
  have hO4 : OnlyBD B wx.heap.size w w3 := (hO0.trans (OnlyBD.of_only hO2 fun g hg _ => HC.out g hg.2)).trans (OnlyBD.of_only hO3 fun g hg _ => HC.out g (by have : co g = 0 := hg; omega))
  have e1 : (mkTs k q.ts).length = q.ts.length := mkTs_length _ _
  have hR : Hid (CMarked B wx.heap.size k (.agg #[.slice A q.ts.length c1, .slice A2 q.os.length c2]) q w (.returned (.int .i64 ((k + zTs q.ts + q.os.length : Nat) : Int))) w3) := by
    refine ⟨?_, ⟨co, _, _, rfl, hT3, hI3, hc0⟩, hO4⟩
    unfold zC
    rw [Nat.add_assoc]
  clear CI y0 y1 x2 hT2 hO2 hI3 hO3 hT3 hO4
  go_wp2
  go_ret
  exact hR.out
/-- Behind the marks on parts. -/
def PMarked (B D k : Nat) (v : Value) (ps : List Part) (w : World) (e : Ending) (w' : World) : Prop := e = .returned (.int .i64 ((k + zPs ps : Nat) : Int)) ∧ (∃ col c, OwnPs col c w' B v (mkPs k ps)) ∧ OnlyBD B D w w'
theorem markPartS_D (col : Nat → Nat) (c B k : Nat) (v : Value) (ps : List Part) (wx w : World) (h : OwnPs col c wx B v ps) (hb : Keeps B wx w) (hm : ps.length ≤ 1048576) (hu : ∀ p ∈ ps, p.us.length ≤ 1048576) (h1 : 1 ≤ k) (hk : k + zPs ps ≤ 4000000) :
    Calls Try.prog 75 #[v, .int .i64 (k : Int)] w (PMarked B wx.heap.size k v ps w) := by
  have hB0 : OwnPs (band B wx.heap.size 1 (fun _ => 0)) 0 wx B v ps := h.map fun _ _ _ _ _ _ hr hc => ⟨hr, band_col hr fun _ _ => rfl⟩
  refine (markPartS_C _ 0 B k v ps w (hB0.keep hb) hm hu h1 hk).mono ?_
  rintro e w' ⟨he, ho, hO, -⟩
  refine ⟨he, ⟨_, _, ho⟩, OnlyBD.of_only hO fun g hg _ => ?_⟩
  have e2 : band B wx.heap.size 1 (fun _ => 0) g = 0 := hg
  unfold band at e2
  by_cases e : B ≤ g ∧ g < wx.heap.size
  · exact e
  · rw [if_neg e] at e2
    omega
end Go.Proofs.Ytjplondblkkpmaa
namespace Go.Proofs.Ytjplondblkkpmaa
open Go.RowKit Wo Pu Rf Co
set_option linter.unusedVariables false
set_option linter.unusedSimpArgs false

end Go.Proofs.Ytjplondblkkpmaa
/- Laws on coordinators: a coordinator is boxed. -/
/- On to the world behind D. -/
/- An exact law begins: the argument's box, its size, a copy for the model. -/
/- The program's own copy of the argument is boxed. -/
/- The program's copy is as the argument; the region draws. -/
/- Laws on functions that answer numbers. -/
/- What the boxes hold is read again. -/
/- The coordinator with the slices P4 and P5 is boxed as P6, in block P7, behind it the world P3; ahead of region P1. -/
/- The draw, the program's answer, the model's, and that they are the same: behind it w5, all facts on it by way of dx. -/
/-
  Walks: comparisons of parts, transactions and coordinators by the laws' own helpers.
-/
namespace Go.Proofs.Ytjplondblkkpmaa
open Go.RowKit Wo Pu Rf Co
set_option linter.unusedVariables false
set_option linter.unusedSimpArgs false

set_option maxHeartbeats 4000000 in
theorem eqPart_is (A A' : Option Addr) (c c' : Nat) (p : Part) (w : World) (B : Nat) (hr : Row w B A (upsV p.us)) (hr' : Row w B A' (upsV p.us)) (hB : B ≤ w.heap.size) (hm : p.us.length ≤ 1048576) :
    Calls Try.prog 95 #[.agg #[.int .i64 p.s, .slice A p.us.length c], .agg #[.int .i64 p.s, .slice A' p.us.length c']] w (Ret (.bool true) w) := by
  go_enter Try.func95, Try.ntmps95
  have al := ((Below.refl w.heap.size w).alloc (Nat.le_refl _) (.cells #[.int .i64 p.s, .slice A p.us.length c] 36)).alloc (by simp) (.cells #[.int .i64 p.s, .slice A' p.us.length c'] 36)
  have CU := hid (fun x (hx : Below w.heap.size w x) => eqUpdateS_same A A' c c' p.us x ((hr.below hx hB).more (Nat.le_trans hB hx.size)) ((hr'.below hx hB).more (Nat.le_trans hB hx.size)) hm)
  obtain ⟨w1, hw1⟩ : ∃ w1, (w.alloc (.cells #[.int .i64 p.s, .slice A p.us.length c] 36)).alloc (.cells #[.int .i64 p.s, .slice A' p.us.length c'] 36) = w1 := ⟨_, rfl⟩
  have x0 := (Blk2s.new_ w 36 (.int .i64 p.s) (.slice A p.us.length c)).alloc (.cells #[.int .i64 p.s, .slice A' p.us.length c'] 36)
  have x1 := Blk2s.new_ (w.alloc (.cells #[.int .i64 p.s, .slice A p.us.length c] 36)) 36 (.int .i64 p.s) (.slice A' p.us.length c')
  rw [World.size_alloc] at x1
  rw [hw1] at al x0 x1
  obtain ⟨y0, y1, -⟩ := id x0.reads
  obtain ⟨z0, z1, -⟩ := id x1.reads
  go_wp2_with fail
  refine (CU.out w1 al).mono ?_
  rintro e w2 ⟨rfl, d2⟩
  clear y0 y1 z0 z1 hw1
  go_wp2
  go_ret
  exact ⟨rfl, al.trans (d2.mono al.size)⟩
set_option maxRecDepth 100000 in
set_option maxHeartbeats 4000000 in
theorem eqPartS_is (A A' : Option Addr) (c c' : Nat) (ps : List Part) (w : World) (h : Parts w w.heap.size A ps) (h' : Parts w w.heap.size A' ps) (hm : ps.length ≤ 1048600) (hu : ∀ p ∈ ps, p.us.length ≤ 1048576) :
    Calls Try.prog 89 #[.slice A ps.length c, .slice A' ps.length c'] w (Ret (.bool true) w) := by
  have HU := hid hu
  clear hu
  go_enter Try.func89, Try.ntmps89
  go_wp2_with fail
  go_loopw [5] (fun i wr => ∃ k : Nat, k ≤ ps.length ∧ i = .int .i64 k ∧ Below w.heap.size w wr) (fun i _ => ps.length - (intOf i).toNat)
  case atStart => exact ⟨0, Nat.zero_le _, rfl, Below.refl _ _⟩
  case round =>
    obtain ⟨k, hk, rfl, hb⟩ := hrel
    have hz := hb.size
    by_cases hlt : k < ps.length
    · obtain ⟨p, ad, A1, c1, ho, rfl, ha, g0, g1, -, g3⟩ := (h.on hb).part hlt
      obtain ⟨p', ad', A2, c2, ho', rfl, ha', g0', g1', -, g3'⟩ := (h'.on hb).part hlt
      obtain rfl : p' = p := ho'.symm.trans ho
      have hul := HU.out p' (by rw [← ho]; exact List.getElem_mem hlt)
      have k0 : (0 : Int) ≤ (k : Int) := by omega
      have k1 : (k : Int) < (ps.length : Int) := by omega
      have L0 := Later.cell g0 ha
      have L1 := Later.cell (p := ⟨(ad.add (k * 2)).block, (ad.add (k * 2)).off + 1, none⟩) g1 ha
      have L2 := Later.cell g0' ha'
      have L3 := Later.cell (p := ⟨(ad'.add (k * 2)).block, (ad'.add (k * 2)).off + 1, none⟩) g1' ha'
      have CU : Hid (∀ x, wr.heap.size ≤ x.heap.size → Row x wr.heap.size A1 (upsV p'.us) → Row x wr.heap.size A2 (upsV p'.us) → Calls Try.prog 95 #[.agg #[.int .i64 p'.s, .slice A1 p'.us.length c1], .agg #[.int .i64 p'.s, .slice A2 p'.us.length c2]] x (Ret (.bool true) x)) := fun x hx r1 r2 => eqPart_is A1 A2 c1 c2 p' x wr.heap.size r1 r2 hx hul
      clear g0 g1 g0' g1' ho ho'
      go_wp2_with fail
      refine wp_region_later wr.heap.size (by kernel_rfl) (by kernel_rfl) ?_
      repeat (go_big_quiet_step ((go_at_call 95; exact Later.call (Nat.le_refl _) _ (CU.out _ (Later.size (Nat.le_refl _) _) (RowC.later g3 _) (RowC.later g3' _)))))
      refine wpQuiet_nil ?_
      intro _ hw'
      obtain ⟨xx, hxx⟩ := hw'
      have hbx := xx.b
      subst hxx
      go_wp2
      go_roundw
      case rel => exact ⟨k + 1, by omega, by go_num, hb.trans (hbx.mono hz)⟩
      case measure => simp [intOf]; omega
    · have hk' : k = ps.length := by omega
      subst hk'
      go_wp2
      go_ret
      exact .mk_ hb
set_option maxRecDepth 100000 in
set_option maxHeartbeats 4000000 in
theorem eqTxn_is (A A' B B' : Option Addr) (c c' e e' : Nat) (t : Tx) (w : World) (h : Parts w w.heap.size A t.ps) (h' : Parts w w.heap.size A' t.ps) (r : Row w w.heap.size B (ints t.vs)) (r' : Row w w.heap.size B' (ints t.vs)) (hm : t.ps.length ≤ 1048576) (hu : ∀ p ∈ t.ps, p.us.length ≤ 1048576) (hv : t.vs.length ≤ 1048576) :
    Calls Try.prog 74 #[.agg #[.slice A t.ps.length c, .slice B t.vs.length e, .int .i64 t.d], .agg #[.slice A' t.ps.length c', .slice B' t.vs.length e', .int .i64 t.d]] w (Ret (.bool true) w) := by
  have al := ((Below.refl w.heap.size w).alloc (Nat.le_refl _) (.cells #[.slice A t.ps.length c, .slice B t.vs.length e, .int .i64 t.d] 33)).alloc (by simp) (.cells #[.slice A' t.ps.length c', .slice B' t.vs.length e', .int .i64 t.d] 33)
  have x0 := (Blk3s.new_ w 33 (.slice A t.ps.length c) (.slice B t.vs.length e) (.int .i64 t.d)).alloc (.cells #[.slice A' t.ps.length c', .slice B' t.vs.length e', .int .i64 t.d] 33)
  have x1 := Blk3s.new_ (w.alloc (.cells #[.slice A t.ps.length c, .slice B t.vs.length e, .int .i64 t.d] 33)) 33 (.slice A' t.ps.length c') (.slice B' t.vs.length e') (.int .i64 t.d)
  rw [World.size_alloc] at x1
  go_enter Try.func74, Try.ntmps74
  go_upto_region 1 with fail
  obtain ⟨w1, hw1⟩ : ∃ w1, (w.alloc (.cells #[.slice A t.ps.length c, .slice B t.vs.length e, .int .i64 t.d] 33)).alloc (.cells #[.slice A' t.ps.length c', .slice B' t.vs.length e', .int .i64 t.d] 33) = w1 := ⟨_, rfl⟩
  rw [hw1] at al x0 x1 ⊢
  clear hw1
  have CP := hid (eqPartS_is A A' c c' t.ps w1 (h.on al) (h'.on al) (by omega) hu)
  obtain ⟨y0, y1, y2, -⟩ := id x0.reads
  obtain ⟨z0, z1, z2, -⟩ := id x1.reads
  go_wp2_with fail
  refine CP.out.mono ?_
  rintro e2 w2 ⟨rfl, d⟩
  replace al := al.trans (d.mono al.size)
  replace x0 := x0.later d
  replace x1 := x1.later d
  clear CP y0 y1 y2 z0 z1 z2 d
  have CI := hid (eqIntS_ret B B' e e' t.vs w2 _ _ (r.below al (Nat.le_refl _)) (r'.below al (Nat.le_refl _)) (by unfold maxLen; omega))
  obtain ⟨y0, y1, y2, -⟩ := id x0.reads
  obtain ⟨z0, z1, z2, -⟩ := id x1.reads
  go_wp2_with fail
  refine CI.out.mono ?_
  rintro e2 w3 ⟨rfl, d⟩
  replace al := al.trans (d.mono al.size)
  replace x0 := x0.later d
  replace x1 := x1.later d
  clear CI y0 y1 y2 z0 z1 z2 d
  obtain ⟨y0, y1, y2, -⟩ := id x0.reads
  obtain ⟨z0, z1, z2, -⟩ := id x1.reads
  go_wp2
  go_ret
  exact .mk_ al
set_option maxRecDepth 100000 in
set_option maxHeartbeats 8000000 in
theorem eqTxnS_is (A A' : Option Addr) (c c' : Nat) (ts : List Tx) (w : World) (h : Txs w w.heap.size A ts) (h' : Txs w w.heap.size A' ts) (hm : ts.length ≤ 1048576) (hps : ∀ t ∈ ts, t.ps.length ≤ 1048576 ∧ t.vs.length ≤ 1048576) (hus : ∀ t ∈ ts, ∀ p ∈ t.ps, p.us.length ≤ 1048576) :
    Calls Try.prog 54 #[.slice A ts.length c, .slice A' ts.length c'] w (Ret (.bool true) w) := by
  have HP := hid hps
  have HU := hid hus
  clear hps hus
  go_enter Try.func54, Try.ntmps54
  go_wp2_with fail
  go_loopw [5] (fun i wr => ∃ k : Nat, k ≤ ts.length ∧ i = .int .i64 k ∧ Below w.heap.size w wr) (fun i _ => ts.length - (intOf i).toNat)
  case atStart => exact ⟨0, Nat.zero_le _, rfl, Below.refl _ _⟩
  case round =>
    obtain ⟨k, hk, rfl, hb⟩ := hrel
    have hz := hb.size
    by_cases hlt : k < ts.length
    · obtain ⟨t, ad, A1, c1, B1, e1, ho, rfl, ha, g0, g1, g2, -, -, g5, g6⟩ := (h.on hb).tx hlt
      obtain ⟨t', ad', A1', c1', B1', e1', ho', rfl, ha', g0', g1', g2', -, -, g5', g6'⟩ := (h'.on hb).tx hlt
      obtain rfl : t' = t := ho'.symm.trans ho
      have hps := HP.out t' (by rw [← ho]; exact List.getElem_mem hlt)
      have hus := HU.out t' (by rw [← ho]; exact List.getElem_mem hlt)
      have k0 : (0 : Int) ≤ (k : Int) := by omega
      have k1 : (k : Int) < (ts.length : Int) := by omega
      have L0 := Later.cell g0 ha
      have L1 := Later.cell (p := ⟨(ad.add (k * 3)).block, (ad.add (k * 3)).off + 1, none⟩) g1 ha
      have L2 := Later.cell (p := ⟨(ad.add (k * 3)).block, (ad.add (k * 3)).off + 2, none⟩) g2 ha
      have L3 := Later.cell g0' ha'
      have L4 := Later.cell (p := ⟨(ad'.add (k * 3)).block, (ad'.add (k * 3)).off + 1, none⟩) g1' ha'
      have L5 := Later.cell (p := ⟨(ad'.add (k * 3)).block, (ad'.add (k * 3)).off + 2, none⟩) g2' ha'
      have CE : Hid (∀ x, wr.heap.size ≤ x.heap.size → Parts x wr.heap.size A1 t'.ps → Parts x wr.heap.size A1' t'.ps → Row x wr.heap.size B1 (ints t'.vs) → Row x wr.heap.size B1' (ints t'.vs) → Calls Try.prog 74 #[.agg #[.slice A1 t'.ps.length c1, .slice B1 t'.vs.length e1, .int .i64 t'.d], .agg #[.slice A1' t'.ps.length c1', .slice B1' t'.vs.length e1', .int .i64 t'.d]] x (Ret (.bool true) x)) := fun x hx p1 p2 r1 r2 => eqTxn_is A1 A1' B1 B1' c1 c1' e1 e1' t' x (p1.more hx) (p2.more hx) (r1.more hx) (r2.more hx) hps.1 hus hps.2
      clear g0 g1 g2 g0' g1' g2' ho ho' hus hps
      go_wp2_with fail
      refine wp_region_later wr.heap.size (by kernel_rfl) (by kernel_rfl) ?_
      repeat (go_big_quiet_step ((go_at_call 74; exact Later.call (Nat.le_refl _) _ (CE.out _ (Later.size (Nat.le_refl _) _) (Parts.later_ g5 _) (Parts.later_ g5' _) (RowC.later g6 _) (RowC.later g6' _)))))
      refine wpQuiet_nil ?_
      intro _ hw'
      obtain ⟨xx, hxx⟩ := hw'
      have hbx := xx.b
      subst hxx
      go_wp2
      go_roundw
      case rel => exact ⟨k + 1, by omega, by go_num, hb.trans (hbx.mono hz)⟩
      case measure => simp [intOf]; omega
    · have hk' : k = ts.length := by omega
      subst hk'
      go_wp2
      go_ret
      exact .mk_ hb
set_option maxRecDepth 100000 in
set_option maxHeartbeats 8000000 in
theorem eqCoordinator_is (v v' : Value) (q : Crd) (w : World) (h : Crdd w w.heap.size v q) (h' : Crdd w w.heap.size v' q) (hf : FitC q) :
    Calls Try.prog 28 #[v, v'] w (Ret (.bool true) w) := by
  have f1 := hf.ts
  have f2 := hf.os
  obtain ⟨A, c, A2, c2, rfl, hT, hc, hO, hc2⟩ := h
  obtain ⟨A', c', A2', c2', rfl, hT', hc', hO', hc2'⟩ := h'
  unfold crV
  have al := ((Below.refl w.heap.size w).alloc (Nat.le_refl _) (.cells #[.slice A q.ts.length c, .slice A2 q.os.length c2] 26)).alloc (by simp) (.cells #[.slice A' q.ts.length c', .slice A2' q.os.length c2'] 26)
  have x0 := (Blk2s.new_ w 26 (.slice A q.ts.length c) (.slice A2 q.os.length c2)).alloc (.cells #[.slice A' q.ts.length c', .slice A2' q.os.length c2'] 26)
  have x1 := Blk2s.new_ (w.alloc (.cells #[.slice A q.ts.length c, .slice A2 q.os.length c2] 26)) 26 (.slice A' q.ts.length c') (.slice A2' q.os.length c2')
  rw [World.size_alloc] at x1
  go_enter Try.func28, Try.ntmps28
  go_upto_region 1 with fail
  obtain ⟨w1, hw1⟩ : ∃ w1, (w.alloc (.cells #[.slice A q.ts.length c, .slice A2 q.os.length c2] 26)).alloc (.cells #[.slice A' q.ts.length c', .slice A2' q.os.length c2'] 26) = w1 := ⟨_, rfl⟩
  rw [hw1] at al x0 x1 ⊢
  clear hw1
  have CT := hid (eqTxnS_is A A' c c' q.ts w1 (hT.on al) (hT'.on al) f1 hf.ps hf.us)
  obtain ⟨y0, y1, -⟩ := id x0.reads
  obtain ⟨z0, z1, -⟩ := id x1.reads
  go_wp2_with fail
  refine CT.out.mono ?_
  rintro e w2 ⟨rfl, d⟩
  replace al := al.trans (d.mono al.size)
  replace x0 := x0.later d
  replace x1 := x1.later d
  clear CT y0 y1 z0 z1 d
  have CO := hid (eqIntS_ret A2 A2' c2 c2' q.os w2 _ _ (hO.below al (Nat.le_refl _)) (hO'.below al (Nat.le_refl _)) (by unfold maxLen; omega))
  obtain ⟨y0, y1, -⟩ := id x0.reads
  obtain ⟨z0, z1, -⟩ := id x1.reads
  go_wp2_with fail
  refine CO.out.mono ?_
  rintro e w3 ⟨rfl, d⟩
  replace al := al.trans (d.mono al.size)
  go_wp2
  go_ret
  exact .mk_ al
end Go.Proofs.Ytjplondblkkpmaa
