/-
  Walks: sizes of parts, transactions and coordinators by the laws' own helpers; lists that are turned place by place.
-/
import Derived.Test.YtelmeknpmlbplaaG0C
import Derived.Test.YtelmeknpmlbplaaG2C
import Derived.Test.YtelmeknpmlbplaaG3C
import Derived.Test.YtelmeknpmlbplaaG5C
import Derived.Test.YtelmeknpmlbplaaG3D
import Derived.Test.YtelmeknpmlbplaaUpK
import Derived.Test.YtelmeknpmlbplaaRefW
import Derived.Test.YtelmeknpmlbplaaSameC
namespace Go.Proofs.Ytelmeknpmlbplaa
open Go.RowKit Wo Pu Rf Co
set_option linter.unusedVariables false
set_option linter.unusedSimpArgs false

/-! ### Lists that are turned place by place. -/
def mixL {α : Type} (xs zs : List α) (m : Nat) : List α := xs.take m ++ zs.drop m
section
variable {α : Type} {xs zs : List α} {m : Nat}
theorem mixL_zero (xs zs : List α) : mixL xs zs 0 = zs := by simp [mixL]
theorem mixL_len (h : xs.length = zs.length) (m : Nat) : (mixL xs zs m).length = zs.length := by
  unfold mixL
  rw [List.length_append, List.length_take, List.length_drop]
  omega
theorem mixL_done (h : xs.length = zs.length) : mixL xs zs zs.length = xs := by
  unfold mixL
  rw [← h, List.take_length, h, List.drop_length, List.append_nil]
theorem mixL_at (h : xs.length = zs.length) (hm : m < zs.length) (h2 : m < (mixL xs zs m).length) : (mixL xs zs m)[m] = zs[m] := by
  have e : (mixL xs zs m)[m]? = some zs[m] := by
    unfold mixL
    have e1 : (xs.take m).length = m := by rw [List.length_take]; omega
    rw [List.getElem?_append_right (by omega), e1, Nat.sub_self, List.getElem?_drop, Nat.add_zero, List.getElem?_eq_getElem hm]
  rw [List.getElem?_eq_getElem h2] at e
  injection e
theorem mixL_set (h : xs.length = zs.length) (hm : m < zs.length) : (mixL xs zs m).set m (xs[m]'(by omega)) = mixL xs zs (m + 1) := by
  unfold mixL
  have e1 : (xs.take m).length = m := by rw [List.length_take]; omega
  rw [List.set_append_right _ _ (by omega), e1, Nat.sub_self, List.drop_eq_getElem_cons hm, List.set_cons_zero, List.take_succ_eq_append_getElem (by omega), List.append_assoc]
  rfl
/-- Sums of the first places. -/
def preS (f : α → Nat) (l : List α) (k : Nat) : Nat := ((l.take k).map f).sum
theorem preS_zero (f : α → Nat) (l : List α) : preS f l 0 = 0 := by simp [preS]
theorem preS_succ {f : α → Nat} {l : List α} {k : Nat} (hk : k < l.length) : preS f l (k + 1) = preS f l k + f l[k] := by
  unfold preS
  rw [List.take_succ_eq_append_getElem hk, List.map_append, List.sum_append]
  simp
theorem preS_mono {f : α → Nat} {l : List α} {i : Nat} : ∀ k, i ≤ k → k ≤ l.length → preS f l i ≤ preS f l k := by
  intro k
  induction k with
  | zero => intro h _; rw [show i = 0 by omega]; exact Nat.le_refl _
  | succ k ih =>
    intro h1 h2
    rw [preS_succ (by omega)]
    rcases Nat.lt_or_ge k i with e | e
    · rw [show i = k + 1 by omega, preS_succ (by omega)]; exact Nat.le_refl _
    · have := ih e (by omega); omega
theorem preS_ge {f : α → Nat} {l : List α} {i : Nat} (hi : i < l.length) : f l[i] ≤ preS f l l.length := by
  have h1 := preS_mono (f := f) (l := l) (i := i + 1) l.length (by omega) (Nat.le_refl _)
  rw [preS_succ hi] at h1
  omega
theorem preS_le {f g : α → Nat} (h : ∀ a, f a ≤ g a) (l : List α) (k : Nat) : preS f l k ≤ preS g l k := by
  unfold preS
  generalize l.take k = l
  induction l with
  | nil => simp
  | cons a l ih => simp only [List.map_cons, List.sum_cons]; have := h a; omega
end
def uN (p : Part) : Nat := p.us.length
def allP (ps : List Part) : Nat := ps.length + preS uN ps ps.length
def tN (t : Tx) : Nat := allP t.ps + t.vs.length
def allT (ts : List Tx) : Nat := ts.length + preS tN ts ts.length
def allC (q : Crd) : Nat := allT q.ts + q.os.length
theorem allP_us {ps : List Part} {p : Part} (hp : p ∈ ps) : p.us.length ≤ allP ps := by
  obtain ⟨i, hi, rfl⟩ := List.mem_iff_getElem.1 hp
  have := preS_ge (f := uN) hi
  unfold allP
  unfold uN at this ⊢
  omega
theorem allT_tN {ts : List Tx} {t : Tx} (ht : t ∈ ts) : tN t ≤ allT ts := by
  obtain ⟨i, hi, rfl⟩ := List.mem_iff_getElem.1 ht
  have := preS_ge (f := tN) hi
  unfold allT
  omega
theorem allC_fit {q : Crd} {m : Nat} (h : allC q ≤ m) (hm : m ≤ 1048576) : FitC q := by
  have h1 : q.ts.length ≤ allT q.ts := by unfold allT; omega
  unfold allC at h
  refine ⟨by omega, by omega, fun t ht => ?_, fun t ht p hp => ?_⟩
  · have h2 := allT_tN ht
    have h3 : t.ps.length ≤ allP t.ps := by unfold allP; omega
    unfold tN at h2
    omega
  · have h2 := allT_tN ht
    have h3 := allP_us hp
    unfold tN at h2
    omega
/-- Lists no longer than slices can be. -/
def WideP (ps : List Part) : Prop := ps.length ≤ maxLen ∧ ∀ p ∈ ps, p.us.length ≤ maxLen
def WideT (ts : List Tx) : Prop := ts.length ≤ maxLen ∧ ∀ t ∈ ts, WideP t.ps ∧ t.vs.length ≤ maxLen
def WideC (q : Crd) : Prop := WideT q.ts ∧ q.os.length ≤ maxLen
/-- The sizes: all fit, or not. -/
def SizedC (tot : Nat) (left : Int) (w : World) (e : Ending) (w' : World) : Prop := ∃ r : Int, e = .returned (.int .i64 r) ∧ (r = -1 ∨ (0 ≤ r ∧ r = left - tot)) ∧ Below w.heap.size w w'
theorem szInts_no (A : Option Addr) (n c : Nat) (left : Int) (w : World) (hn : n ≤ maxLen) (h0 : 0 ≤ left) (h1 : left ≤ 1048576) (h : left < n) :
    Calls Try.prog 76 #[.slice A n c, .int .i64 left] w (Same (.int .i64 (-1)) w) := by
  unfold maxLen at hn
  go_enter Try.func76, Try.ntmps76
  go_wp2
  go_ret
  exact ⟨rfl, rfl⟩
theorem szInts_yes (A : Option Addr) (n c : Nat) (left : Int) (w : World) (hn : n ≤ maxLen) (h0 : 0 ≤ left) (h1 : left ≤ 1048576) (h : n ≤ left) :
    Calls Try.prog 76 #[.slice A n c, .int .i64 left] w (Same (.int .i64 (left - n)) w) := by
  unfold maxLen at hn
  go_enter Try.func76, Try.ntmps76
  go_wp2
  go_ret
  exact ⟨rfl, rfl⟩
theorem szInts_any (A : Option Addr) (n c : Nat) (left : Int) (w : World) (hn : n ≤ maxLen) (h0 : 0 ≤ left) (h1 : left ≤ 1048576) :
    Calls Try.prog 76 #[.slice A n c, .int .i64 left] w (SizedC n left w) := by
  by_cases h : left < n
  · exact (szInts_no A n c left w hn h0 h1 h).mono fun _ _ ⟨e, hw⟩ => ⟨-1, e, .inl rfl, by subst hw; exact Below.refl _ _⟩
  · exact (szInts_yes A n c left w hn h0 h1 (by omega)).mono fun _ _ ⟨e, hw⟩ => ⟨_, e, .inr ⟨by omega, rfl⟩, by subst hw; exact Below.refl _ _⟩
theorem szUps_any (A : Option Addr) (n c : Nat) (left : Int) (w : World) (hn : n ≤ maxLen) (h0 : 0 ≤ left) (h1 : left ≤ 1048576) :
    Calls Try.prog 105 #[.slice A n c, .int .i64 left] w (SizedC n left w) := by
  by_cases h : left < n
  · exact (szUpdateS_no A n c left w hn h0 h1 h).mono fun _ _ ⟨e, hw⟩ => ⟨-1, e, .inl rfl, by subst hw; exact Below.refl _ _⟩
  · exact (szUpdateS_yes A n c left w hn h0 h1 (by omega)).mono fun _ _ ⟨e, hw⟩ => ⟨_, e, .inr ⟨by omega, rfl⟩, by subst hw; exact Below.refl _ _⟩
set_option maxHeartbeats 2000000 in
theorem szPart_any (A : Option Addr) (c : Nat) (p : Part) (left : Int) (w : World) (hn : p.us.length ≤ maxLen) (h0 : 0 ≤ left) (h1 : left ≤ 1048576) :
    Calls Try.prog 82 #[.agg #[.int .i64 p.s, .slice A p.us.length c], .int .i64 left] w (SizedC p.us.length left w) := by
  have b0 := (Below.refl w.heap.size w).alloc (Nat.le_refl _) (.cells #[.int .i64 p.s, .slice A p.us.length c] 104)
  have CY := hid fun x => szUps_any A p.us.length c left x hn h0 h1
  go_enter Try.func82, Try.ntmps82
  go_wp2_with fail
  refine (CY.out _).mono ?_
  rintro e w1 ⟨r, rfl, hr, d⟩
  have b1 := b0.trans (d.mono b0.size)
  rcases hr with rfl | ⟨r0, hr⟩
  · go_wp2
    go_ret
    exact ⟨-1, rfl, .inl rfl, b1⟩
  · have HR := hid hr
    clear hr
    go_wp2
    go_ret
    exact ⟨r, rfl, .inr ⟨r0, HR.out⟩, b1⟩
set_option maxHeartbeats 2000000 in
theorem szPartS_any (A : Option Addr) (c : Nat) (ps : List Part) (left : Int) (w : World) (h : Parts w w.heap.size A ps) (hf : WideP ps) (h0 : 0 ≤ left) (h1 : left ≤ 1048576) :
    Calls Try.prog 35 #[.slice A ps.length c, .int .i64 left] w (SizedC (allP ps) left w) := by
  obtain ⟨hn, hf⟩ := hf
  unfold maxLen at hn
  by_cases h2 : left < ps.length
  · go_enter Try.func35, Try.ntmps35
    go_wp2
    go_ret
    exact ⟨-1, rfl, .inl rfl, Below.refl _ _⟩
  · go_enter Try.func35, Try.ntmps35
    go_wp2_with fail
    go_loopw [1, 5] (fun l i wr => ∃ k : Nat, k ≤ ps.length ∧ i = .int .i64 k ∧ l = .int .i64 (left - ps.length - preS uN ps k) ∧ 0 ≤ left - ps.length - preS uN ps k ∧ Below w.heap.size w wr) (fun _ i _ => ps.length - (intOf i).toNat)
    case atStart => exact ⟨0, Nat.zero_le _, rfl, by simp [preS_zero], by simp [preS_zero]; omega, Below.refl _ _⟩
    case round =>
      obtain ⟨k, hk, rfl, rfl, hp, hb⟩ := hrel
      by_cases hlt : k < ps.length
      · have hsucc := hid (preS_succ (f := uN) hlt)
        obtain ⟨p, ad, A', c', hre, rfl, ha, g0, g1, -, -⟩ := (h.on hb).part hlt
        have hfk := hf p (by rw [← hre]; exact List.getElem_mem hlt)
        have k0 : 0 ≤ (k : Int) := by omega
        have k1 : (k : Int) < (ps.length : Int) := by omega
        have HSU : Hid (preS uN ps (k + 1) = preS uN ps k + p.us.length) := by rw [← hre]; exact hsucc.out
        clear hre hsucc
        go_wp2_with fail
        refine (szPart_any A' c' p _ wr hfk hp (by omega)).mono ?_
        rintro e w1 ⟨q, rfl, hr, hb1⟩
        rcases hr with rfl | ⟨r0, hr⟩
        · go_wp2
          go_ret
          exact ⟨-1, rfl, .inl rfl, hb.trans (hb1.mono hb.size)⟩
        · have HR := hid hr
          clear hr
          go_wp2
          go_roundw
          case rel => exact ⟨k + 1, by omega, by go_num, by have := HR.out; have := HSU.out; congr 1; omega, by have := HR.out; have := HSU.out; omega, hb.trans (hb1.mono hb.size)⟩
          case measure => simp [intOf]; omega
      · have hk' : k = ps.length := by omega
        subst hk'
        go_wp2
        go_ret
        exact ⟨_, rfl, .inr ⟨hp, by unfold allP; omega⟩, hb⟩
set_option maxHeartbeats 2000000 in
theorem szTxn_any (A : Option Addr) (c : Nat) (A2 : Option Addr) (c2 : Nat) (t : Tx) (left : Int) (w : World) (h : Parts w w.heap.size A t.ps) (hf : WideP t.ps) (hv : t.vs.length ≤ maxLen) (h0 : 0 ≤ left) (h1 : left ≤ 1048576) :
    Calls Try.prog 102 #[.agg #[.slice A t.ps.length c, .slice A2 t.vs.length c2, .int .i64 t.d], .int .i64 left] w (SizedC (tN t) left w) := by
  have b0 := (Below.refl w.heap.size w).alloc (Nat.le_refl _) (.cells #[.slice A t.ps.length c, .slice A2 t.vs.length c2, .int .i64 t.d] 131)
  have x0 := Blk3s.new_ w 131 (.slice A t.ps.length c) (.slice A2 t.vs.length c2) (.int .i64 t.d)
  have CP := hid (szPartS_any A c t.ps left _ (h.on b0) hf h0 h1)
  go_enter Try.func102, Try.ntmps102
  go_wp2_with fail
  refine CP.out.mono ?_
  rintro e w1 ⟨r, rfl, hr, d⟩
  have b1 := b0.trans (d.mono b0.size)
  have x1 := x0.later d
  obtain ⟨y0, y1, y2, -⟩ := id x1.reads
  clear CP x0 d
  rcases hr with rfl | ⟨r0, hr⟩
  · go_wp2
    go_ret
    exact ⟨-1, rfl, .inl rfl, b1⟩
  · have HR := hid hr
    have r1 : r ≤ 1048576 := by omega
    have CI := hid (szInts_any A2 t.vs.length c2 r w1 hv r0 r1)
    clear hr
    go_wp2_with fail
    refine CI.out.mono ?_
    rintro e w2 ⟨s, rfl, hs, d⟩
    have b2 := b1.trans (d.mono b1.size)
    rcases hs with rfl | ⟨s0, hs⟩
    · go_wp2
      go_ret
      exact ⟨-1, rfl, .inl rfl, b2⟩
    · have HS := hid hs
      clear hs
      go_wp2
      go_ret
      exact ⟨s, rfl, .inr ⟨s0, by have := HR.out; have := HS.out; unfold tN; omega⟩, b2⟩
set_option maxHeartbeats 2000000 in
theorem szTxnS_any (A : Option Addr) (c : Nat) (ts : List Tx) (left : Int) (w : World) (h : Txs w w.heap.size A ts) (hf : WideT ts) (h0 : 0 ≤ left) (h1 : left ≤ 1048576) :
    Calls Try.prog 75 #[.slice A ts.length c, .int .i64 left] w (SizedC (allT ts) left w) := by
  obtain ⟨hn, hf⟩ := hf
  unfold maxLen at hn
  by_cases h2 : left < ts.length
  · go_enter Try.func75, Try.ntmps75
    go_wp2
    go_ret
    exact ⟨-1, rfl, .inl rfl, Below.refl _ _⟩
  · go_enter Try.func75, Try.ntmps75
    go_wp2_with fail
    go_loopw [1, 5] (fun l i wr => ∃ k : Nat, k ≤ ts.length ∧ i = .int .i64 k ∧ l = .int .i64 (left - ts.length - preS tN ts k) ∧ 0 ≤ left - ts.length - preS tN ts k ∧ Below w.heap.size w wr) (fun _ i _ => ts.length - (intOf i).toNat)
    case atStart => exact ⟨0, Nat.zero_le _, rfl, by simp [preS_zero], by simp [preS_zero]; omega, Below.refl _ _⟩
    case round =>
      obtain ⟨k, hk, rfl, rfl, hp, hb⟩ := hrel
      by_cases hlt : k < ts.length
      · have hsucc := hid (preS_succ (f := tN) hlt)
        obtain ⟨t, ad, A1, c1, B1, e1, hre, rfl, ha, g0, g1, g2, -, -, g5, g6⟩ := (h.on hb).tx hlt
        have hfk := hf t (by rw [← hre]; exact List.getElem_mem hlt)
        have k0 : 0 ≤ (k : Int) := by omega
        have k1 : (k : Int) < (ts.length : Int) := by omega
        have HSU : Hid (preS tN ts (k + 1) = preS tN ts k + tN t) := by rw [← hre]; exact hsucc.out
        clear hre hsucc
        go_wp2_with fail
        refine (szTxn_any A1 c1 B1 e1 t _ wr g5 hfk.1 hfk.2 hp (by omega)).mono ?_
        rintro e w1 ⟨q, rfl, hr, hb1⟩
        rcases hr with rfl | ⟨r0, hr⟩
        · go_wp2
          go_ret
          exact ⟨-1, rfl, .inl rfl, hb.trans (hb1.mono hb.size)⟩
        · have HR := hid hr
          clear hr
          go_wp2
          go_roundw
          case rel => exact ⟨k + 1, by omega, by go_num, by have := HR.out; have := HSU.out; congr 1; omega, by have := HR.out; have := HSU.out; omega, hb.trans (hb1.mono hb.size)⟩
          case measure => simp [intOf]; omega
      · have hk' : k = ts.length := by omega
        subst hk'
        go_wp2
        go_ret
        exact ⟨_, rfl, .inr ⟨hp, by unfold allT; omega⟩, hb⟩
set_option maxHeartbeats 2000000 in
theorem szCoordinator_any (v : Value) (q : Crd) (left : Int) (w : World) (h : Crdd w w.heap.size v q) (hf : WideC q) (h0 : 0 ≤ left) (h1 : left ≤ 1048576) :
    Calls Try.prog 31 #[v, .int .i64 left] w (SizedC (allC q) left w) := by
  obtain ⟨A, c, A2, c2, rfl, hT, hc, hO, hc2⟩ := h
  unfold crV
  have b0 := (Below.refl w.heap.size w).alloc (Nat.le_refl _) (.cells #[.slice A q.ts.length c, .slice A2 q.os.length c2] 56)
  have x0 := Blk2s.new_ w 56 (.slice A q.ts.length c) (.slice A2 q.os.length c2)
  have CP := hid (szTxnS_any A c q.ts left _ (hT.on b0) hf.1 h0 h1)
  go_enter Try.func31, Try.ntmps31
  go_wp2_with fail
  refine CP.out.mono ?_
  rintro e w1 ⟨r, rfl, hr, d⟩
  have b1 := b0.trans (d.mono b0.size)
  have x1 := x0.later d
  obtain ⟨y0, y1, -⟩ := id x1.reads
  clear CP x0 d
  rcases hr with rfl | ⟨r0, hr⟩
  · go_wp2
    go_ret
    exact ⟨-1, rfl, .inl rfl, b1⟩
  · have HR := hid hr
    have r1 : r ≤ 1048576 := by omega
    have CI := hid (szInts_any A2 q.os.length c2 r w1 hf.2 r0 r1)
    clear hr
    go_wp2_with fail
    refine CI.out.mono ?_
    rintro e w2 ⟨s, rfl, hs, d⟩
    have b2 := b1.trans (d.mono b1.size)
    rcases hs with rfl | ⟨s0, hs⟩
    · go_wp2
      go_ret
      exact ⟨-1, rfl, .inl rfl, b2⟩
    · have HS := hid hs
      clear hs
      go_wp2
      go_ret
      exact ⟨s, rfl, .inr ⟨s0, by have := HR.out; have := HS.out; unfold allC; omega⟩, b2⟩
end Go.Proofs.Ytelmeknpmlbplaa
