/-
  Walks: marks written into lists of objects whose links lie apart, and read again.
-/
import Derived.Test.YtjniemimdjpibaaObsA
import Derived.Test.YtjniemimdjpibaaMarks
namespace Go.Proofs.Ytjniemimdjpibaa
open Go.RowKit Wo Pu

def dig (m : Nat) : UInt8 := UInt8.ofNat (48 + m % 10)
/-- The digits of m ahead of s. -/
def mtx : Nat → Nat → ByteArray → ByteArray
  | 0, _, s => s
  | f + 1, m, s => if m = 0 then s else mtx f (m / 10) (⟨#[dig m]⟩ ++ s)
theorem mtx_zero (f : Nat) (s : ByteArray) : mtx f 0 s = s := by
  cases f with
  | zero => rfl
  | succ f => rw [mtx, if_pos rfl]
theorem mtx_succ {f m : Nat} (s : ByteArray) (h : ¬ m = 0) : mtx (f + 1) m s = mtx f (m / 10) (⟨#[dig m]⟩ ++ s) := by rw [mtx, if_neg h]
def mtext (k : Nat) : ByteArray := (⟨#[109]⟩ : ByteArray) ++ mtx k k ⟨#[]⟩
theorem conv_dig (w : World) (m : Nat) : (convert 22 9 (.slice (some ⟨w.heap.size, 0, none⟩) 1 1)).run Try.prog (w.alloc (.cells #[.int .u8 (48 + (m : Int) % 10)] 5)) = .ok (.string ⟨#[dig m]⟩) (w.alloc (.cells #[.int .u8 (48 + (m : Int) % 10)] 5)) := by
  have e : 48 + (m : Int) % 10 = ((dig m).toNat : Int) := by
    unfold dig
    rw [UInt8.toNat_ofNat']
    omega
  rw [e]
  refine run_convert_bytes_back (P := Try.prog) (w.alloc (.cells #[.int .u8 ((dig m).toNat : Int)] 5)) 22 9 5 ⟨w.heap.size, 0, none⟩ 1 [dig m] Try.underlying22 Try.underlying5 Try.underlying9 ?_
  intro j hj
  simp only [List.length_cons, List.length_nil] at hj
  obtain rfl : j = 0 := by omega
  rw [add_zero]
  simp [go_sem]

set_option maxHeartbeats 1000000 in
theorem markText_is (k : Nat) (w : World) (h0 : 1 ≤ k) (h1 : k ≤ 100000) :
    Calls Try.prog 46 #[.int .i64 k] w (Ret (.string (mtext k)) w) := by
  go_enter Try.func46, Try.ntmps46
  go_wp2_with fail
  go_loopw [0, 3] (fun n t wr => ∃ (m f : Nat) (s : ByteArray), n = .int .i64 m ∧ t = .string s ∧ s.size + m ≤ k ∧ m ≤ f ∧ Hid (mtx k k ⟨#[]⟩ = mtx f m s) ∧ Below w.heap.size w wr) (fun n _ _ => (intOf n).toNat)
  case atStart => exact ⟨k, k, ⟨#[]⟩, rfl, rfl, by show 0 + k ≤ k; omega, Nat.le_refl _, rfl, Below.refl _ _⟩
  case round =>
    obtain ⟨m, f, s, rfl, rfl, hs, hf, HM, hb⟩ := hrel
    by_cases hlt : 0 < m
    · obtain ⟨f, rfl⟩ : ∃ f', f = f' + 1 := ⟨f - 1, by omega⟩
      have hcv := conv_dig wr m
      have H2 := hid ((HM.out).trans (mtx_succ s (by omega)))
      clear HM
      go_wp2_with fail
      go_roundw
      case rel =>
        refine ⟨m / 10, f, _, by congr 1, rfl, ?_, by omega, H2, hb.alloc hb.size _⟩
        rw [ByteArray.size_append]
        show 1 + s.size + _ ≤ k
        omega
      case measure => simp [intOf]; omega
    · have hm : m = 0 := by omega
      subst hm
      have H2 : Hid ((⟨#[109]⟩ : ByteArray) ++ s = mtext k) := by show _ = _; unfold mtext; rw [HM.out, mtx_zero]
      clear HM
      go_wp2
      go_ret
      rw [← H2.out]
      exact .mk_ hb
theorem markText_at (x : Int) (k : Nat) (w : World) (hx : x = k) (h0 : 1 ≤ k) (h1 : k ≤ 100000) :
    Calls Try.prog 46 #[.int .i64 x] w (Ret (.string (mtext k)) w) := by
  subst hx; exact markText_is k w h0 h1

/-- The mark at which object m begins. -/
def kAt (os : List Ob) (m : Nat) : Nat := 1 + ((os.take m).map fun o => o.zs.length + 2).sum
theorem kAt_zero (os : List Ob) : kAt os 0 = 1 := rfl
theorem kAt_succ {os : List Ob} {m : Nat} (hm : m < os.length) : kAt os (m + 1) = kAt os m + (os[m].zs.length + 2) := by
  unfold kAt
  rw [List.take_succ_eq_append_getElem hm, List.map_append, List.sum_append]
  simp
  omega
theorem kAt_le {os : List Ob} (hs : ∀ o ∈ os, o.zs.length ≤ 8) : ∀ m, m ≤ os.length → kAt os m ≤ 1 + 10 * m := by
  intro m
  induction m with
  | zero => intro _; rw [kAt_zero]; omega
  | succ m ih =>
    intro h
    have := ih (by omega)
    have h2 := hs _ (List.getElem_mem (show m < os.length by omega))
    rw [kAt_succ (by omega)]
    omega
theorem kAt_pos (os : List Ob) (m : Nat) : 1 ≤ kAt os m := by unfold kAt; omega
/-- Object o with the marks from k on. -/
def mkAt (k : Nat) (o : Ob) : Ob := ⟨(k : Int), marks ((k : Int) + 1) o.zs.length, mtext (k + 1 + o.zs.length)⟩
def mkO (os : List Ob) (j : Nat) (h : j < os.length) : Ob := mkAt (kAt os j) os[j]
def mkOs (os : List Ob) : List Ob := (List.finRange os.length).map fun j => mkO os j.1 j.2
theorem mkOs_length (os : List Ob) : (mkOs os).length = os.length := by simp [mkOs]
theorem mkOs_get {os : List Ob} {j : Nat} (h : j < os.length) : (mkOs os)[j]'(by rw [mkOs_length]; exact h) = mkO os j h := by simp [mkOs]

theorem Own.offR {w : World} {B g n c : Nat} {v : Value} {zs : List Int} {ys : List Value} (h : Own w B v zs) (hm : w.ownsRow B 26 3 (.slice (some ⟨g, 0, none⟩) n c) n ys) (j : Nat) (u : Value) : Own (w.setCell ⟨g, j, none⟩ u) B v zs := by
  refine World.ownsRow.kept h (World.ownsRow.stored hm j u).2 ?_
  rcases hu : v.ownBlock with _ | k
  · exact .inl rfl
  · refine .inr (fun e => ?_)
    injection e with e
    subst e
    rcases h.2 with ⟨rfl, _⟩ | ⟨g1, _, cur, rfl, _, hh, _⟩
    · cases hu
    · have hk : g1 = k := by simpa [Value.ownBlock] using hu
      subst hk
      rcases hm.2 with ⟨h1, _⟩ | ⟨g2, _, cur2, hv2, _, hh2, _⟩
      · cases h1
      · have hk : g2 = g1 := by injection hv2 with e1; injection e1 with e1; injection e1 with e1; exact e1.symm
        subst hk
        rw [hh] at hh2
        injection hh2 with h3
        injection h3 with _ h3
        exact absurd h3 (by decide)
theorem Own.neR {w : World} {B g n c : Nat} {v : Value} {zs : List Int} {ys : List Value} (h : Own w B v zs) (hm : w.ownsRow B 26 3 (.slice (some ⟨g, 0, none⟩) n c) n ys) : v.ownBlock ≠ some g := by
  intro hu
  rcases h.2 with ⟨rfl, _⟩ | ⟨g1, _, cur, rfl, _, hh, _⟩
  · cases hu
  · have hk : g1 = g := by simpa [Value.ownBlock] using hu
    subst hk
    rcases hm.2 with ⟨h1, _⟩ | ⟨g2, _, cur2, hv2, _, hh2, _⟩
    · cases h1
    · have hk : g2 = g1 := by injection hv2 with e1; injection e1 with e1; injection e1 with e1; exact e1.symm
      subst hk
      rw [hh] at hh2
      injection hh2 with h3
      injection h3 with _ h3
      exact absurd h3 (by decide)

/-- The list, the first m objects of it marked. -/
def MixO (w : World) (B g c : Nat) (os : List Ob) (m : Nat) : Prop :=
  ∃ xs, w.ownsRow B 26 3 (.slice (some ⟨g, 0, none⟩) os.length c) os.length xs ∧ (∀ j (hj : j < os.length), ObIs w B xs j (if j < m then mkO os j hj else os[j])) ∧ Apt xs os.length
theorem MixO.below {w w' : World} {B g c m : Nat} {os : List Ob} (h : MixO w B g c os m) (hb : Below w.heap.size w w') : MixO w' B g c os m := by
  obtain ⟨xs, h1, h2, h3⟩ := h
  refine ⟨xs, own_below h1 hb (Nat.le_refl _), fun j hj => ?_, h3⟩
  obtain ⟨A, c, q0, q1, q2, q3⟩ := h2 j hj
  exact ⟨A, c, q0, q1, q2, q3.below hb (Nat.le_refl _)⟩
/-- In the midst of object m: its number and its links are marked, its text is not. -/
def MidO (w : World) (B g c : Nat) (os : List Ob) (m : Nat) : Prop :=
  ∃ xs, w.ownsRow B 26 3 (.slice (some ⟨g, 0, none⟩) os.length c) os.length xs ∧ (∀ j (hj : j < os.length), j ≠ m → ObIs w B xs j (if j < m then mkO os j hj else os[j])) ∧
    (∀ hm : m < os.length, ∃ A c', xs[m * 3]? = some (.int .i64 (kAt os m : Nat)) ∧ xs[m * 3 + 1]? = some (.slice A os[m].zs.length c') ∧ Own w B (.slice A os[m].zs.length c') (marks ((kAt os m : Nat) + 1) os[m].zs.length)) ∧ Apt xs os.length
theorem MidO.below {w w' : World} {B g c m : Nat} {os : List Ob} (h : MidO w B g c os m) (hb : Below w.heap.size w w') : MidO w' B g c os m := by
  obtain ⟨xs, h1, h2, h3, h4⟩ := h
  refine ⟨xs, own_below h1 hb (Nat.le_refl _), fun j hj hne => ?_, fun hm => ?_, h4⟩
  · obtain ⟨A, c, q0, q1, q2, q3⟩ := h2 j hj hne
    exact ⟨A, c, q0, q1, q2, q3.below hb (Nat.le_refl _)⟩
  · obtain ⟨A, c, q0, q1, q2⟩ := h3 hm
    exact ⟨A, c, q0, q1, q2.below hb (Nat.le_refl _)⟩
theorem MidO.cell {w : World} {B g c m : Nat} {os : List Ob} (h : MidO w B g c os m) (hm : m < os.length) : (∃ v, w.cell? ⟨g, m * 3 + 2, none⟩ = some v) ∧ w.frozen? ⟨g, m * 3 + 2, none⟩ = false := by
  obtain ⟨xs, h1, _⟩ := h
  have hl := h1.1
  exact ⟨⟨_, (World.ownsRow.cellAt h1 (m * 3 + 2) (by omega)).trans (List.getElem?_eq_getElem (by omega))⟩, World.ownsRow.frozenAt h1 _⟩
theorem MidO.text {w : World} {B g c m : Nat} {os : List Ob} (h : MidO w B g c os m) (hm : m < os.length) (t : ByteArray) (ht : t = mtext (kAt os m + 1 + os[m].zs.length)) : MixO (w.setCell ⟨g, m * 3 + 2, none⟩ (.string t)) B g c os (m + 1) := by
  obtain ⟨xs, h1, h2, h3, h4⟩ := h
  have hl := h1.1
  have t1 : ∀ j d, j < os.length → d < 2 → (xs.set (m * 3 + 2) (.string t))[j * 3 + d]? = xs[j * 3 + d]? := fun j d hj hd => by rw [List.getElem?_set_ne (by omega)]
  refine ⟨xs.set (m * 3 + 2) (.string t), (World.ownsRow.stored h1 (m * 3 + 2) (.string t)).1, fun j hj => ?_, fun i j v u hi hj hij hv hu => ?_⟩
  · by_cases e : j = m
    · subst e
      obtain ⟨A, c', q0, q1, q3⟩ := h3 hj
      rw [if_pos (Nat.lt_succ_self _)]
      refine ⟨A, c', ?_, ?_, ?_, ?_⟩
      · rw [show j * 3 = j * 3 + 0 from rfl, t1 j 0 hj (by omega)]; exact q0
      · rw [t1 j 1 hj (by omega)]
        have e2 : (mkO os j hj).zs.length = os[j].zs.length := marks_length _ _
        rw [e2]; exact q1
      · rw [List.getElem?_set_self (by omega), ht]; rfl
      · have e2 : (mkO os j hj).zs.length = os[j].zs.length := marks_length _ _
        rw [e2]
        exact q3.offR h1 _ _
    · obtain ⟨A, c', q0, q1, q2, q3⟩ := h2 j hj e
      have e3 : (if j < m + 1 then mkO os j hj else os[j]) = (if j < m then mkO os j hj else os[j]) := by
        by_cases hjm : j < m
        · rw [if_pos hjm, if_pos (by omega)]
        · rw [if_neg hjm, if_neg (by omega)]
      rw [e3]
      refine ⟨A, c', ?_, ?_, ?_, q3.offR h1 _ _⟩
      · rw [show j * 3 = j * 3 + 0 from rfl, t1 j 0 hj (by omega)]; exact q0
      · rw [t1 j 1 hj (by omega)]; exact q1
      · rw [List.getElem?_set_ne (by omega)]; exact q2
  · rw [t1 i 1 hi (by omega)] at hv
    rw [t1 j 1 hj (by omega)] at hu
    exact h4 i j v u hi hj hij hv hu
/-- What the round at object m finds. -/
theorem MixO.begin_ {w : World} {B g c m : Nat} {os : List Ob} (h : MixO w B g c os m) (hm : m < os.length) : ∃ (A : Option Addr) (c' : Nat), (∃ v, w.cell? ⟨g, m * 3, none⟩ = some v) ∧ w.frozen? ⟨g, m * 3, none⟩ = false ∧ w.cell? ⟨g, m * 3 + 1, none⟩ = some (.slice A os[m].zs.length c') ∧
    Own (w.setCell ⟨g, m * 3, none⟩ (.int .i64 (kAt os m : Nat))) B (.slice A os[m].zs.length c') os[m].zs ∧
    ∀ w2, (w.setCell ⟨g, m * 3, none⟩ (.int .i64 (kAt os m : Nat))).grownBy w2 (Value.slice A os[m].zs.length c').ownBlock → Own w2 B (.slice A os[m].zs.length c') (marks ((kAt os m : Nat) + 1) os[m].zs.length) → MidO w2 B g c os m := by
  obtain ⟨xs, h1, h2, h3⟩ := h
  have hl := h1.1
  obtain ⟨A, c', q0, q1, q2, q3⟩ := h2 m hm
  rw [if_neg (Nat.lt_irrefl m)] at q0 q1 q2 q3
  have o1 := q3.offR h1 (m * 3) (.int .i64 (kAt os m : Nat))
  have s1 := (World.ownsRow.stored h1 (m * 3) (.int .i64 (kAt os m : Nat))).1
  refine ⟨A, c', ⟨_, (World.ownsRow.cellAt h1 (m * 3) (by omega)).trans (List.getElem?_eq_getElem (by omega))⟩, World.ownsRow.frozenAt h1 _, (World.ownsRow.cellAt h1 (m * 3 + 1) (by omega)).trans q1, o1, fun w2 hg hmk => ?_⟩
  have t1 : ∀ j d, j < os.length → 0 < d → d < 3 → (xs.set (m * 3) (.int .i64 (kAt os m : Nat)))[j * 3 + d]? = xs[j * 3 + d]? := fun j d hj hd hd2 => by rw [List.getElem?_set_ne (by omega)]
  refine ⟨xs.set (m * 3) (.int .i64 (kAt os m : Nat)), World.ownsRow.kept s1 hg (.inr (fun e => o1.neR s1 e.symm)), fun j hj hne => ?_, fun _ => ⟨A, c', ?_, ?_, hmk⟩, fun i j v u hi hj hij hv hu => ?_⟩
  · obtain ⟨A2, c2, r0, r1, r2, r3⟩ := h2 j hj
    have r4 := r3.offR h1 (m * 3) (.int .i64 (kAt os m : Nat))
    refine ⟨A2, c2, ?_, ?_, ?_, ?_⟩
    · rw [List.getElem?_set_ne (by omega)]; exact r0
    · rw [t1 j 1 hj (by omega) (by omega)]; exact r1
    · rw [t1 j 2 hj (by omega) (by omega)]; exact r2
    · have hap := h3 j m _ _ hj hm hne r1 q1
      refine World.ownsRow.kept r4 hg ?_
      rcases hu : (Value.slice A2 (if j < m then mkO os j hj else os[j]).zs.length c2).ownBlock with _ | k
      · exact .inl rfl
      · exact .inr (fun e => hap k hu e.symm)
  · rw [List.getElem?_set_self (by omega)]
  · rw [t1 m 1 hm (by omega) (by omega)]; exact q1
  · rw [t1 i 1 hi (by omega) (by omega)] at hv
    rw [t1 j 1 hj (by omega) (by omega)] at hu
    exact h3 i j v u hi hj hij hv hu

set_option maxHeartbeats 2000000 in
theorem markObjectS_is (B g c : Nat) (os : List Ob) (w : World) (h : OwnObsF w B (.slice (some ⟨g, 0, none⟩) os.length c) os) (hB : B ≤ w.heap.size) (hn : os.length ≤ 16) (hs : ∀ o ∈ os, o.zs.length ≤ 8) :
    Calls Try.prog 20 #[.slice (some ⟨g, 0, none⟩) os.length c, .int .i64 1] w (fun e w' => e = .returned (.int .i64 (kAt os os.length : Nat)) ∧ MixO w' B g c os os.length ∧ Below B w w') := by
  have hm0 : MixO w B g c os 0 := by
    obtain ⟨xs, h1, h2, h3⟩ := h
    exact ⟨xs, h1, fun j hj => by rw [if_neg (Nat.not_lt_zero j)]; exact h2 j hj, h3⟩
  clear h
  have HS := hid hs
  go_enter Try.func20, Try.ntmps20
  go_wp2_with fail
  go_loopw [1, 5] (fun q i wr => ∃ m K : Nat, m ≤ os.length ∧ i = .int .i64 m ∧ q = .int .i64 (K : Nat) ∧ K ≤ 1000 ∧ Hid (K = kAt os m) ∧ MixO wr B g c os m ∧ Below B w wr) (fun _ i _ => os.length - (intOf i).toNat)
  case atStart => exact ⟨0, 1, Nat.zero_le _, rfl, rfl, by omega, rfl, hm0, Below.refl _ _⟩
  case round =>
    clear hm0 hs
    obtain ⟨m, K, hm, rfl, rfl, hK, HK, hl, hb⟩ := hrel
    by_cases hlt : m < os.length
    · have hk1 := kAt_succ hlt
      have hk2 := kAt_le HS.out (m + 1) (by omega)
      have hsm := HS.out _ (List.getElem_mem hlt)
      obtain ⟨A, c', ⟨v0, q0⟩, f0, q1, o1, hmid⟩ := hl.begin_ hlt
      rw [← HK.out] at hk1 o1 hmid
      have HK1 := hid hk1
      have HT : Hid (∀ t, t = mtext (K + 1 + os[m].zs.length) → t = mtext (kAt os m + 1 + os[m].zs.length)) := fun t ht => by rw [← HK.out]; exact ht
      obtain ⟨n, hnn⟩ : ∃ n, os[m].zs.length = n := ⟨_, rfl⟩
      have hzz : ∃ zs : List Int, os[m].zs = zs ∧ zs.length = n := ⟨_, rfl, hnn⟩
      obtain ⟨zs, hz1, hz2⟩ := hzz
      rw [hnn] at q1 o1 hmid hsm hk1
      rw [hz1] at o1
      have HMID := hid hmid
      have HNN := hid hnn
      have hz := hb.size
      have b1 := hb.setCell (p := ⟨g, m * 3, none⟩) (by obtain ⟨xs, hx, _⟩ := hl; exact (World.ownsRow.lt hx g rfl).1) (.int .i64 (K : Nat))
      have z1 : B ≤ (wr.setCell ⟨g, m * 3, none⟩ (.int .i64 (K : Nat))).heap.size := by simp [World.setCell]; omega
      clear hl hmid hz1 hnn hb
      have hcm := markInts_any B A c' zs ((K : Int) + 1) (wr.setCell ⟨g, m * 3, none⟩ (.int .i64 (K : Nat))) (by rw [hz2]; exact o1) (by omega) (by omega) (by omega)
      rw [hz2] at hcm
      have olt := World.ownsRow.lt o1
      clear o1
      go_wp2_with fail
      refine hcm.mono ?_
      rintro e w2 ⟨rfl, h2, h3⟩
      have hmd := HMID.out w2 h3 h2
      have b2 : Below B w w2 := b1.grown h3 z1 (fun k hk => (olt k hk).1)
      clear hcm h2 h3 b1 olt q0 q1 f0
      have z2 := Nat.le_trans hB b2.size
      go_wp2_with fail
      refine (markText_at _ (K + 1 + n) w2 (by omega) (by omega) (by omega)).mono ?_
      rintro e w3 ⟨rfl, b3⟩
      have hmd3 := hmd.below b3
      have b4 := b2.trans (b3.mono z2)
      obtain ⟨⟨v2, q2⟩, f2⟩ := hmd3.cell hlt
      have hmx := hmd3.text hlt (mtext (K + 1 + n)) (HT.out _ (by rw [HNN.out]))
      have b5 := b4.setCell (p := ⟨g, m * 3 + 2, none⟩) (by obtain ⟨xs, hx, _⟩ := hmd3; exact (World.ownsRow.lt hx g rfl).1) (.string (mtext (K + 1 + n)))
      have HK2 : Hid (K + 1 + n + 1 = kAt os (m + 1)) := by show _ = _; rw [HK1.out, HNN.out]; omega
      have hK2 : K + 1 + n + 1 ≤ 1000 := by rw [HK2.out]; omega
      clear hmd hmd3 b2 b3 b4 hk1 hk2
      go_wp2_with fail
      go_roundw
      case rel => exact ⟨m + 1, K + 1 + n + 1, by omega, by go_num, by go_num, hK2, HK2.out, hmx, b5⟩
      case measure => simp [intOf]; omega
    · have hm' : m = os.length := by omega
      subst hm'
      go_wp2
      go_ret
      have hKe := HK.out
      subst hKe
      exact ⟨rfl, hl, hb⟩
end Go.Proofs.Ytjniemimdjpibaa
