/-
  Words and walks for lists of texts: of the call's own, compared, marked; drawn texts.
-/
import Derived.Test.YtdjfglebnblfkabDoorKitD
import Derived.Test.YtdjfglebnblfkabDoorNamP
import Derived.Test.YtdjfglebnblfkabDoorClone
import Derived.Lib.ConvBytes
import Derived.IntWalk
import Derived.Maps.AppendAt
namespace Go.Proofs.YtdjfglebnblfkabDoor
open Go.RowKit Wo Pu Nm

theorem Ret.int_ {a b : Int} {w w' : World} (h : b = a) (hb : Below w.heap.size w w') : Ret (.int .i64 a) w (.returned (.int .i64 b)) w' := by subst h; exact ⟨rfl, hb⟩
theorem Ret.byte_ {a b : Int} {w w' : World} (h : b = a) (hb : Below w.heap.size w w') : Ret (.int .u8 a) w (.returned (.int .u8 b)) w' := by subst h; exact ⟨rfl, hb⟩
theorem Ret.val_ {a b : Value} {w w' : World} (h : b = a) (hb : Below w.heap.size w w') : Ret a w (.returned b) w' := by subst h; exact ⟨rfl, hb⟩
theorem byte_lt (b : UInt8) : (b.toNat : Int) < 256 := by have := b.toNat_lt; omega
theorem bytes_of (w : World) (s : ByteArray) : ∃ (w' : World) (cap : Nat), (convert 9 22 (.string s)).run Tryd.prog w = .ok (.slice (some ⟨w.heap.size, 0, none⟩) s.size cap) w' ∧
    Below w.heap.size w w' ∧ Hid (∀ j (hj : j < s.size), w'.cell? ⟨w.heap.size, j, none⟩ = some (.int .u8 (s[j].toNat : Int))) := by
  refine ⟨_, _, Lib.run_convert_string_bytes w 9 22 5 s Tryd.underlying9 Tryd.underlying22 Tryd.underlying5, ⟨?_, ?_, ?_, ?_, ?_⟩, fun j hj => ?_⟩
  · simp [Lib.bytesWorld, World.freeze]
    rfl
  · simp [Lib.bytesWorld, World.freeze]
  · simp [Lib.bytesWorld, World.freeze]
    rfl
  · rw [Lib.bytesWorld_size]; omega
  · intro k hk
    exact Lib.bytesWorld_at_old w _ s k hk
  · rw [Lib.bytesWorld_cell w 5 s j hj]
    have e : s.data.toList.getD j 0 = s[j] := by
      rw [List.getD_eq_getElem?_getD, List.getElem?_eq_getElem (by simpa using hj)]
      rfl
    rw [e]

/-- Texts as values. -/
def txts (ts : List ByteArray) : List Value := ts.map Value.string
/-- The slice v, of the call's own, holds the texts ts. -/
def OwnT (w : World) (B : Nat) (v : Value) (ts : List ByteArray) : Prop := w.ownsRow B 9 1 v ts.length (txts ts)
theorem info_str : (Tryd.prog.info? 9).map (fun i => (i.zero, i.size, i.bytes)) = some (some (.string ⟨#[]⟩), 1, 16) := by kernel_rfl

theorem OwnT.nil_new {w : World} {B : Nat} (hB : B ≤ w.heap.size) : OwnT (w.alloc (.cells #[] 9)) B (.slice (some ⟨w.heap.size, 0, none⟩) 0 0) [] := nil_own hB _ _
theorem OwnT.below {w w' : World} {B C : Nat} {v : Value} {ts : List ByteArray} (h : OwnT w B v ts) (hb : Below C w w') (hC : w.heap.size ≤ C) : OwnT w' B v ts := own_below h hb hC
theorem one_str (s : ByteArray) : ∀ u ∈ [Value.string s], u.oneCell' = true := by
  intro u hu
  rw [List.mem_singleton.1 hu]
  rfl
theorem OwnT.app {w' : World} {B : Nat} {v' : Value} {ts : List ByteArray} {x : ByteArray} (h : w'.ownsRow B 9 1 v' (ts.length + 1) (txts ts ++ [.string x])) : OwnT w' B v' (ts ++ [x]) := by
  have e2 : txts (ts ++ [x]) = txts ts ++ [.string x] := by simp [txts]
  unfold OwnT
  rw [List.length_append, List.length_singleton, e2]
  exact h

theorem OwnT.form {w : World} {B : Nat} {v : Value} {ts : List ByteArray} (h : OwnT w B v ts) : ∃ (A : Option Addr) (c : Nat), v = .slice A ts.length c ∧ Row w w.heap.size A (txts ts) := by
  have h' := h
  obtain ⟨h1, h2⟩ := h
  rcases h2 with ⟨rfl, h0⟩ | ⟨g, cap, cur, rfl, _⟩
  · refine ⟨none, 0, by rw [h0], ?_⟩
    have : ts = [] := List.eq_nil_of_length_eq_zero h0
    subst this
    exact .inl rfl
  · refine ⟨_, _, rfl, Row.of_own h' (fun hx => ?_)⟩
    rcases Nat.eq_zero_or_pos ts.length with h0 | h0
    · have : ts = [] := List.eq_nil_of_length_eq_zero h0
      subst this
      exact absurd rfl hx
    · exact h0
theorem txts_length (ts : List ByteArray) : (txts ts).length = ts.length := List.length_map _
theorem Wo.Row.str_ {w : World} {B : Nat} {A : Option Addr} {ts : List ByteArray} (h : Row w B A (txts ts)) {k : Nat} (hk : k < ts.length) :
    ∃ ad, A = some ad ∧ ad.block < B ∧ w.cell? (ad.add k) = some (.string ts[k]) := by
  obtain ⟨ad, e, hb, hc⟩ := h.get (k := k) (by rw [txts_length]; exact hk)
  exact ⟨ad, e, hb, by rw [hc]; simp [txts]⟩
theorem row_one (w : World) (s : ByteArray) (t : TypeId) : Row (w.alloc (.cells #[.string s] t)) (w.alloc (.cells #[.string s] t)).heap.size (some ⟨w.heap.size, 0, none⟩) (txts [s]) := by
  refine .inr ⟨_, rfl, by simp, fun j u hu => ?_⟩
  rw [add_lit]
  match j with
  | 0 => simp [txts] at hu; subst hu; simp [go_sem]
  | j + 1 => simp [txts] at hu

set_option maxHeartbeats 1000000 in
theorem sameTexts_same (B C : Nat) (A A' : Option Addr) (c c' : Nat) (ts : List ByteArray) (w : World) (hr : Row w B A (txts ts)) (hr' : Row w C A' (txts ts)) (hm : ts.length ≤ maxLen) :
    Calls Tryd.prog 14 #[.slice A ts.length c, .slice A' ts.length c'] w (Quiet (.bool true) w) := by
  unfold maxLen at hm
  go_enter Tryd.func14, Tryd.ntmps14
  go_wp2
  go_loopw [5] (fun i wr => ∃ k : Nat, k ≤ ts.length ∧ i = .int .i64 k ∧ Dr w wr) (fun i _ => ts.length - (intOf i).toNat)
  case atStart => exact ⟨0, Nat.zero_le _, rfl, .refl _⟩
  case round =>
    obtain ⟨k, hk, rfl, HW⟩ := hrel
    by_cases hlt : k < ts.length
    · obtain ⟨ad, rfl, hb, hc⟩ := (HW.row hr).str_ hlt
      obtain ⟨ad', rfl, hb', hc'⟩ := (HW.row hr').str_ hlt
      have q0 : (0 : Int) ≤ (k : Int) := by omega
      have q1 : (k : Int) < (ts.length : Int) := by omega
      go_wp2
      go_quiet (fail)
      go_wp2
      go_roundw
      case rel => exact ⟨k + 1, by omega, by go_num, HW.drewN _⟩
      case measure => simp [intOf]; omega
    · have hk' : k = ts.length := by omega
      subst hk'
      go_wp2
      go_ret
      exact HW.quiet _
theorem sameTexts_ret (A A' : Option Addr) (c c' : Nat) (ts : List ByteArray) (w : World) (hr : Row w w.heap.size A (txts ts)) (hr' : Row w w.heap.size A' (txts ts)) (hm : ts.length ≤ maxLen) :
    Calls Tryd.prog 14 #[.slice A ts.length c, .slice A' ts.length c'] w (Ret (.bool true) w) :=
  (sameTexts_same _ _ A A' c c' ts w hr hr' hm).mono fun _ _ ⟨he, d, hd⟩ => ⟨he, by subst hd; exact Wo.Below.drewN (Below.refl _ _) d⟩
/-- A drawn text. -/
def TextMade (m : Nat) (w : World) (e : Ending) (w' : World) : Prop := ∃ s : ByteArray, e = .returned (.string s) ∧ s.size ≤ m ∧ Below w.heap.size w w'
theorem txts_take (ts : List ByteArray) (m : Nat) : txts (ts.take m) = (txts ts).take m := by unfold txts; rw [List.map_take]
theorem row_txts_take {w : World} {B : Nat} {A : Option Addr} {ts : List ByteArray} (h : Row w B A (txts ts)) (m : Nat) : Row w B A (txts (ts.take m)) := by
  rw [txts_take]
  exact h.take_ m
theorem OwnT.form2 {w : World} {B : Nat} {v : Value} {ts : List ByteArray} (h : OwnT w B v ts) : ∃ (A : Option Addr) (c : Nat), v = .slice A ts.length c ∧ Row w w.heap.size A (txts ts) ∧ ts.length ≤ c := by
  obtain ⟨A, c, rfl, hr⟩ := h.form
  refine ⟨A, c, rfl, hr, ?_⟩
  rcases h.2 with ⟨h1, h0⟩ | ⟨g, cap, cur, h1, _, _, hle, _⟩
  · omega
  · injection h1 with _ _ h3
    omega
theorem txts_cells (ts : List ByteArray) : ∀ u ∈ txts ts, u.oneCell' = true := by
  intro u hu
  obtain ⟨t, _, rfl⟩ := List.mem_map.1 hu
  rfl
theorem conv_at (x : Int) (b : UInt8) (hx : x = (b.toNat : Int)) (W : World) (g : Nat) (h : W.cell? ⟨g, 0, none⟩ = some (.int .u8 x)) : (convert 22 9 (.slice (some ⟨g, 0, none⟩) 1 1)).run Tryd.prog W = .ok (.string (mk [b])) W := by
  subst hx
  refine run_convert_bytes_back (P := Tryd.prog) W 22 9 5 ⟨g, 0, none⟩ 1 [b] Tryd.underlying22 Tryd.underlying5 Tryd.underlying9 ?_
  intro j hj
  simp only [List.length_cons, List.length_nil] at hj
  obtain rfl : j = 0 := by omega
  simpa [add_zero] using h

def dig (m : Nat) : UInt8 := UInt8.ofNat (48 + m % 10)
/-- The digits of m ahead of s. -/
def mtx : Nat → Nat → ByteArray → ByteArray
  | 0, _, s => s
  | f + 1, m, s => if m = 0 then s else mtx f (m / 10) (mk [dig m] ++ s)
theorem mtx_zero (f : Nat) (s : ByteArray) : mtx f 0 s = s := by
  cases f with
  | zero => rfl
  | succ f => rw [mtx, if_pos rfl]
theorem mtx_succ {f m : Nat} (s : ByteArray) (h : ¬ m = 0) : mtx (f + 1) m s = mtx f (m / 10) (mk [dig m] ++ s) := by rw [mtx, if_neg h]
def mtext (k : Nat) : ByteArray := (⟨#[109]⟩ : ByteArray) ++ mtx k k ⟨#[]⟩
theorem dig_val (m : Nat) : 48 + (m : Int) % 10 = ((dig m).toNat : Int) := by
  unfold dig
  rw [UInt8.toNat_ofNat']
  omega

set_option maxHeartbeats 1000000 in
theorem markText_is (k : Nat) (w : World) (h0 : 1 ≤ k) (h1 : k ≤ 1048577) :
    Calls Tryd.prog 32 #[.int .i64 k] w (Ret (.string (mtext k)) w) := by
  go_enter Tryd.func32, Tryd.ntmps32
  go_wp2_with fail
  go_loopw [0, 3] (fun n t wr => ∃ (m f : Nat) (s : ByteArray), n = .int .i64 m ∧ t = .string s ∧ s.size + m ≤ k ∧ m ≤ f ∧ Hid (mtx k k ⟨#[]⟩ = mtx f m s) ∧ Below w.heap.size w wr) (fun n _ _ => (intOf n).toNat)
  case atStart => exact ⟨k, k, ⟨#[]⟩, rfl, rfl, by show 0 + k ≤ k; omega, Nat.le_refl _, rfl, Below.refl _ _⟩
  case round =>
    obtain ⟨m, f, s, rfl, rfl, hs, hf, HM, hb⟩ := hrel
    by_cases hlt : 0 < m
    · obtain ⟨f, rfl⟩ : ∃ f', f = f' + 1 := ⟨f - 1, by omega⟩
      have hcv := conv_at _ (dig m) (dig_val m)
      have H2 := hid ((HM.out).trans (mtx_succ s (by omega)))
      have hd1 : (mk [dig m]).size = 1 := rfl
      clear HM
      go_wp2_with fail
      go_roundw
      case rel =>
        refine ⟨m / 10, f, _, by congr 1, rfl, ?_, by omega, H2, hb.alloc hb.size _⟩
        rw [ByteArray.size_append, hd1]
        omega
      case measure => simp [intOf]; omega
    · have hm : m = 0 := by omega
      subst hm
      have H2 : Hid ((⟨#[109]⟩ : ByteArray) ++ s = mtext k) := by show _ = _; unfold mtext; rw [HM.out, mtx_zero]
      clear HM
      go_wp2
      go_ret
      rw [← H2.out]
      exact .mk_ hb
theorem markText_at (x : Int) (k : Nat) (w : World) (hx : x = k) (h0 : 1 ≤ k) (h1 : k ≤ 1048577) :
    Calls Tryd.prog 32 #[.int .i64 x] w (Ret (.string (mtext k)) w) := by
  subst hx; exact markText_is k w h0 h1

/-- The marks 1, 2, .. -/
def mks (n : Nat) : List ByteArray := (List.range n).map (fun i => mtext (i + 1))
theorem mks_length (n : Nat) : (mks n).length = n := by simp [mks]
theorem mks_get (n i : Nat) (h : i < (mks n).length) : (mks n)[i] = mtext (i + 1) := by simp [mks]
theorem txts_set {ts : List ByteArray} {m : Nat} (t : ByteArray) : (txts ts).set m (.string t) = txts (ts.set m t) := by unfold txts; rw [List.map_set]
theorem set_take {os : List ByteArray} {n m : Nat} (h : os.take m = (mks n).take m) (hl : os.length = n) (hm : m < n) : (os.set m (mtext (m + 1))).take (m + 1) = (mks n).take (m + 1) := by
  rw [List.take_succ_eq_append_getElem (by simpa using (by omega : m < os.length)), List.take_succ_eq_append_getElem (by rw [mks_length]; exact hm), List.take_set_of_le (Nat.le_refl m), h, mks_get]
  simp
theorem grown_below {w w' : World} {row : Option Nat} (h : Below w.heap.size w w') : w.grownBy w' row := ⟨h.os, h.tape, h.output, h.size, fun k hk _ => h.block k hk⟩

set_option maxHeartbeats 4000000 in
theorem markStringS_own (B g c n : Nat) (ts : List ByteArray) (w : World) (ho : w.ownsRow B 9 1 (.slice (some ⟨g, 0, none⟩) n c) n (txts ts)) (hn : n ≤ 1048576) :
    Calls Tryd.prog 20 #[.slice (some ⟨g, 0, none⟩) n c, .int .i64 1] w (fun e w' => e = .returned (.int .i64 ((n + 1 : Nat) : Int)) ∧ w.grownBy w' (some g) ∧ w'.ownsRow B 9 1 (.slice (some ⟨g, 0, none⟩) n c) n (txts (mks n))) := by
  have hx0 : Hid (∃ ys : List ByteArray, ys.length = n ∧ w.ownsRow B 9 1 (.slice (some ⟨g, 0, none⟩) n c) n (txts ys) ∧ ys.take 0 = (mks n).take 0) := ⟨ts, by have := ho.1; rw [txts_length] at this; omega, ho, by simp⟩
  clear ho
  go_enter Tryd.func20, Tryd.ntmps20
  go_wp2_with fail
  go_loopw [1, 5] (fun q i wr => ∃ m : Nat, m ≤ n ∧ i = .int .i64 m ∧ q = .int .i64 ((m + 1 : Nat) : Int) ∧ w.grownBy wr (some g) ∧ Hid (∃ ys : List ByteArray, ys.length = n ∧ wr.ownsRow B 9 1 (.slice (some ⟨g, 0, none⟩) n c) n (txts ys) ∧ ys.take m = (mks n).take m)) (fun _ i _ => n - (intOf i).toNat)
  case atStart => exact ⟨0, Nat.zero_le _, rfl, rfl, World.grownBy.refl _ _, hx0⟩
  case round =>
    obtain ⟨m, hm, rfl, rfl, hw, HX⟩ := hrel
    clear hx0
    obtain ⟨ys, hyl, hy, ht⟩ := HX.out
    clear HX
    by_cases hlt : m < n
    · have HT := hid (set_take ht hyl hlt)
      have HYL := hid hyl
      have hxl := txts_length ys
      clear ht
      go_wp2_with fail
      refine (markText_at _ (m + 1) _ (by omega) (by omega) (by omega)).mono ?_
      rintro e w2 ⟨rfl, b2⟩
      have hy2 := own_below hy b2 (Nat.le_refl _)
      have hw2 := hw.trans (grown_below b2)
      obtain ⟨u2, q2⟩ : ∃ v0, w2.cell? ⟨g, m, none⟩ = some v0 := ⟨_, (World.ownsRow.cellAt hy2 m (by omega)).trans (List.getElem?_eq_getElem (by omega))⟩
      have f2 := World.ownsRow.frozenAt hy2 m
      have hy3 := (World.ownsRow.stored hy2 m (.string (mtext (m + 1)))).1
      rw [txts_set] at hy3
      have hw3 := hw2.trans (but_set w2 g m (.string (mtext (m + 1))))
      have HYS : Hid ((ys.set m (mtext (m + 1))).length = n) := by show _ = _; rw [List.length_set, HYL.out]
      clear hy hy2 hw hw2 b2 hxl hyl
      go_wp2_with fail
      go_roundw
      case rel => exact ⟨m + 1, by omega, by go_num, by go_num, hw3, _, HYS.out, hy3, HT.out⟩
      case measure => simp [intOf]; omega
    · have hm' : m = n := by omega
      subst hm'
      have e : ys = mks m := by
        rw [List.take_of_length_le (by omega), List.take_of_length_le (by rw [mks_length]; omega)] at ht
        exact ht
      subst e
      clear ht hyl
      go_wp2
      go_ret
      exact ⟨rfl, hw, hy⟩

set_option maxHeartbeats 4000000 in
theorem heldStringS_yes (A : Option Addr) (c n : Nat) (w : World) (hr : Row w w.heap.size A (txts (mks n))) (hn : n ≤ 1048576) :
    Calls Tryd.prog 21 #[.slice A n c, .int .i64 1] w (Ret (.int .i64 ((n + 1 : Nat) : Int)) w) := by
  go_enter Tryd.func21, Tryd.ntmps21
  go_wp2_with fail
  go_loopw [1, 5] (fun q i wr => ∃ m : Nat, m ≤ n ∧ i = .int .i64 m ∧ q = .int .i64 ((m + 1 : Nat) : Int) ∧ Below w.heap.size w wr) (fun _ i _ => n - (intOf i).toNat)
  case atStart => exact ⟨0, Nat.zero_le _, rfl, rfl, Below.refl _ _⟩
  case round =>
    obtain ⟨m, hm, rfl, rfl, hb⟩ := hrel
    by_cases hlt : m < n
    · obtain ⟨ad, rfl, ha, g0⟩ := (hr.below hb (Nat.le_refl _)).str_ (k := m) (by rw [mks_length]; exact hlt)
      rw [mks_get] at g0
      have hz := hb.size
      have G2 := Later.cell (p := ad.add m) g0 (by rw [add_block]; exact Nat.lt_of_lt_of_le ha hz)
      have k0 : 0 ≤ (m : Int) := by omega
      have k1 : (m : Int) < (n : Int) := by omega
      have hxx : Hid ((m : Int) + 1 = ((m + 1 : Nat) : Int)) := by show _ = _; omega
      have hmm : Hid (1 ≤ m + 1 ∧ m + 1 ≤ 1048577) := by show _ ∧ _; omega
      clear g0
      go_wp2_with fail
      refine wp_region_later wr.heap.size (by kernel_rfl) (by kernel_rfl) ?_
      repeat (go_big_quiet_step ((go_at_call 32; exact Later.call (Nat.le_refl _) _ (markText_at _ (m + 1) _ hxx.out hmm.out.1 hmm.out.2))))
      refine wpQuiet_nil ?_
      intro _ hw'
      obtain ⟨xx, hxx⟩ := hw'
      have hbx := xx.b
      subst hxx
      go_wp2
      go_roundw
      case rel => exact ⟨m + 1, by omega, by go_num, by go_num, hb.trans (hbx.mono hz)⟩
      case measure => simp [intOf]; omega
    · have hm' : m = n := by omega
      subst hm'
      go_wp2
      go_ret
      exact .mk_ hb
set_option maxHeartbeats 1000000 in
theorem eqStringS_same (B C : Nat) (A A' : Option Addr) (c c' : Nat) (ts : List ByteArray) (w : World) (hr : Row w B A (txts ts)) (hr' : Row w C A' (txts ts)) (hm : ts.length ≤ 1048576) :
    Calls Tryd.prog 19 #[.slice A ts.length c, .slice A' ts.length c'] w (Quiet (.bool true) w) := by
  go_enter Tryd.func19, Tryd.ntmps19
  go_wp2
  go_loopw [5] (fun i wr => ∃ k : Nat, k ≤ ts.length ∧ i = .int .i64 k ∧ Dr w wr) (fun i _ => ts.length - (intOf i).toNat)
  case atStart => exact ⟨0, Nat.zero_le _, rfl, .refl _⟩
  case round =>
    obtain ⟨k, hk, rfl, HW⟩ := hrel
    by_cases hlt : k < ts.length
    · obtain ⟨ad, rfl, hb, hc⟩ := (HW.row hr).str_ hlt
      obtain ⟨ad', rfl, hb', hc'⟩ := (HW.row hr').str_ hlt
      have q0 : (0 : Int) ≤ (k : Int) := by omega
      have q1 : (k : Int) < (ts.length : Int) := by omega
      go_wp2
      go_quiet (fail)
      go_wp2
      go_roundw
      case rel => exact ⟨k + 1, by omega, by go_num, HW.drewN _⟩
      case measure => simp [intOf]; omega
    · have hk' : k = ts.length := by omega
      subst hk'
      go_wp2
      go_ret
      exact HW.quiet _
theorem eqStringS_ret (A A' : Option Addr) (c c' : Nat) (ts : List ByteArray) (w : World) (B C : Nat) (hr : Row w B A (txts ts)) (hr' : Row w C A' (txts ts)) (hm : ts.length ≤ 1048576) :
    Calls Tryd.prog 19 #[.slice A ts.length c, .slice A' ts.length c'] w (Ret (.bool true) w) :=
  (eqStringS_same _ _ A A' c c' ts w hr hr' hm).mono fun _ _ ⟨he, d, hd⟩ => ⟨he, by subst hd; exact Wo.Below.drewN (Below.refl _ _) d⟩
theorem markStringS_none (c : Nat) (A : Option Addr) (w : World) : Calls Tryd.prog 20 #[.slice A 0 c, .int .i64 1] w (Same (.int .i64 1) w) := by
  go_enter Tryd.func20, Tryd.ntmps20
  go_wp2_with fail
  go_loopw [1, 5] (fun q i wr => i = .int .i64 0 ∧ q = .int .i64 1 ∧ w = wr) (fun _ i _ => 0)
  case atStart => exact ⟨rfl, rfl, rfl⟩
  case round =>
    obtain ⟨rfl, rfl, rfl⟩ := hrel
    go_wp2
    go_ret
    exact ⟨rfl, rfl⟩
/-- The texts of a slice of the call's own, marked. -/
def MarkedT (B : Nat) (A : Option Addr) (n : Nat) (w : World) (e : Ending) (w' : World) : Prop := e = .returned (.int .i64 ((n + 1 : Nat) : Int)) ∧ Row w' w'.heap.size A (txts (mks n)) ∧ Below B w w'
theorem markStringS_any (B : Nat) (A : Option Addr) (c : Nat) (ts : List ByteArray) (w : World) (ho : OwnT w B (.slice A ts.length c) ts) (hn : ts.length ≤ 1048576) (hB : B ≤ w.heap.size) :
    Calls Tryd.prog 20 #[.slice A ts.length c, .int .i64 1] w (MarkedT B A ts.length w) := by
  rcases Nat.eq_zero_or_pos ts.length with h0 | h0
  · rw [h0]
    refine (markStringS_none c A w).mono ?_
    rintro e w' ⟨rfl, rfl⟩
    exact ⟨rfl, .inl rfl, Below.refl _ _⟩
  · obtain ⟨g, cap, e, -, -⟩ := World.ownsRow.form ho h0
    injection e with e1 _ e3
    subst e1
    refine (markStringS_own B g c ts.length ts w ho hn).mono ?_
    rintro e w' ⟨rfl, hg, ho'⟩
    refine ⟨rfl, Row.of_own ho' (fun _ => h0), (Below.refl _ _).grown hg hB (fun j hj => (World.ownsRow.lt ho j hj).1)⟩
end Go.Proofs.YtdjfglebnblfkabDoor
