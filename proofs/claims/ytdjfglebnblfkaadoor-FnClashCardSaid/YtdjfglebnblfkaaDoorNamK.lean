/-
  Words and walks for lists of texts: of the call's own, compared, marked; drawn texts.
-/
import Derived.Test.YtdjfglebnblfkaaDoorKitD
import Derived.Test.YtdjfglebnblfkaaDoorNamP
import Derived.Test.YtdjfglebnblfkaaDoorClone
import Derived.Lib.ConvBytes
import Derived.IntWalk
import Derived.Maps.AppendAt
namespace Go.Proofs.YtdjfglebnblfkaaDoor
open Go.RowKit Wo Pu Nm

theorem Ret.int_ {a b : Int} {w w' : World} (h : b = a) (hb : Below w.heap.size w w') : Ret (.int .i64 a) w (.returned (.int .i64 b)) w' := by subst h; exact ⟨rfl, hb⟩
theorem Ret.byte_ {a b : Int} {w w' : World} (h : b = a) (hb : Below w.heap.size w w') : Ret (.int .u8 a) w (.returned (.int .u8 b)) w' := by subst h; exact ⟨rfl, hb⟩
theorem Ret.val_ {a b : Value} {w w' : World} (h : b = a) (hb : Below w.heap.size w w') : Ret a w (.returned b) w' := by subst h; exact ⟨rfl, hb⟩
theorem byte_lt (b : UInt8) : (b.toNat : Int) < 256 := by have := b.toNat_lt; omega
theorem bytes_of (w : World) (s : ByteArray) : ∃ (w' : World) (cap : Nat), (convert 9 22 (.string s)).run Tryd.prog w = .ok (.slice (some ⟨w.heap.size, 0, none⟩) s.size cap) w' ∧
    Below w.heap.size w w' ∧ Hid (∀ j (hj : j < s.size), w'.cell? ⟨w.heap.size, j, none⟩ = some (.int .u8 (s[j].toNat : Int))) := by
  refine ⟨_, _, Lib.run_convert_string_bytes w 9 22 5 s Tryd.underlying9 Tryd.underlying22 Tryd.underlying5, ⟨?_, ?_, ?_, ?_, ?_⟩, fun j hj => ?_⟩
  · simp [Lib.bytesWorld, World.freeze]
    rfl
  · simp [Lib.bytesWorld, World.freeze]
  · simp [Lib.bytesWorld, World.freeze]
    rfl
  · rw [Lib.bytesWorld_size]; omega
  · intro k hk
    exact Lib.bytesWorld_at_old w _ s k hk
  · rw [Lib.bytesWorld_cell w 5 s j hj]
    have e : s.data.toList.getD j 0 = s[j] := by
      rw [List.getD_eq_getElem?_getD, List.getElem?_eq_getElem (by simpa using hj)]
      rfl
    rw [e]

/-- Texts as values. -/
def txts (ts : List ByteArray) : List Value := ts.map Value.string
/-- The slice v, of the call's own, holds the texts ts. -/
def OwnT (w : World) (B : Nat) (v : Value) (ts : List ByteArray) : Prop := w.ownsRow B 9 1 v ts.length (txts ts)
theorem info_str : (Tryd.prog.info? 9).map (fun i => (i.zero, i.size, i.bytes)) = some (some (.string ⟨#[]⟩), 1, 16) := by kernel_rfl

theorem OwnT.nil_new {w : World} {B : Nat} (hB : B ≤ w.heap.size) : OwnT (w.alloc (.cells #[] 9)) B (.slice (some ⟨w.heap.size, 0, none⟩) 0 0) [] := nil_own hB _ _
theorem OwnT.below {w w' : World} {B C : Nat} {v : Value} {ts : List ByteArray} (h : OwnT w B v ts) (hb : Below C w w') (hC : w.heap.size ≤ C) : OwnT w' B v ts := own_below h hb hC
theorem one_str (s : ByteArray) : ∀ u ∈ [Value.string s], u.oneCell' = true := by
  intro u hu
  rw [List.mem_singleton.1 hu]
  rfl
theorem OwnT.app {w' : World} {B : Nat} {v' : Value} {ts : List ByteArray} {x : ByteArray} (h : w'.ownsRow B 9 1 v' (ts.length + 1) (txts ts ++ [.string x])) : OwnT w' B v' (ts ++ [x]) := by
  have e2 : txts (ts ++ [x]) = txts ts ++ [.string x] := by simp [txts]
  unfold OwnT
  rw [List.length_append, List.length_singleton, e2]
  exact h

theorem OwnT.form {w : World} {B : Nat} {v : Value} {ts : List ByteArray} (h : OwnT w B v ts) : ∃ (A : Option Addr) (c : Nat), v = .slice A ts.length c ∧ Row w w.heap.size A (txts ts) := by
  have h' := h
  obtain ⟨h1, h2⟩ := h
  rcases h2 with ⟨rfl, h0⟩ | ⟨g, cap, cur, rfl, _⟩
  · refine ⟨none, 0, by rw [h0], ?_⟩
    have : ts = [] := List.eq_nil_of_length_eq_zero h0
    subst this
    exact .inl rfl
  · refine ⟨_, _, rfl, Row.of_own h' (fun hx => ?_)⟩
    rcases Nat.eq_zero_or_pos ts.length with h0 | h0
    · have : ts = [] := List.eq_nil_of_length_eq_zero h0
      subst this
      exact absurd rfl hx
    · exact h0
theorem txts_length (ts : List ByteArray) : (txts ts).length = ts.length := List.length_map _
theorem Wo.Row.str_ {w : World} {B : Nat} {A : Option Addr} {ts : List ByteArray} (h : Row w B A (txts ts)) {k : Nat} (hk : k < ts.length) :
    ∃ ad, A = some ad ∧ ad.block < B ∧ w.cell? (ad.add k) = some (.string ts[k]) := by
  obtain ⟨ad, e, hb, hc⟩ := h.get (k := k) (by rw [txts_length]; exact hk)
  exact ⟨ad, e, hb, by rw [hc]; simp [txts]⟩
theorem row_one (w : World) (s : ByteArray) (t : TypeId) : Row (w.alloc (.cells #[.string s] t)) (w.alloc (.cells #[.string s] t)).heap.size (some ⟨w.heap.size, 0, none⟩) (txts [s]) := by
  refine .inr ⟨_, rfl, by simp, fun j u hu => ?_⟩
  rw [add_lit]
  match j with
  | 0 => simp [txts] at hu; subst hu; simp [go_sem]
  | j + 1 => simp [txts] at hu

set_option maxHeartbeats 1000000 in
theorem sameTexts_same (B C : Nat) (A A' : Option Addr) (c c' : Nat) (ts : List ByteArray) (w : World) (hr : Row w B A (txts ts)) (hr' : Row w C A' (txts ts)) (hm : ts.length ≤ maxLen) :
    Calls Tryd.prog 14 #[.slice A ts.length c, .slice A' ts.length c'] w (Quiet (.bool true) w) := by
  unfold maxLen at hm
  go_enter Tryd.func14, Tryd.ntmps14
  go_wp2
  go_loopw [5] (fun i wr => ∃ k : Nat, k ≤ ts.length ∧ i = .int .i64 k ∧ Dr w wr) (fun i _ => ts.length - (intOf i).toNat)
  case atStart => exact ⟨0, Nat.zero_le _, rfl, .refl _⟩
  case round =>
    obtain ⟨k, hk, rfl, HW⟩ := hrel
    by_cases hlt : k < ts.length
    · obtain ⟨ad, rfl, hb, hc⟩ := (HW.row hr).str_ hlt
      obtain ⟨ad', rfl, hb', hc'⟩ := (HW.row hr').str_ hlt
      have q0 : (0 : Int) ≤ (k : Int) := by omega
      have q1 : (k : Int) < (ts.length : Int) := by omega
      go_wp2
      go_quiet (fail)
      go_wp2
      go_roundw
      case rel => exact ⟨k + 1, by omega, by go_num, HW.drewN _⟩
      case measure => simp [intOf]; omega
    · have hk' : k = ts.length := by omega
      subst hk'
      go_wp2
      go_ret
      exact HW.quiet _
theorem sameTexts_ret (A A' : Option Addr) (c c' : Nat) (ts : List ByteArray) (w : World) (hr : Row w w.heap.size A (txts ts)) (hr' : Row w w.heap.size A' (txts ts)) (hm : ts.length ≤ maxLen) :
    Calls Tryd.prog 14 #[.slice A ts.length c, .slice A' ts.length c'] w (Ret (.bool true) w) :=
  (sameTexts_same _ _ A A' c c' ts w hr hr' hm).mono fun _ _ ⟨he, d, hd⟩ => ⟨he, by subst hd; exact Wo.Below.drewN (Below.refl _ _) d⟩
/-- A drawn text. -/
def TextMade (m : Nat) (w : World) (e : Ending) (w' : World) : Prop := ∃ s : ByteArray, e = .returned (.string s) ∧ s.size ≤ m ∧ Below w.heap.size w w'
theorem txts_take (ts : List ByteArray) (m : Nat) : txts (ts.take m) = (txts ts).take m := by unfold txts; rw [List.map_take]
theorem row_txts_take {w : World} {B : Nat} {A : Option Addr} {ts : List ByteArray} (h : Row w B A (txts ts)) (m : Nat) : Row w B A (txts (ts.take m)) := by
  rw [txts_take]
  exact h.take_ m
theorem OwnT.form2 {w : World} {B : Nat} {v : Value} {ts : List ByteArray} (h : OwnT w B v ts) : ∃ (A : Option Addr) (c : Nat), v = .slice A ts.length c ∧ Row w w.heap.size A (txts ts) ∧ ts.length ≤ c := by
  obtain ⟨A, c, rfl, hr⟩ := h.form
  refine ⟨A, c, rfl, hr, ?_⟩
  rcases h.2 with ⟨h1, h0⟩ | ⟨g, cap, cur, h1, _, _, hle, _⟩
  · omega
  · injection h1 with _ _ h3
    omega
theorem txts_cells (ts : List ByteArray) : ∀ u ∈ txts ts, u.oneCell' = true := by
  intro u hu
  obtain ⟨t, _, rfl⟩ := List.mem_map.1 hu
  rfl
theorem conv_at (x : Int) (b : UInt8) (hx : x = (b.toNat : Int)) (W : World) (g : Nat) (h : W.cell? ⟨g, 0, none⟩ = some (.int .u8 x)) : (convert 22 9 (.slice (some ⟨g, 0, none⟩) 1 1)).run Tryd.prog W = .ok (.string (mk [b])) W := by
  subst hx
  refine run_convert_bytes_back (P := Tryd.prog) W 22 9 5 ⟨g, 0, none⟩ 1 [b] Tryd.underlying22 Tryd.underlying5 Tryd.underlying9 ?_
  intro j hj
  simp only [List.length_cons, List.length_nil] at hj
  obtain rfl : j = 0 := by omega
  simpa [add_zero] using h

def dig (m : Nat) : UInt8 := UInt8.ofNat (48 + m % 10)
/-- The digits of m ahead of s. -/
def mtx : Nat → Nat → ByteArray → ByteArray
  | 0, _, s => s
  | f + 1, m, s => if m = 0 then s else mtx f (m / 10) (mk [dig m] ++ s)
theorem mtx_zero (f : Nat) (s : ByteArray) : mtx f 0 s = s := by
  cases f with
  | zero => rfl
  | succ f => rw [mtx, if_pos rfl]
theorem mtx_succ {f m : Nat} (s : ByteArray) (h : ¬ m = 0) : mtx (f + 1) m s = mtx f (m / 10) (mk [dig m] ++ s) := by rw [mtx, if_neg h]
def mtext (k : Nat) : ByteArray := (⟨#[109]⟩ : ByteArray) ++ mtx k k ⟨#[]⟩
theorem dig_val (m : Nat) : 48 + (m : Int) % 10 = ((dig m).toNat : Int) := by
  unfold dig
  rw [UInt8.toNat_ofNat']
  omega

end Go.Proofs.YtdjfglebnblfkaaDoor
