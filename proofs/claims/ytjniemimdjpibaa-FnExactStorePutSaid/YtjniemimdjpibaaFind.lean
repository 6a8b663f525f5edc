/-
  Walks: an object of a list by its id.
-/
import Derived.Test.YtjniemimdjpibaaStoreV
namespace Go.Proofs.Ytjniemimdjpibaa
open Go.RowKit Wo Pu

/-- r is the first place whose id is not below id. -/
def At_ (os : List Ob) (id : Int) (r : Nat) : Prop := r ≤ os.length ∧ (∀ j (hj : j < os.length), j < r → iOb os[j] < id) ∧ ∀ (h : r < os.length), id ≤ iOb os[r]
theorem at_ex (os : List Ob) (id : Int) : ∃ r, At_ os id r := by
  induction os with
  | nil => exact ⟨0, Nat.le_refl _, fun j hj => by simp at hj, fun h => by simp at h⟩
  | cons o os ih =>
    by_cases h : iOb o < id
    · obtain ⟨r, h1, h2, h3⟩ := ih
      refine ⟨r + 1, by simpa using h1, fun j hj hr => ?_, fun hr => by simpa using h3 (by simpa using hr)⟩
      cases j with
      | zero => simpa using h
      | succ j => simpa using h2 j (by simpa using hj) (by omega)
    · exact ⟨0, Nat.zero_le _, fun j _ h0 => absurd h0 (by omega), fun _ => by simpa using Int.not_lt.1 h⟩

set_option maxHeartbeats 2000000 in
theorem findObject_any (A : Option Addr) (c : Nat) (os : List Ob) (id : Int) (r : Nat) (w : World) (h : Objs w w.heap.size A os) (hf : Fit os) (hn : os.length ≤ maxLen) (hr : Hid (At_ os id r)) :
    Calls Try.prog 33 #[.slice A os.length c, .int .i64 id] w (fun e w' => ∃ b : Bool, e = .returned (.tuple #[.int .i64 r, .bool b]) ∧ (b = true ↔ ∃ h : r < os.length, iOb os[r] = id) ∧ Below w.heap.size w w') := by
  unfold maxLen at hn
  go_enter Try.func33, Try.ntmps33
  go_wp2_with fail
  go_loopw [6] (fun i wr => ∃ k : Nat, k ≤ r ∧ i = .int .i64 k ∧ Below w.heap.size w wr) (fun i _ => r - (intOf i).toNat)
  case atStart => exact ⟨0, Nat.zero_le _, rfl, Below.refl _ _⟩
  case round =>
    obtain ⟨k, hk, rfl, hb⟩ := hrel
    have hz := hb.size
    by_cases hlt : k < os.length
    · obtain ⟨o, ad, A', c', ho, rfl, ha, g0, g1, g2, g3⟩ := (h.below hb (Nat.le_refl _)).obj hlt
      have hfk := hf os[k] (List.getElem_mem hlt)
      rw [ho] at hfk
      have k0 : 0 ≤ (k : Int) := by omega
      have k1 : (k : Int) < (os.length : Int) := by omega
      by_cases hkr : k < r
      · have HI : Hid (iOb o < id) := by show iOb o < id; rw [← ho]; exact (hr.out).2.1 k hlt hkr
        clear ho
        go_wp2_with fail
        refine (implId_any w.heap.size A' c' o.kd o.zs o.s _ g3 hz hfk.1 hfk.2).mono ?_
        rintro e w2 ⟨rfl, hb2⟩
        have hi : oid o.kd o.zs o.s.data.toList = iOb o := rfl
        rw [hi]
        clear hi
        have hi := HI.out
        clear HI
        go_wp2
        go_roundw
        case rel => exact ⟨k + 1, by omega, by go_num, hb.trans (hb2.mono hz)⟩
        case measure => simp [intOf]; omega
      · have hkr' : k = r := by omega
        subst hkr'
        have HI : Hid (id ≤ iOb o) := by show id ≤ iOb o; rw [← ho]; exact (hr.out).2.2 hlt
        have HE : Hid ((∃ h : k < os.length, iOb os[k] = id) ↔ iOb o = id) := ⟨fun ⟨_, e⟩ => by rw [ho] at e; exact e, fun e => ⟨hlt, by rw [ho]; exact e⟩⟩
        clear ho
        go_wp2_with fail
        refine (implId_any w.heap.size A' c' o.kd o.zs o.s _ g3 hz hfk.1 hfk.2).mono ?_
        rintro e w2 ⟨rfl, hb2⟩
        have hi : oid o.kd o.zs o.s.data.toList = iOb o := rfl
        rw [hi]
        clear hi
        have hi := HI.out
        clear HI
        have G0 := (hb2.cell (Nat.lt_of_lt_of_le ha hz)).trans g0
        have G1 := (hb2.cell (p := ⟨(ad.add (k * 3)).block, (ad.add (k * 3)).off + 1, none⟩) (Nat.lt_of_lt_of_le ha hz)).trans g1
        have G2 := (hb2.cell (p := ⟨(ad.add (k * 3)).block, (ad.add (k * 3)).off + 2, none⟩) (Nat.lt_of_lt_of_le ha hz)).trans g2
        have b2 := hb.trans (hb2.mono hz)
        have r2 := g3.below hb2 hz
        clear g0 g1 g2 g3 hb2 hb
        by_cases he : iOb o = id
        · go_wp2_with fail
          refine (implId_any w.heap.size A' c' o.kd o.zs o.s _ r2 b2.size hfk.1 hfk.2).mono ?_
          rintro e w3 ⟨rfl, hb3⟩
          have hi2 : oid o.kd o.zs o.s.data.toList = iOb o := rfl
          rw [hi2]
          clear hi2
          go_wp2
          refine bodyPost_ret (v := .tuple #[.int .i64 (k : Nat), .bool true]) (by simp [results, Try.results33, go_sem]) rfl ?_
          exact ⟨true, rfl, ⟨fun _ => HE.out.2 he, fun _ => rfl⟩, b2.trans (hb3.mono b2.size)⟩
        · go_wp2_with fail
          refine (implId_any w.heap.size A' c' o.kd o.zs o.s _ r2 b2.size hfk.1 hfk.2).mono ?_
          rintro e w3 ⟨rfl, hb3⟩
          have hi2 : oid o.kd o.zs o.s.data.toList = iOb o := rfl
          rw [hi2]
          clear hi2
          go_wp2
          refine bodyPost_ret (v := .tuple #[.int .i64 (k : Nat), .bool false]) (by simp [results, Try.results33, go_sem, he]) rfl ?_
          exact ⟨false, rfl, ⟨fun e => (by cases e), fun e => absurd (HE.out.1 e) he⟩, b2.trans (hb3.mono b2.size)⟩
    · have hk' : k = os.length := by have := hr.out.1; omega
      have hr' : r = os.length := Nat.le_antisymm hr.out.1 (by omega)
      subst hr'
      subst hk'
      go_wp2
      refine bodyPost_ret (v := .tuple #[.int .i64 (os.length : Nat), .bool false]) (by simp [results, Try.results33, go_sem]) rfl ?_
      exact ⟨false, rfl, ⟨fun e => (by cases e), fun ⟨e, _⟩ => absurd e (by omega)⟩, hb⟩

set_option maxHeartbeats 2000000 in
theorem l1Get_any (A : Option Addr) (c : Nat) (os : List Ob) (id : Int) (r : Nat) (res : Int) (w : World) (h : Objs w w.heap.size A os) (hn : os.length ≤ maxLen) (hres : Hid (res = if r < os.length then (r : Int) else -1)) (hv : Hid (∀ i (hi : i < os.length), vOb os[i] = true)) (hr : Hid (r ≤ os.length ∧ (∀ j (hj : j < os.length), j < r → ¬ iOb os[j] = id) ∧ ∀ (h : r < os.length), iOb os[r] = id)) :
    Calls Try.prog 48 #[.slice A os.length c, .int .i64 id] w (Ret (.int .i64 res) w) := by
  unfold maxLen at hn
  go_enter Try.func48, Try.ntmps48
  go_wp2_with fail
  go_loopw [5] (fun i wr => ∃ k : Nat, k ≤ r ∧ i = .int .i64 k ∧ Below w.heap.size w wr) (fun i _ => r - (intOf i).toNat)
  case atStart => exact ⟨0, Nat.zero_le _, rfl, Below.refl _ _⟩
  case round =>
    obtain ⟨k, hk, rfl, hb⟩ := hrel
    have hz := hb.size
    by_cases hlt : k < os.length
    · obtain ⟨o, ad, A', c', ho, rfl, ha, g0, g1, g2, g3⟩ := (h.below hb (Nat.le_refl _)).obj hlt
      have VO : Hid (vOb o = true) := by show vOb o = true; rw [← ho]; exact hv.out k hlt
      have k0 : 0 ≤ (k : Int) := by omega
      have k1 : (k : Int) < (os.length : Int) := by omega
      by_cases hkr : k < r
      · have hne : ¬ iOb o = id := by rw [← ho]; exact (hr.out).2.1 k hlt hkr
        clear ho
        go_wp2_with fail
        refine (l1Of_val _ w.heap.size A' c' o _ g3 hz VO.out rfl).mono ?_
        rintro e w2 ⟨rfl, hb2⟩
        go_wp2
        go_roundw
        case rel => exact ⟨k + 1, by omega, by go_num, hb.trans (hb2.mono hz)⟩
        case measure => simp [intOf]; omega
      · have hkr' : k = r := by omega
        subst hkr'
        have heq : iOb o = id := by rw [← ho]; exact (hr.out).2.2 hlt
        clear ho
        go_wp2_with fail
        refine (l1Of_val _ w.heap.size A' c' o _ g3 hz VO.out heq).mono ?_
        rintro e w2 ⟨rfl, hb2⟩
        clear heq
        go_wp2
        go_ret
        rw [hres.out, if_pos hlt]
        exact .mk_ (hb.trans (hb2.mono hz))
    · have hk' : k = os.length := by have := hr.out.1; omega
      have hr' : r = os.length := Nat.le_antisymm hr.out.1 (by omega)
      subst hr'
      subst hk'
      go_wp2
      go_ret
      rw [hres.out, if_neg (by omega)]
      exact .mk_ hb
end Go.Proofs.Ytjniemimdjpibaa
