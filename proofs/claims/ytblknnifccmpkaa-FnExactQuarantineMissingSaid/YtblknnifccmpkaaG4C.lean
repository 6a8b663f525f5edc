/-
  Walks: an object of a list by its id.
  Walks: a text, an id, a list of ids, as the draws make them.
  Walks: ids in order, each once.
  Plain facts: what is reached.
-/
import Derived.Test.YtblknnifccmpkaaStoreV
import Derived.Test.YtblknnifccmpkaaPick
import Derived.Laws.BytesString
namespace Go.Proofs.Ytblknnifccmpkaa
open Go.RowKit Wo Pu

/-- r is the first place whose id is not below id. -/
def At_ (os : List Ob) (id : Int) (r : Nat) : Prop := r ≤ os.length ∧ (∀ j (hj : j < os.length), j < r → iOb os[j] < id) ∧ ∀ (h : r < os.length), id ≤ iOb os[r]
theorem at_ex (os : List Ob) (id : Int) : ∃ r, At_ os id r := by
  induction os with
  | nil => exact ⟨0, Nat.le_refl _, fun j hj => by simp at hj, fun h => by simp at h⟩
  | cons o os ih =>
    by_cases h : iOb o < id
    · obtain ⟨r, h1, h2, h3⟩ := ih
      refine ⟨r + 1, by simpa using h1, fun j hj hr => ?_, fun hr => by simpa using h3 (by simpa using hr)⟩
      cases j with
      | zero => simpa using h
      | succ j => simpa using h2 j (by simpa using hj) (by omega)
    · exact ⟨0, Nat.zero_le _, fun j _ h0 => absurd h0 (by omega), fun _ => by simpa using Int.not_lt.1 h⟩

set_option maxHeartbeats 2000000 in
theorem findObject_any (A : Option Addr) (c : Nat) (os : List Ob) (id : Int) (r : Nat) (w : World) (h : Objs w w.heap.size A os) (hf : Fit os) (hn : os.length ≤ maxLen) (hr : Hid (At_ os id r)) :
    Calls Try.prog 73 #[.slice A os.length c, .int .i64 id] w (fun e w' => ∃ b : Bool, e = .returned (.tuple #[.int .i64 r, .bool b]) ∧ (b = true ↔ ∃ h : r < os.length, iOb os[r] = id) ∧ Below w.heap.size w w') := by
  unfold maxLen at hn
  go_enter Try.func73, Try.ntmps73
  go_wp2_with fail
  go_loopw [6] (fun i wr => ∃ k : Nat, k ≤ r ∧ i = .int .i64 k ∧ Below w.heap.size w wr) (fun i _ => r - (intOf i).toNat)
  case atStart => exact ⟨0, Nat.zero_le _, rfl, Below.refl _ _⟩
  case round =>
    obtain ⟨k, hk, rfl, hb⟩ := hrel
    have hz := hb.size
    by_cases hlt : k < os.length
    · obtain ⟨o, ad, A', c', ho, rfl, ha, g0, g1, g2, g3⟩ := (h.below hb (Nat.le_refl _)).obj hlt
      have hfk := hf os[k] (List.getElem_mem hlt)
      rw [ho] at hfk
      have k0 : 0 ≤ (k : Int) := by omega
      have k1 : (k : Int) < (os.length : Int) := by omega
      by_cases hkr : k < r
      · have HI : Hid (iOb o < id) := by show iOb o < id; rw [← ho]; exact (hr.out).2.1 k hlt hkr
        clear ho
        go_wp2_with fail
        refine (implId_any w.heap.size A' c' o.kd o.zs o.s _ g3 hz hfk.1 hfk.2).mono ?_
        rintro e w2 ⟨rfl, hb2⟩
        have hi : oid o.kd o.zs o.s.data.toList = iOb o := rfl
        rw [hi]
        clear hi
        have hi := HI.out
        clear HI
        go_wp2
        go_roundw
        case rel => exact ⟨k + 1, by omega, by go_num, hb.trans (hb2.mono hz)⟩
        case measure => simp [intOf]; omega
      · have hkr' : k = r := by omega
        subst hkr'
        have HI : Hid (id ≤ iOb o) := by show id ≤ iOb o; rw [← ho]; exact (hr.out).2.2 hlt
        have HE : Hid ((∃ h : k < os.length, iOb os[k] = id) ↔ iOb o = id) := ⟨fun ⟨_, e⟩ => by rw [ho] at e; exact e, fun e => ⟨hlt, by rw [ho]; exact e⟩⟩
        clear ho
        go_wp2_with fail
        refine (implId_any w.heap.size A' c' o.kd o.zs o.s _ g3 hz hfk.1 hfk.2).mono ?_
        rintro e w2 ⟨rfl, hb2⟩
        have hi : oid o.kd o.zs o.s.data.toList = iOb o := rfl
        rw [hi]
        clear hi
        have hi := HI.out
        clear HI
        have G0 := (hb2.cell (Nat.lt_of_lt_of_le ha hz)).trans g0
        have G1 := (hb2.cell (p := ⟨(ad.add (k * 3)).block, (ad.add (k * 3)).off + 1, none⟩) (Nat.lt_of_lt_of_le ha hz)).trans g1
        have G2 := (hb2.cell (p := ⟨(ad.add (k * 3)).block, (ad.add (k * 3)).off + 2, none⟩) (Nat.lt_of_lt_of_le ha hz)).trans g2
        have b2 := hb.trans (hb2.mono hz)
        have r2 := g3.below hb2 hz
        clear g0 g1 g2 g3 hb2 hb
        by_cases he : iOb o = id
        · go_wp2_with fail
          refine (implId_any w.heap.size A' c' o.kd o.zs o.s _ r2 b2.size hfk.1 hfk.2).mono ?_
          rintro e w3 ⟨rfl, hb3⟩
          have hi2 : oid o.kd o.zs o.s.data.toList = iOb o := rfl
          rw [hi2]
          clear hi2
          go_wp2
          refine bodyPost_ret (v := .tuple #[.int .i64 (k : Nat), .bool true]) (by simp [results, Try.results73, go_sem]) rfl ?_
          exact ⟨true, rfl, ⟨fun _ => HE.out.2 he, fun _ => rfl⟩, b2.trans (hb3.mono b2.size)⟩
        · go_wp2_with fail
          refine (implId_any w.heap.size A' c' o.kd o.zs o.s _ r2 b2.size hfk.1 hfk.2).mono ?_
          rintro e w3 ⟨rfl, hb3⟩
          have hi2 : oid o.kd o.zs o.s.data.toList = iOb o := rfl
          rw [hi2]
          clear hi2
          go_wp2
          refine bodyPost_ret (v := .tuple #[.int .i64 (k : Nat), .bool false]) (by simp [results, Try.results73, go_sem, he]) rfl ?_
          exact ⟨false, rfl, ⟨fun e => (by cases e), fun e => absurd (HE.out.1 e) he⟩, b2.trans (hb3.mono b2.size)⟩
    · have hk' : k = os.length := by have := hr.out.1; omega
      have hr' : r = os.length := Nat.le_antisymm hr.out.1 (by omega)
      subst hr'
      subst hk'
      go_wp2
      refine bodyPost_ret (v := .tuple #[.int .i64 (os.length : Nat), .bool false]) (by simp [results, Try.results73, go_sem]) rfl ?_
      exact ⟨false, rfl, ⟨fun e => (by cases e), fun ⟨e, _⟩ => absurd e (by omega)⟩, hb⟩

set_option maxHeartbeats 2000000 in
theorem l1Get_any (A : Option Addr) (c : Nat) (os : List Ob) (id : Int) (r : Nat) (res : Int) (w : World) (h : Objs w w.heap.size A os) (hn : os.length ≤ maxLen) (hres : Hid (res = if r < os.length then (r : Int) else -1)) (hv : Hid (∀ i (hi : i < os.length), vOb os[i] = true)) (hr : Hid (r ≤ os.length ∧ (∀ j (hj : j < os.length), j < r → ¬ iOb os[j] = id) ∧ ∀ (h : r < os.length), iOb os[r] = id)) :
    Calls Try.prog 114 #[.slice A os.length c, .int .i64 id] w (Ret (.int .i64 res) w) := by
  unfold maxLen at hn
  go_enter Try.func114, Try.ntmps114
  go_wp2_with fail
  go_loopw [5] (fun i wr => ∃ k : Nat, k ≤ r ∧ i = .int .i64 k ∧ Below w.heap.size w wr) (fun i _ => r - (intOf i).toNat)
  case atStart => exact ⟨0, Nat.zero_le _, rfl, Below.refl _ _⟩
  case round =>
    obtain ⟨k, hk, rfl, hb⟩ := hrel
    have hz := hb.size
    by_cases hlt : k < os.length
    · obtain ⟨o, ad, A', c', ho, rfl, ha, g0, g1, g2, g3⟩ := (h.below hb (Nat.le_refl _)).obj hlt
      have VO : Hid (vOb o = true) := by show vOb o = true; rw [← ho]; exact hv.out k hlt
      have k0 : 0 ≤ (k : Int) := by omega
      have k1 : (k : Int) < (os.length : Int) := by omega
      by_cases hkr : k < r
      · have hne : ¬ iOb o = id := by rw [← ho]; exact (hr.out).2.1 k hlt hkr
        clear ho
        go_wp2_with fail
        refine (l1Of_val _ w.heap.size A' c' o _ g3 hz VO.out rfl).mono ?_
        rintro e w2 ⟨rfl, hb2⟩
        go_wp2
        go_roundw
        case rel => exact ⟨k + 1, by omega, by go_num, hb.trans (hb2.mono hz)⟩
        case measure => simp [intOf]; omega
      · have hkr' : k = r := by omega
        subst hkr'
        have heq : iOb o = id := by rw [← ho]; exact (hr.out).2.2 hlt
        clear ho
        go_wp2_with fail
        refine (l1Of_val _ w.heap.size A' c' o _ g3 hz VO.out heq).mono ?_
        rintro e w2 ⟨rfl, hb2⟩
        clear heq
        go_wp2
        go_ret
        rw [hres.out, if_pos hlt]
        exact .mk_ (hb.trans (hb2.mono hz))
    · have hk' : k = os.length := by have := hr.out.1; omega
      have hr' : r = os.length := Nat.le_antisymm hr.out.1 (by omega)
      subst hr'
      subst hk'
      go_wp2
      go_ret
      rw [hres.out, if_neg (by omega)]
      exact .mk_ hb
end Go.Proofs.Ytblknnifccmpkaa
namespace Go.Proofs.Ytblknnifccmpkaa
open Go.RowKit Wo Pu


theorem conv_one (w : World) (x : Int) (h0 : 0 ≤ x) (h1 : x < 256) : ∃ b : UInt8, (convert 22 9 (.slice (some ⟨w.heap.size, 0, none⟩) 1 1)).run Try.prog (w.alloc (.cells #[.int .u8 x] 5)) = .ok (.string ⟨#[b]⟩) (w.alloc (.cells #[.int .u8 x] 5)) := by
  refine ⟨UInt8.ofNat x.toNat, ?_⟩
  have hb : ((UInt8.ofNat x.toNat).toNat : Int) = x := by
    rw [UInt8.toNat_ofNat']
    omega
  refine run_convert_bytes_back (P := Try.prog) (w.alloc (.cells #[.int .u8 x] 5)) 22 9 5 ⟨w.heap.size, 0, none⟩ 1 [UInt8.ofNat x.toNat] Try.underlying22 Try.underlying5 Try.underlying9 ?_
  intro j hj
  simp only [List.length_cons, List.length_nil] at hj
  obtain rfl : j = 0 := by omega
  simp only [List.getElem_cons_zero, hb, add_zero]
  simp [go_sem]
theorem app_size (s : ByteArray) (b : UInt8) (k : Nat) (h : s.size ≤ k) : (s ++ (⟨#[b]⟩ : ByteArray)).size ≤ k + 1 := by
  rw [ByteArray.size_append]
  have : (⟨#[b]⟩ : ByteArray).size = 1 := rfl
  omega

set_option maxHeartbeats 4000000 in
theorem l91Text_any (R : Nat) (q : Int) (w : World) (hR : Rd w R q) (hq : q ≤ 900000000) :
    Calls Try.prog 119 #[.pointer (some ⟨R, 0, none⟩)] w (TextDrawn R q 20 9 w) := by
  go_enter Try.func119, Try.ntmps119
  go_wp2_with fail
  refine (pick_any R q 9 w hR (by omega) (by omega) (by omega)).mono ?_
  rintro e w1 ⟨n1, rfl, a0, a1, hR1, hT1⟩
  go_wp2_with fail
  refine (pick_any R (q + 1) 24 w1 hR1 (by omega) (by omega) (by omega)).mono ?_
  rintro e w2 ⟨n2, rfl, b0, b1, hR2, hT2⟩
  have hT := hT1.trans hT2
  clear hT1 hT2 hR1 hR
  by_cases h0 : n2 = 0
  · have e0 : (n2 == 0) = true := by rw [h0]; rfl
    clear h0
    go_wp2_with fail
    refine (pick_any R (q + 1 + 1) 2 w2 hR2 (by omega) (by omega) (by omega)).mono ?_
    rintro e w3 ⟨n3, rfl, c0, c1, hR3, hT3⟩
    have hT4 := hT.trans hT3
    clear hT hT3 hR2
    go_wp2_with fail
    go_loopw [3, 5] (fun t i wr => ∃ (k : Nat) (s : ByteArray), (k : Int) ≤ (8 + n3) ∧ i = .int .i64 k ∧ t = .string s ∧ s.size ≤ k ∧ Rd wr R ((q + 1 + 1 + 1) + k) ∧ But R w wr) (fun _ i _ => ((8 + n3)).toNat - (intOf i).toNat)
    case atStart => exact ⟨0, ⟨#[]⟩, by omega, rfl, rfl, Nat.le_refl _, by simpa using hR3, hT4⟩
    case round =>
      clear hT4 hR3
      obtain ⟨k, s, hk, rfl, rfl, hs, hRk, hTk⟩ := hrel
      by_cases hlt : (k : Int) < (8 + n3)
      · go_wp2_with fail
        refine (pick_any R _ 3 _ hRk (by omega) (by omega) (by omega)).mono ?_
        rintro e w9 ⟨x, rfl, x0, x1, hR9, hT9⟩
        obtain ⟨b, hcv⟩ := conv_one w9 (97 + x) (by omega) (by omega)
        have hz := Rd.lt hR9
        go_wp2_with fail
        go_roundw
        case rel => exact ⟨k + 1, _, by omega, by go_num, rfl, app_size s b k hs, (hR9.below ((Below.refl w9.heap.size w9).alloc (Nat.le_refl _) _) hz).more (by omega), (hTk.trans hT9).trans (.of_below ((Below.refl w9.heap.size w9).alloc (Nat.le_refl _) _))⟩
        case measure => simp [intOf]; omega
      · go_wp2
        go_ret
        exact ⟨s, rfl, by omega, hRk.more (by omega), hTk⟩
  · have e0 : (n2 == 0) = false := by rw [beq_eq_false_iff_ne]; omega
    clear h0
    go_wp2_with fail
    go_loopw [3, 5] (fun t i wr => ∃ (k : Nat) (s : ByteArray), (k : Int) ≤ n1 ∧ i = .int .i64 k ∧ t = .string s ∧ s.size ≤ k ∧ Rd wr R ((q + 1 + 1) + k) ∧ But R w wr) (fun _ i _ => (n1).toNat - (intOf i).toNat)
    case atStart => exact ⟨0, ⟨#[]⟩, by omega, rfl, rfl, Nat.le_refl _, by simpa using hR2, hT⟩
    case round =>
      clear hT hR2
      obtain ⟨k, s, hk, rfl, rfl, hs, hRk, hTk⟩ := hrel
      by_cases hlt : (k : Int) < n1
      · go_wp2_with fail
        refine (pick_any R _ 3 _ hRk (by omega) (by omega) (by omega)).mono ?_
        rintro e w9 ⟨x, rfl, x0, x1, hR9, hT9⟩
        obtain ⟨b, hcv⟩ := conv_one w9 (97 + x) (by omega) (by omega)
        have hz := Rd.lt hR9
        go_wp2_with fail
        go_roundw
        case rel => exact ⟨k + 1, _, by omega, by go_num, rfl, app_size s b k hs, (hR9.below ((Below.refl w9.heap.size w9).alloc (Nat.le_refl _) _) hz).more (by omega), (hTk.trans hT9).trans (.of_below ((Below.refl w9.heap.size w9).alloc (Nat.le_refl _) _))⟩
        case measure => simp [intOf]; omega
      · go_wp2
        go_ret
        exact ⟨s, rfl, by omega, hRk.more (by omega), hTk⟩


/-- A number has been drawn. -/
def NumDrawn (R : Nat) (q d : Int) (w : World) (e : Ending) (w' : World) : Prop := ∃ x : Int, e = .returned (.int .i64 x) ∧ -1 ≤ x ∧ x ≤ 999 ∧ Rd w' R (q + d) ∧ But R w w'

set_option maxHeartbeats 4000000 in
theorem l91Id_any (R : Nat) (q : Int) (w : World) (hR : Rd w R q) (hq : q ≤ 900000000) :
    Calls Try.prog 108 #[.pointer (some ⟨R, 0, none⟩)] w (NumDrawn R q 3 w) := by
  go_enter Try.func108, Try.ntmps108
  go_wp2_with fail
  refine (pick_any R q 30 w hR (by omega) (by omega) (by omega)).mono ?_
  rintro e w1 ⟨n1, rfl, a0, a1, hR1, hT1⟩
  by_cases h0 : n1 = 0
  · have e0 : (n1 == 0) = true := by rw [h0]; rfl
    clear h0
    go_wp2_with fail
    have hbA := (Below.refl w1.heap.size w1).alloc (Nat.le_refl _) (.cells #[.int .i64 (-1), .int .i64 990, .int .i64 991] 3)
    have hz := hR1.lt
    refine (pick_any R (q + 1) 3 _ (hR1.below hbA hz) (by omega) (by omega) (by omega)).mono ?_
    rintro e w2 ⟨n2, rfl, b0, b1, hR2, hT2⟩
    have bx : Box3 w2 w1.heap.size (.int .i64 (-1)) (.int .i64 990) (.int .i64 991) := hT2.box (Box3.new_ w1 _ _ _ _) (by omega)
    have hTT := (hT1.trans (.of_below hbA)).trans hT2
    obtain ⟨_, p0, p1, p2⟩ := bx
    have key : n2 = 0 ∨ n2 = 1 ∨ n2 = 2 := by omega
    rcases key with rfl | rfl | rfl
    · go_wp2
      go_ret
      exact ⟨_, rfl, by omega, by omega, hR2.more (by omega), hTT⟩
    · go_wp2
      go_ret
      exact ⟨_, rfl, by omega, by omega, hR2.more (by omega), hTT⟩
    · go_wp2
      go_ret
      exact ⟨_, rfl, by omega, by omega, hR2.more (by omega), hTT⟩
  · have e0 : (n1 == 0) = false := by rw [beq_eq_false_iff_ne]; omega
    go_wp2_with fail
    refine (pick_any R (q + 1) 99 _ hR1 (by omega) (by omega) (by omega)).mono ?_
    rintro e w2 ⟨n2, rfl, b0, b1, hR2, hT2⟩
    go_wp2_with fail
    refine (pick_any R (q + 1 + 1) 10 _ hR2 (by omega) (by omega) (by omega)).mono ?_
    rintro e w3 ⟨n3, rfl, c0, c1, hR3, hT3⟩
    go_wp2
    go_ret
    exact ⟨_, rfl, by omega, by omega, hR3.more (by omega), (hT1.trans hT2).trans hT3⟩

set_option maxHeartbeats 1000000 in
theorem l1Has_any (B : Nat) (A : Option Addr) (c : Nat) (zs : List Int) (x : Int) (w : World) (hr : Row w B A (ints zs)) (hm : zs.length ≤ maxLen) :
    Calls Try.prog 123 #[.slice A zs.length c, .int .i64 x] w (Same (.bool (decide (x ∈ zs))) w) := by
  unfold maxLen at hm
  go_enter Try.func123, Try.ntmps123
  go_wp2
  go_loop [5] (fun i => ∃ k : Nat, k ≤ zs.length ∧ i = .int .i64 k ∧ Hid (x ∉ zs.take k)) (fun i => zs.length - (intOf i).toNat)
  case atStart => exact ⟨0, Nat.zero_le _, rfl, by show x ∉ zs.take 0; simp⟩
  case round =>
    obtain ⟨k, hk, rfl, H⟩ := hrel
    by_cases hlt : k < zs.length
    · obtain ⟨ad, rfl, hb, hc⟩ := hr.int_ hlt
      by_cases he : zs[k] = x
      · have e0 : (zs[k] == x) = true := by rw [beq_iff_eq]; exact he
        have F := hid (decide_eq_true (show x ∈ zs by rw [← he]; exact List.getElem_mem hlt))
        clear he
        go_wp2
        go_ret
        rw [F.out]
        exact ⟨rfl, rfl⟩
      · have e0 : (zs[k] == x) = false := by rw [beq_eq_false_iff_ne]; exact he
        have H2 : Hid (x ∉ zs.take (k + 1)) := by
          show x ∉ zs.take (k + 1)
          rw [List.take_succ_eq_append_getElem hlt, List.mem_append]
          rintro (h | h)
          · exact H.out h
          · exact he (List.mem_singleton.1 h).symm
        clear he H
        go_wp2
        go_round
        case rel => exact ⟨k + 1, by omega, by go_num, H2⟩
        case measure => simp [intOf]; omega
    · have hk' : k = zs.length := by omega
      have F := hid (decide_eq_false (show x ∉ zs by have := H.out; rwa [hk', List.take_length] at this))
      clear H
      subst hk'
      go_wp2
      go_ret
      rw [F.out]
      exact ⟨rfl, rfl⟩
end Go.Proofs.Ytblknnifccmpkaa
namespace Go.Proofs.Ytblknnifccmpkaa
open Go.RowKit Wo Pu

/-- The numbers below k that are among zs, in order. -/
def sortedTo (zs : List Int) (k : Nat) : List Int := ((List.range k).map (fun i : Nat => (i : Int))).filter (fun x => decide (x ∈ zs))
theorem sortedTo_zero (zs : List Int) : sortedTo zs 0 = [] := rfl
theorem sortedTo_yes {zs : List Int} {k : Nat} (h : (k : Int) ∈ zs) : sortedTo zs (k + 1) = sortedTo zs k ++ [(k : Int)] := by
  simp [sortedTo, List.range_succ, h]
theorem sortedTo_no {zs : List Int} {k : Nat} (h : (k : Int) ∉ zs) : sortedTo zs (k + 1) = sortedTo zs k := by
  simp [sortedTo, List.range_succ, h]
theorem sortedTo_length (zs : List Int) (k : Nat) : (sortedTo zs k).length ≤ k := by
  have := List.length_filter_le (fun x => decide (x ∈ zs)) ((List.range k).map (fun i : Nat => (i : Int)))
  simpa [sortedTo] using this

/-- The slice v, of the call's own, holds the numbers zs. -/
def Own (w : World) (B : Nat) (v : Value) (zs : List Int) : Prop := w.ownsRow B 3 1 v zs.length (ints zs)
theorem Own.form {w : World} {B : Nat} {v : Value} {zs : List Int} (h : Own w B v zs) : ∃ (A : Option Addr) (c : Nat), v = .slice A zs.length c ∧ Row w w.heap.size A (ints zs) := by
  have h' := h
  obtain ⟨h1, h2⟩ := h
  rcases h2 with ⟨rfl, h0⟩ | ⟨g, cap, cur, rfl, _⟩
  · refine ⟨none, 0, by rw [h0], ?_⟩
    have : zs = [] := List.eq_nil_of_length_eq_zero h0
    subst this
    exact .inl rfl
  · refine ⟨_, _, rfl, Row.of_own h' (fun hx => ?_)⟩
    rcases Nat.eq_zero_or_pos zs.length with h0 | h0
    · have : zs = [] := List.eq_nil_of_length_eq_zero h0
      subst this
      exact absurd rfl hx
    · exact h0
theorem Own.row {w : World} {B c : Nat} {A : Option Addr} {zs : List Int} (h : Own w B (.slice A zs.length c) zs) : Row w w.heap.size A (ints zs) := by
  obtain ⟨A', c', e, hr⟩ := h.form
  injection e with e1
  subst e1
  exact hr
theorem Own.below {w w' : World} {B C : Nat} {v : Value} {zs : List Int} (h : Own w B v zs) (hb : Below C w w') (hC : w.heap.size ≤ C) : Own w' B v zs := by
  obtain ⟨h1, h2⟩ := h
  refine ⟨h1, ?_⟩
  rcases h2 with h2 | ⟨g, cap, cur, hv, hB, hh, hr⟩
  · exact .inl h2
  · refine .inr ⟨g, cap, cur, hv, hB, ?_, hr⟩
    have hl : g < w.heap.size := by
      rcases Nat.lt_or_ge g w.heap.size with h3 | h3
      · exact h3
      · rw [Array.getElem?_eq_none h3] at hh; cases hh
    rw [hb.block g (by omega)]
    exact hh
theorem Own.but {w w' : World} {R B : Nat} {v : Value} {zs : List Int} (h : Own w B v zs) (hb : But R w w') (hR : R < B) : Own w' B v zs :=
  World.ownsRow.kept h hb (by
    rcases hv : v.ownBlock with _ | k
    · exact .inl rfl
    · refine .inr (fun e => ?_)
      have := (World.ownsRow.lt h k hv).1
      injection e with e
      omega)
theorem Own.nil_new {w : World} {B : Nat} (hB : B ≤ w.heap.size) : Own (w.alloc (.cells #[] 3)) B (.slice (some ⟨w.heap.size, 0, none⟩) 0 0) [] :=
  ⟨rfl, .inr ⟨w.heap.size, 0, #[], rfl, hB, heap_alloc_new w _, Nat.le_refl _, by decide, rfl, rfl⟩⟩
/-- Behind it: a slice of the call's own with the numbers zs. -/
def NewOwn (zs : List Int) (w : World) (e : Ending) (w' : World) : Prop := ∃ v, e = .returned v ∧ Own w' w.heap.size v zs ∧ Below w.heap.size w w'
theorem Own.app {w' : World} {B : Nat} {v' : Value} {zs : List Int} {x : Int} (h : w'.ownsRow B 3 1 v' (zs.length + 1) (ints zs ++ [.int .i64 x])) : Own w' B v' (zs ++ [x]) := by
  have e : (zs ++ [x]).length = zs.length + 1 := by simp
  have e2 : ints (zs ++ [x]) = ints zs ++ [.int .i64 x] := by simp [ints]
  unfold Own
  rw [e, e2]
  exact h
theorem Own.lt {w : World} {B : Nat} {v : Value} {zs : List Int} (h : Own w B v zs) : ∀ k, v.ownBlock = some k → B ≤ k := fun k hk => (World.ownsRow.lt h k hk).1

theorem one_int (k : Int) : ∀ u ∈ [Value.int .i64 k], u.oneCell' = true := by
  intro u hu
  rw [List.mem_singleton.1 hu]
  rfl

set_option maxRecDepth 100000 in
set_option maxHeartbeats 2000000 in
theorem l1Sorted_any (B : Nat) (A : Option Addr) (c : Nat) (zs : List Int) (w : World) (hr : Row w B A (ints zs)) (hB : B ≤ w.heap.size) (hm : zs.length ≤ maxLen) :
    Calls Try.prog 107 #[.slice A zs.length c] w (NewOwn (sortedTo zs 991) w) := by
  obtain ⟨i0, hi, hz0, hz1, hz2⟩ := info_of info_int
  go_enter Try.func107, Try.ntmps107
  go_wp2_with fail
  go_loopw [3, 4] (fun v i wr => ∃ k : Nat, k ≤ 991 ∧ i = .int .i64 k ∧ Own wr w.heap.size v (sortedTo zs k) ∧ Below w.heap.size w wr) (fun _ i _ => 991 - (intOf i).toNat)
  case atStart => exact ⟨0, by omega, rfl, Own.nil_new (Nat.le_refl _), (Below.refl _ _).alloc (Nat.le_refl _) _⟩
  case round =>
    obtain ⟨k, hk, rfl, ho, hb⟩ := hrel
    have hrk := hr.below hb hB
    have hz := hb.size
    have hlen := sortedTo_length zs k
    by_cases hlt : k < 991
    · cases hx : decide ((k : Int) ∈ zs)
      · have H := hid (sortedTo_no (of_decide_eq_false hx))
        go_wp2_with (go_at_call 123; refine (l1Has_any B A c zs k _ hrk hm).mono ?_; rintro e w' ⟨rfl, rfl⟩)
        go_roundw
        case rel => exact ⟨k + 1, by omega, by go_num, by rw [H.out]; exact ho, hb⟩
        case measure => simp [intOf]; omega
      · have H := hid (sortedTo_yes (of_decide_eq_true hx))
        go_wp2_with (first
          | (go_at_call 123; refine (l1Has_any B A c zs k _ hrk hm).mono ?_; rintro e w' ⟨rfl, rfl⟩)
          | (at_builtin; go_must (refine wpList_append_own _ rfl _ _ 36 rfl w.heap.size 3 i0 (.int .i64 0) 1 8 Try.underlying36 hi hz0 hz1 hz2 rfl (by decide) _ _ _ rfl (World.ownsRow.alloc ho _) ⟨wr.heap.size, 0, none⟩ 1 1 [.int .i64 k] rfl rfl (cell_one_new _ _ _) (one_int k) (by unfold maxLen; omega) (by omega) (by simp; omega) ?_); intro v' w1 hown hg _))
        have ho1 := Own.app hown
        have hb1 : Below w.heap.size w w1 := (hb.alloc hz _).grown hg (by simp; omega) (ho.lt)
        clear hown hg
        go_wp2
        go_roundw
        case rel => exact ⟨k + 1, by omega, by go_num, by rw [H.out]; exact ho1, hb1⟩
        case measure => simp [intOf]; omega
    · have hk' : k = 991 := by omega
      subst hk'
      go_wp2
      go_ret
      exact ⟨_, rfl, ho, hb⟩
end Go.Proofs.Ytblknnifccmpkaa
namespace Go.Proofs.Ytblknnifccmpkaa
open Pu

/-- What is reached from ids. -/
inductive Rc (os : List Ob) (fr : List Int) : Int → Prop
  | base {x : Int} (h : x ∈ fr) : Rc os fr x
  | link {o : Ob} {y : Int} (ho : o ∈ os) (h : Rc os fr (iOb o)) (hy : y ∈ o.zs) : Rc os fr y
theorem Rc.closed {os : List Ob} {fr L : List Int} {x : Int} (h1 : ∀ x ∈ fr, x ∈ L) (h2 : ∀ o ∈ os, iOb o ∈ L → ∀ y ∈ o.zs, y ∈ L) (h : Rc os fr x) : x ∈ L := by
  induction h with
  | base h => exact h1 _ h
  | link ho _ hy ih => exact h2 _ ho ih _ hy
/-- The ids that are reached, as a list. -/
def RcList (os : List Ob) (fr L : List Int) : Prop := ∀ x, x ∈ L ↔ Rc os fr x
theorem sortedTo_mem {L : List Int} {k : Nat} {x : Int} : x ∈ sortedTo L k ↔ x ∈ L ∧ 0 ≤ x ∧ x < k := by
  unfold sortedTo
  rw [List.mem_filter, List.mem_map, decide_eq_true_eq]
  constructor
  · rintro ⟨⟨i, hi, rfl⟩, hx⟩
    have := List.mem_range.1 hi
    exact ⟨hx, by omega, by omega⟩
  · rintro ⟨hx, h0, h1⟩
    exact ⟨⟨x.toNat, List.mem_range.2 (by omega), by omega⟩, hx⟩
theorem sortedTo_congr {L M : List Int} (h : ∀ x, x ∈ L ↔ x ∈ M) (k : Nat) : sortedTo L k = sortedTo M k := by
  unfold sortedTo
  congr 1
  funext x
  rw [Bool.eq_iff_iff, decide_eq_true_eq, decide_eq_true_eq]
  exact h x
theorem RcList.one {os : List Ob} {fr L M : List Int} (h : RcList os fr L) (h' : RcList os fr M) (k : Nat) : sortedTo L k = sortedTo M k := sortedTo_congr (fun x => (h x).trans (h' x).symm) k
/-- Is an id an object's? -/
def isIn (os : List Ob) (x : Int) : Bool := os.any (fun o => decide (iOb o = x))
theorem isIn_iff {os : List Ob} {x : Int} : isIn os x = true ↔ ∃ o ∈ os, iOb o = x := by
  unfold isIn
  simp [List.any_eq_true]
theorem isIn_at_ {os : List Ob} {x : Int} {r : Nat} (hs : stB (-1) os = true) (hr : At_ os x r) : isIn os x = true ↔ ∃ h : r < os.length, iOb os[r] = x := by
  rw [isIn_iff]
  constructor
  · rintro ⟨o, ho, he⟩
    obtain ⟨i, hi, rfl⟩ := List.mem_iff_getElem.1 ho
    have hsort := stB_sorted hs
    by_cases h1 : i < r
    · have := hr.2.1 i hi h1; omega
    · have h3 : r < os.length := by omega
      by_cases h2 : i = r
      · subst h2; exact ⟨hi, he⟩
      · have h4 := hr.2.2 h3
        have h5 := (hsort r h3).2 i hi (by omega)
        omega
  · rintro ⟨h, he⟩
    exact ⟨_, List.getElem_mem h, he⟩
theorem isIn_at {os : List Ob} {x : Int} {r : Nat} (hs : storeB os = true) (hr : At_ os x r) : isIn os x = true ↔ ∃ h : r < os.length, iOb os[r] = x := isIn_at_ (storeB_parts hs).1 hr
/-- The answers. -/
def reachL (os : List Ob) (L : List Int) : List Int := (sortedTo L 991).filter (isIn os)
def missL (os : List Ob) (L : List Int) : List Int := (sortedTo L 991).filter (fun x => !isIn os x)
theorem nodup_le {L : List Int} : ∀ {M : List Int}, L.Nodup → (∀ x ∈ L, x ∈ M) → L.length ≤ M.length := by
  induction L with
  | nil => intro M _ _; exact Nat.zero_le _
  | cons a L ih =>
    intro M hn h
    rw [List.nodup_cons] at hn
    have ha := h a (by simp)
    have h1 := ih (M := M.erase a) hn.2 (fun x hx => by
      have hxa : x ≠ a := fun e => hn.1 (e ▸ hx)
      exact (List.mem_erase_of_ne hxa).2 (h x (List.mem_cons_of_mem _ hx)))
    have h2 := List.length_erase_of_mem ha
    have h3 := List.length_pos_of_mem ha
    rw [List.length_cons]
    omega
theorem range_le {L : List Int} (hn : L.Nodup) (h : ∀ x ∈ L, 0 ≤ x ∧ x < 991) : L.length ≤ 991 := by
  have := nodup_le (M := (List.range 991).map (fun i : Nat => (i : Int))) hn (fun x hx => List.mem_map.2 ⟨x.toNat, List.mem_range.2 (by have := h x hx; omega), by have := h x hx; omega⟩)
  rw [List.length_map, List.length_range] at this
  exact this
theorem nodup_app {L : List Int} {x : Int} (h : L.Nodup) (hx : x ∉ L) : (L ++ [x]).Nodup := by
  rw [List.nodup_append]
  refine ⟨h, by simp, fun a ha b hb => ?_⟩
  rw [List.mem_singleton] at hb
  subst hb
  exact fun e => hx (e ▸ ha)
end Go.Proofs.Ytblknnifccmpkaa
