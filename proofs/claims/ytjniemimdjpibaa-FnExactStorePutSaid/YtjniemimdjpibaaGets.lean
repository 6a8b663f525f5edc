/-
  Walks: StoreGet on both sides.
-/
import Derived.Test.YtjniemimdjpibaaGet
namespace Go.Proofs.Ytjniemimdjpibaa
open Go.RowKit Wo Pu

def ob0 : Ob := ⟨0, [], ⟨#[]⟩⟩
/-- What is found at the place r. -/
def fndO (os : List Ob) (id : Int) (r : Nat) : Option Ob := if storeB os then (os[r]?).filter (fun o => decide (iOb o = id)) else none
theorem fnd_a {os : List Ob} {id : Int} {r : Nat} (h : storeB os = false) : fndO os id r = none := by simp [fndO, h]
theorem fnd_b {os : List Ob} {id : Int} {r : Nat} (h : storeB os = true) (hr : r < os.length) (hi : iOb os[r] = id) : fndO os id r = some os[r] := by simp [fndO, h, hr, hi, Option.filter]
theorem fnd_c {os : List Ob} {id : Int} {r : Nat} (h : ¬ ∃ h : r < os.length, iOb os[r] = id) : fndO os id r = none := by
  unfold fndO
  split
  · by_cases hr : r < os.length
    · have : ¬ iOb os[r] = id := fun e => h ⟨hr, e⟩
      simp [hr, Option.filter, this]
    · simp [hr]
  · rfl
theorem at_none {os : List Ob} {id : Int} {r : Nat} (hs : storeB os = true) (hr : At_ os id r) (h : ¬ ∃ h : r < os.length, iOb os[r] = id) : ∀ j (hj : j < os.length), ¬ iOb os[j] = id := by
  intro j hj e
  by_cases hjr : j < r
  · have := hr.2.1 j hj hjr; omega
  · have hr2 : r < os.length := by omega
    have h1 := hr.2.2 hr2
    by_cases hjr2 : j = r
    · subst hjr2; exact h ⟨hr2, e⟩
    · have := (stB_sorted (storeB_parts hs).1 r hr2).2 j hj (by omega)
      have : ¬ iOb os[r] = id := fun e2 => h ⟨hr2, e2⟩
      omega
theorem links_few {o : Ob} (h : vOb o = true) : o.zs.length ≤ 1048576 := by
  by_cases h4 : o.zs.length ≤ 4
  · omega
  · have : vOb o = false := vld_b h4
    rw [this] at h; cases h

/-- Behind it: the object that was found, of the call's own, or none. -/
def GotOb (f : Option Ob) (w : World) (e : Ending) (w' : World) : Prop :=
  ∃ (A : Option Addr) (c : Nat), e = .returned (.tuple #[ob (f.getD ob0).kd A (f.getD ob0).zs.length c (f.getD ob0).s, .bool f.isSome]) ∧ Own w' w.heap.size (.slice A (f.getD ob0).zs.length c) (f.getD ob0).zs ∧ Below w.heap.size w w'
theorem GotOb.none_ {w w' : World} (hb : Below w.heap.size w w') : GotOb none w (.returned (.tuple #[ob 0 none 0 0 ⟨#[]⟩, .bool false])) w' :=
  ⟨none, 0, rfl, ⟨by simp [ints, ob0], .inl ⟨rfl, rfl⟩⟩, hb⟩

theorem zero_facts {w w5 : World} {C : Nat} (hb : Below C (w.alloc (.cells #[.int .i64 0, .slice none 0 0, .string ⟨#[]⟩] 26)) w5) (hC : C = (w.alloc (.cells #[.int .i64 0, .slice none 0 0, .string ⟨#[]⟩] 26)).heap.size) :
    Blk w5 w.heap.size 26 (.int .i64 0) (.slice none 0 0) (.string ⟨#[]⟩) ∧ Below w.heap.size w w5 ∧ w.heap.size + 1 ≤ w5.heap.size := by
  have u0 := Blk.new_ w 26 (.int .i64 0) (.slice none 0 0) (.string ⟨#[]⟩)
  have z1 : (w.alloc (.cells #[.int .i64 0, .slice none 0 0, .string ⟨#[]⟩] 26)).heap.size = w.heap.size + 1 := by simp
  have a0 := (Below.refl w.heap.size w).alloc (Nat.le_refl _) (.cells #[.int .i64 0, .slice none 0 0, .string ⟨#[]⟩] 26)
  generalize w.alloc (.cells #[.int .i64 0, .slice none 0 0, .string ⟨#[]⟩] 26) = x1 at *
  subst hC
  have := hb.size
  exact ⟨u0.below hb (by omega), a0.trans (hb.mono (by omega)), by omega⟩

set_option maxHeartbeats 2000000 in
theorem implStoreGet_Any (A : Option Addr) (c : Nat) (os : List Ob) (x : Int) (r : Nat) (w : World) (h : Objs w w.heap.size A os) (hf : Fit os) (hn : os.length ≤ maxLen) (hr : Hid (At_ os x r)) :
    Calls Try.prog 10 #[.slice A os.length c, .int .i64 x] w (GotOb (fndO os x r) w) := by
  have h1 : Objs (w.alloc (.cells #[.int .i64 0, .slice none 0 0, .string ⟨#[]⟩] 26)) (w.alloc (.cells #[.int .i64 0, .slice none 0 0, .string ⟨#[]⟩] 26)).heap.size A os :=
    (h.below ((Below.refl w.heap.size w).alloc (Nat.le_refl _) _) (Nat.le_refl _)).more (by simp)
  rcases hst : storeB os with _ | _
  · rw [fnd_a hst]
    go_enter Try.func10, Try.ntmps10
    go_wp2_with fail
    refine (implStoreValid_any A c os _ h1 hf hn).mono ?_
    rintro e w1 ⟨rfl, hb1⟩
    obtain ⟨t1, b1, z1⟩ := zero_facts hb1 rfl
    clear hb1
    rw [hst]
    clear hst
    obtain ⟨s0, s1, s2, sf⟩ := id t1.reads
    have sf0 := sf 0
    have sf1 := sf 1
    have sf2 := sf 2
    clear sf
    go_wp2_with fail
    refine bodyPost_ret (v := .tuple #[ob 0 none 0 0 ⟨#[]⟩, .bool false]) (by simp [results, Try.results10, go_sem, ob, s0, s1, s2]) rfl (GotOb.none_ ?_)
    exact ((b1.setCell (p := ⟨w.heap.size, 0, none⟩) (Nat.le_refl _) _).setCell (p := ⟨w.heap.size, 1, none⟩) (Nat.le_refl _) _).setCell (p := ⟨w.heap.size, 2, none⟩) (Nat.le_refl _) _
  · by_cases hex : ∃ h : r < os.length, iOb os[r] = x
    · obtain ⟨hex1, hex2⟩ := hex
      rw [fnd_b hst hex1 hex2]
      go_enter Try.func10, Try.ntmps10
      go_wp2_with fail
      refine (implStoreValid_any A c os _ h1 hf hn).mono ?_
      rintro e w1 ⟨rfl, hb1⟩
      obtain ⟨t1, b1, z1⟩ := zero_facts hb1 rfl
      clear hb1
      rw [hst]
      go_wp2_with fail
      refine (findObject_any A c os x r w1 ((h.below b1 (Nat.le_refl _)).more b1.size) hf hn hr).mono ?_
      rintro e w2 ⟨fb, rfl, hfb, hb2⟩
      replace t1 := t1.below hb2 t1.lt
      replace b1 := b1.trans (hb2.mono b1.size)
      clear hb2
      obtain rfl : fb = true := hfb.2 ⟨hex1, hex2⟩
      clear hfb
      have hz := b1.size
      have k0 : 0 ≤ (r : Int) := by omega
      have k1 : (r : Int) < (os.length : Int) := by omega
      have hvo := storeB_valid hst r hex1
      obtain ⟨o, ad, A', c', ho, rfl, ha, g0, g1, g2, g3⟩ := (h.below b1 (Nat.le_refl _)).obj hex1
      rw [ho] at hvo
      have HO := hid ho
      clear ho hst
      go_wp2_with fail
      refine (copied_any w.heap.size A' c' o _ g3 hz (links_few hvo)).mono ?_
      rintro e w5 ⟨A2, c2, rfl, hl5, hb5⟩
      unfold ob
      have b5 := b1.trans (hb5.mono hz)
      have t5 := t1.below hb5 t1.lt
      have hl6 := hl5.base (Nat.le_trans (Nat.le_succ _) t1.lt)
      clear hb5 t1 b1
      obtain ⟨s0, s1, s2, sf⟩ := id t5.reads
      have sf0 := sf 0
      have sf1 := sf 1
      have sf2 := sf 2
      clear sf
      go_wp2_with fail
      refine bodyPost_ret (v := .tuple #[ob o.kd A2 o.zs.length c2 o.s, .bool true]) (by simp [results, Try.results10, go_sem, ob, s0, s1, s2]) rfl ?_
      rw [HO.out]
      refine ⟨A2, c2, rfl, ?_, ?_⟩
      · exact ((hl6.far t5 0 (.int .i64 o.kd)).far (t5.set0 _) 1 (.slice A2 o.zs.length c2)).far ((t5.set0 _).set1 _) 2 (.string o.s) |>.base (by omega)
      · exact ((b5.setCell (p := ⟨w.heap.size, 0, none⟩) (Nat.le_refl _) _).setCell (p := ⟨w.heap.size, 1, none⟩) (Nat.le_refl _) _).setCell (p := ⟨w.heap.size, 2, none⟩) (Nat.le_refl _) _
    · rw [fnd_c hex]
      go_enter Try.func10, Try.ntmps10
      go_wp2_with fail
      refine (implStoreValid_any A c os _ h1 hf hn).mono ?_
      rintro e w1 ⟨rfl, hb1⟩
      obtain ⟨t1, b1, z1⟩ := zero_facts hb1 rfl
      clear hb1
      rw [hst]
      go_wp2_with fail
      refine (findObject_any A c os x r w1 ((h.below b1 (Nat.le_refl _)).more b1.size) hf hn hr).mono ?_
      rintro e w2 ⟨fb, rfl, hfb, hb2⟩
      replace t1 := t1.below hb2 t1.lt
      replace b1 := b1.trans (hb2.mono b1.size)
      clear hb2
      obtain rfl : fb = false := by
        cases fb
        · rfl
        · exact absurd (hfb.1 rfl) hex
      clear hfb hex
      obtain ⟨s0, s1, s2, sf⟩ := id t1.reads
      have sf0 := sf 0
      have sf1 := sf 1
      have sf2 := sf 2
      clear sf
      go_wp2_with fail
      refine bodyPost_ret (v := .tuple #[ob 0 none 0 0 ⟨#[]⟩, .bool false]) (by simp [results, Try.results10, go_sem, ob, s0, s1, s2]) rfl (GotOb.none_ ?_)
      exact ((b1.setCell (p := ⟨w.heap.size, 0, none⟩) (Nat.le_refl _) _).setCell (p := ⟨w.heap.size, 1, none⟩) (Nat.le_refl _) _).setCell (p := ⟨w.heap.size, 2, none⟩) (Nat.le_refl _) _

set_option maxHeartbeats 2000000 in
theorem specStoreGet_Any (A : Option Addr) (c : Nat) (os : List Ob) (x : Int) (r : Nat) (w : World) (h : Objs w w.heap.size A os) (hf : Fit os) (hn : os.length ≤ maxLen) (hr : Hid (At_ os x r)) :
    Calls Try.prog 23 #[.slice A os.length c, .int .i64 x] w (GotOb (fndO os x r) w) := by
  have h1 : Objs (w.alloc (.cells #[.int .i64 0, .slice none 0 0, .string ⟨#[]⟩] 26)) (w.alloc (.cells #[.int .i64 0, .slice none 0 0, .string ⟨#[]⟩] 26)).heap.size A os :=
    (h.below ((Below.refl w.heap.size w).alloc (Nat.le_refl _) _) (Nat.le_refl _)).more (by simp)
  rcases hst : storeB os with _ | _
  · rw [fnd_a hst]
    go_enter Try.func23, Try.ntmps23
    go_wp2_with fail
    refine (specStoreValid_any A c os _ h1 hf hn).mono ?_
    rintro e w1 ⟨rfl, hb1⟩
    obtain ⟨t1, b1, z1⟩ := zero_facts hb1 rfl
    clear hb1
    rw [hst]
    clear hst
    obtain ⟨s0, s1, s2, sf⟩ := id t1.reads
    have sf0 := sf 0
    have sf1 := sf 1
    have sf2 := sf 2
    clear sf
    go_wp2_with fail
    refine bodyPost_ret (v := .tuple #[ob 0 none 0 0 ⟨#[]⟩, .bool false]) (by simp [results, Try.results23, go_sem, ob, s0, s1, s2]) rfl (GotOb.none_ ?_)
    exact ((b1.setCell (p := ⟨w.heap.size, 0, none⟩) (Nat.le_refl _) _).setCell (p := ⟨w.heap.size, 1, none⟩) (Nat.le_refl _) _).setCell (p := ⟨w.heap.size, 2, none⟩) (Nat.le_refl _) _
  · by_cases hex : ∃ h : r < os.length, iOb os[r] = x
    · obtain ⟨hex1, hex2⟩ := hex
      rw [fnd_b hst hex1 hex2]
      go_enter Try.func23, Try.ntmps23
      go_wp2_with fail
      refine (specStoreValid_any A c os _ h1 hf hn).mono ?_
      rintro e w1 ⟨rfl, hb1⟩
      obtain ⟨t1, b1, z1⟩ := zero_facts hb1 rfl
      clear hb1
      rw [hst]
      go_wp2_with fail
      refine (l1Get_any A c os x r (r : Int) w1 ((h.below b1 (Nat.le_refl _)).more b1.size) hn (by show (r : Int) = _; rw [if_pos hex1]) (storeB_valid hst) ⟨Nat.le_of_lt hex1, fun j hj hjr => Int.ne_of_lt (hr.out.2.1 j hj hjr), fun _ => hex2⟩).mono ?_
      rintro e w2 ⟨rfl, hb2⟩
      replace t1 := t1.below hb2 t1.lt
      replace b1 := b1.trans (hb2.mono b1.size)
      clear hb2
      go_wp2_with fail
      refine (l1Get_any A c os x r (r : Int) w2 ((h.below b1 (Nat.le_refl _)).more b1.size) hn (by show (r : Int) = _; rw [if_pos hex1]) (storeB_valid hst) ⟨Nat.le_of_lt hex1, fun j hj hjr => Int.ne_of_lt (hr.out.2.1 j hj hjr), fun _ => hex2⟩).mono ?_
      rintro e w3 ⟨rfl, hb2⟩
      replace t1 := t1.below hb2 t1.lt
      replace b1 := b1.trans (hb2.mono b1.size)
      clear hb2
      have hz := b1.size
      have k0 : 0 ≤ (r : Int) := by omega
      have k1 : (r : Int) < (os.length : Int) := by omega
      have hvo := storeB_valid hst r hex1
      obtain ⟨o, ad, A', c', ho, rfl, ha, g0, g1, g2, g3⟩ := (h.below b1 (Nat.le_refl _)).obj hex1
      rw [ho] at hvo
      have HO := hid ho
      clear ho hst
      go_wp2_with fail
      refine (l1One_any w.heap.size A' c' o _ g3 hz (links_few hvo)).mono ?_
      rintro e w5 ⟨A2, c2, rfl, hl5, hb5⟩
      unfold ob
      have b5 := b1.trans (hb5.mono hz)
      have t5 := t1.below hb5 t1.lt
      have hl6 := hl5.base (Nat.le_trans (Nat.le_succ _) t1.lt)
      clear hb5 t1 b1
      obtain ⟨s0, s1, s2, sf⟩ := id t5.reads
      have sf0 := sf 0
      have sf1 := sf 1
      have sf2 := sf 2
      clear sf
      go_wp2_with fail
      refine bodyPost_ret (v := .tuple #[ob o.kd A2 o.zs.length c2 o.s, .bool true]) (by simp [results, Try.results23, go_sem, ob, s0, s1, s2]) rfl ?_
      rw [HO.out]
      refine ⟨A2, c2, rfl, ?_, ?_⟩
      · exact ((hl6.far t5 0 (.int .i64 o.kd)).far (t5.set0 _) 1 (.slice A2 o.zs.length c2)).far ((t5.set0 _).set1 _) 2 (.string o.s) |>.base (by omega)
      · exact ((b5.setCell (p := ⟨w.heap.size, 0, none⟩) (Nat.le_refl _) _).setCell (p := ⟨w.heap.size, 1, none⟩) (Nat.le_refl _) _).setCell (p := ⟨w.heap.size, 2, none⟩) (Nat.le_refl _) _
    · rw [fnd_c hex]
      go_enter Try.func23, Try.ntmps23
      go_wp2_with fail
      refine (specStoreValid_any A c os _ h1 hf hn).mono ?_
      rintro e w1 ⟨rfl, hb1⟩
      obtain ⟨t1, b1, z1⟩ := zero_facts hb1 rfl
      clear hb1
      rw [hst]
      go_wp2_with fail
      refine (l1Get_any A c os x os.length (-1) w1 ((h.below b1 (Nat.le_refl _)).more b1.size) hn (by show -1 = _; rw [if_neg (by omega)]) (storeB_valid hst) ⟨Nat.le_refl _, fun j hj _ => at_none hst hr.out hex j hj, fun h => absurd h (by omega)⟩).mono ?_
      rintro e w2 ⟨rfl, hb2⟩
      replace t1 := t1.below hb2 t1.lt
      replace b1 := b1.trans (hb2.mono b1.size)
      clear hb2
      obtain ⟨s0, s1, s2, sf⟩ := id t1.reads
      have sf0 := sf 0
      have sf1 := sf 1
      have sf2 := sf 2
      clear sf
      go_wp2_with fail
      refine bodyPost_ret (v := .tuple #[ob 0 none 0 0 ⟨#[]⟩, .bool false]) (by simp [results, Try.results23, go_sem, ob, s0, s1, s2]) rfl (GotOb.none_ ?_)
      exact ((b1.setCell (p := ⟨w.heap.size, 0, none⟩) (Nat.le_refl _) _).setCell (p := ⟨w.heap.size, 1, none⟩) (Nat.le_refl _) _).setCell (p := ⟨w.heap.size, 2, none⟩) (Nat.le_refl _) _
end Go.Proofs.Ytjniemimdjpibaa
