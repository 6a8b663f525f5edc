/-
  Walks: the drawn arguments of LogScan, LogAppend, LogSync and LogCrash; the records of a disk.
-/
import Derived.Test.YtclonfhpabdpgaaLogQ
import Derived.Test.YtclonfhpabdpgaaLogC
namespace Go.Proofs.Ytclonfhpabdpgaa
open Go.RowKit Wo Pu Lg

theorem own_base {w : World} {B B' n sz : Nat} {e : TypeId} {v : Value} {xs : List Value} (h : w.ownsRow B e sz v n xs) (hB : B' ≤ B) : w.ownsRow B' e sz v n xs := by
  obtain ⟨h1, h2⟩ := h
  refine ⟨h1, ?_⟩
  rcases h2 with h2 | ⟨g', cap, cur, hv, hb, hr⟩
  · exact .inl h2
  · exact .inr ⟨g', cap, cur, hv, by omega, hr⟩
/-- A drawn disk. -/
def DiskMade (w : World) (e : Ending) (w' : World) : Prop := ∃ s y, e = .returned (.agg #[.string s, .int .i64 y]) ∧ s.size ≤ 120 ∧ -1 ≤ y ∧ y ≤ 128 ∧ Below w.heap.size w w'
set_option maxHeartbeats 1000000 in
theorem DrawLogSync_any (A : Option Addr) (c : Nat) (bs : List Int) (w : World) (h : Code_ w A c bs) :
    Calls Try.prog 27 #[.slice A bs.length c] w (DiskMade w) := by
  have b0 := (Below.refl w.heap.size w).alloc (Nat.le_refl _) (.cells #[.string ⟨#[]⟩, .int .i64 0] 32)
  have u0 := Blk2.new_ w 32 (.string ⟨#[]⟩) (.int .i64 0)
  have h0 := h.below b0
  go_enter Try.func27, Try.ntmps27
  go_wp2_with fail
  refine (l6Open_any A c bs _ h0).mono ?_
  rintro e w1 ⟨rfl, R1, b1⟩
  have u1 := u0.later b1
  have b2 := b0.trans (b1.mono b0.size)
  simp only [World.size_alloc] at R1
  clear b1 u0
  go_wp2_with fail
  refine (l91Disk_any (w.heap.size + 1) 0 w1 R1 (by omega)).mono ?_
  rintro e w3 ⟨s, y, rfl, hs, y0, y1, R3, T3⟩
  have u3 := u1.but T3 (by omega)
  have b3 := b2.trans (T3.below b2.size (Nat.le_succ _))
  obtain ⟨r0, r1, rf⟩ := u3.reads
  have rf0 := rf 0
  have rf1 := rf 1
  clear rf
  have tp := (u3.set0 (.string s)).set1 (.int .i64 y)
  obtain ⟨p0, p1, -⟩ := tp.reads
  go_wp2_with fail
  exact bodyPost_ret (v := .agg #[.string s, .int .i64 y]) (by simp [results, Try.results27, go_sem, p0, p1]) rfl ⟨s, y, rfl, hs, y0, y1, (b3.setCell (p := ⟨w.heap.size, 0, none⟩) (Nat.le_refl _) _).setCell (p := ⟨w.heap.size, 1, none⟩) (Nat.le_refl _) _⟩
/-- A drawn disk and a text. -/
def DiskTextMade (w : World) (e : Ending) (w' : World) : Prop := ∃ s y r, e = .returned (.tuple #[.agg #[.string s, .int .i64 y], .string r]) ∧ s.size ≤ 120 ∧ -1 ≤ y ∧ y ≤ 128 ∧ r.size ≤ 13 ∧ Below w.heap.size w w'
set_option maxHeartbeats 2000000 in
theorem DrawLogAppend_any (A : Option Addr) (c : Nat) (bs : List Int) (w : World) (h : Code_ w A c bs) :
    Calls Try.prog 22 #[.slice A bs.length c] w (DiskTextMade w) := by
  have b0 := (Below.refl w.heap.size w).alloc (Nat.le_refl _) (.cells #[.string ⟨#[]⟩, .int .i64 0] 32)
  have u0 := Blk2.new_ w 32 (.string ⟨#[]⟩) (.int .i64 0)
  have h0 := h.below b0
  go_enter Try.func22, Try.ntmps22
  go_wp2_with fail
  refine (l6Open_any A c bs _ h0).mono ?_
  rintro e w1 ⟨rfl, R1, b1⟩
  have u1 := u0.later b1
  have b2 := b0.trans (b1.mono b0.size)
  simp only [World.size_alloc] at R1
  clear b1 u0
  go_wp2_with fail
  refine (l91Disk_any (w.heap.size + 1) 0 w1 R1 (by omega)).mono ?_
  rintro e w3 ⟨s, y, rfl, hs, y0, y1, R3, T3⟩
  have u3 := (u1.but T3 (by omega)).alloc (.cells #[.string s, .int .i64 y] 32)
  have v3 := Blk2.new_ w3 32 (.string s) (.int .i64 y)
  have b3 := b2.trans (T3.below b2.size (Nat.le_succ _))
  have hz3 := b3.size
  have b4 := b3.alloc hz3 (.cells #[.string s, .int .i64 y] 32)
  have R4 := R3.below ((Below.refl _ _).alloc (Nat.le_refl _) (.cells #[.string s, .int .i64 y] 32)) R3.lt
  have hl4 : w3.heap.size ≠ w.heap.size + 1 := fun e => by have := R3.lt; omega
  have hne : w3.heap.size ≠ w.heap.size := fun e => by have := R3.lt; omega
  clear R3 T3 u1 b2 b3
  go_wp2_with fail
  obtain ⟨W4, hW4⟩ : ∃ W4, w3.alloc (.cells #[.string s, .int .i64 y] 32) = W4 := ⟨_, rfl⟩
  rw [hW4] at u3 v3 b4 R4 ⊢
  clear hW4
  obtain ⟨r0, r1, rf⟩ := u3.reads
  have rf0 := rf 0
  have rf1 := rf 1
  obtain ⟨d0, d1, -⟩ := v3.reads
  have RD : Rd W4.drew (w.heap.size + 1) (0 + 2000) := R4
  clear rf
  go_region_held3 (fun w' => w'.cell? ⟨w3.heap.size, 0, none⟩ = some (.string s) ∧ w'.cell? ⟨w3.heap.size, 1, none⟩ = some (.int .i64 y)) (simp [*, go_sem])
    (first
      | (go_at_call 34; (with_reducible refine (l91Record_any (w.heap.size + 1) _ W4.drew RD (by omega)).mono ?_); rintro e w5 ⟨r, rfl, hr, hR5, hT5⟩; have u5 := u3.but (but_drew hT5) (by omega); have v5 := v3.but (but_drew hT5) hl4; obtain ⟨e0, e1, -⟩ := v5.reads; obtain ⟨f0, f1, ff⟩ := u5.reads; have ff0 := ff 0; have ff1 := ff 1; clear ff; have b5 := b4.trans ((but_drew hT5).below b4.size (Nat.le_succ _)); obtain ⟨k0, k1, -⟩ := ((v5.far (p := ⟨w.heap.size, 0, none⟩) hne (.string s)).far (p := ⟨w.heap.size, 1, none⟩) hne (.int .i64 y)).reads))
  have tp := (u5.set0 (.string s)).set1 (.int .i64 y)
  obtain ⟨p0, p1, -⟩ := tp.reads
  go_wp2_with fail
  exact bodyPost_ret (v := .tuple #[.agg #[.string s, .int .i64 y], .string r]) (by simp [results, Try.results22, go_sem, p0, p1]) rfl ⟨s, y, r, rfl, hs, y0, y1, hr, (b5.setCell (p := ⟨w.heap.size, 0, none⟩) (Nat.le_refl _) _).setCell (p := ⟨w.heap.size, 1, none⟩) (Nat.le_refl _) _⟩
theorem num_range {x z : Int} (x0 : 0 ≤ x) (x1 : x < 25) (z0 : 0 ≤ z) (z1 : z < 20) : -25 ≤ IntKind.i64.wrap (x - IntKind.i64.wrap (IntKind.i64.wrap (z.tdiv 19) * 25)) ∧ IntKind.i64.wrap (x - IntKind.i64.wrap (IntKind.i64.wrap (z.tdiv 19) * 25)) ≤ 25 := by
  rw [Int.tdiv_eq_ediv_of_nonneg z0]
  have h1 : IntKind.i64.wrap (z / 19) = z / 19 := IntWalk.i64_in _ (by omega)
  rw [h1]
  have h2 : IntKind.i64.wrap (z / 19 * 25) = z / 19 * 25 := IntWalk.i64_in _ (by omega)
  rw [h2]
  have h3 : IntKind.i64.wrap (x - z / 19 * 25) = x - z / 19 * 25 := IntWalk.i64_in _ (by omega)
  rw [h3]
  omega
/-- A drawn disk and a number. -/
def DiskNumMade (w : World) (e : Ending) (w' : World) : Prop := ∃ s y k, e = .returned (.tuple #[.agg #[.string s, .int .i64 y], .int .i64 k]) ∧ s.size ≤ 120 ∧ -1 ≤ y ∧ y ≤ 128 ∧ -25 ≤ k ∧ k ≤ 25 ∧ Below w.heap.size w w'
set_option maxHeartbeats 4000000 in
theorem DrawLogCrash_any (A : Option Addr) (c : Nat) (bs : List Int) (w : World) (h : Code_ w A c bs) :
    Calls Try.prog 32 #[.slice A bs.length c] w (DiskNumMade w) := by
  have b0 := (Below.refl w.heap.size w).alloc (Nat.le_refl _) (.cells #[.string ⟨#[]⟩, .int .i64 0] 32)
  have u0 := Blk2.new_ w 32 (.string ⟨#[]⟩) (.int .i64 0)
  have h0 := h.below b0
  go_enter Try.func32, Try.ntmps32
  go_wp2_with fail
  refine (l6Open_any A c bs _ h0).mono ?_
  rintro e w1 ⟨rfl, R1, b1⟩
  have u1 := u0.later b1
  have b2 := b0.trans (b1.mono b0.size)
  simp only [World.size_alloc] at R1
  clear b1 u0
  go_wp2_with fail
  refine (l91Disk_any (w.heap.size + 1) 0 w1 R1 (by omega)).mono ?_
  rintro e w3 ⟨s, y, rfl, hs, y0, y1, R3, T3⟩
  have u3 := (u1.but T3 (by omega)).alloc (.cells #[.string s, .int .i64 y] 32)
  have v3 := Blk2.new_ w3 32 (.string s) (.int .i64 y)
  have b3 := b2.trans (T3.below b2.size (Nat.le_succ _))
  have hz3 := b3.size
  have b4 := b3.alloc hz3 (.cells #[.string s, .int .i64 y] 32)
  have R4 := R3.below ((Below.refl _ _).alloc (Nat.le_refl _) (.cells #[.string s, .int .i64 y] 32)) R3.lt
  have hl4 : w3.heap.size ≠ w.heap.size + 1 := fun e => by have := R3.lt; omega
  have hne : w3.heap.size ≠ w.heap.size := fun e => by have := R3.lt; omega
  clear R3 T3 u1 b2 b3
  go_wp2_with fail
  obtain ⟨W4, hW4⟩ : ∃ W4, w3.alloc (.cells #[.string s, .int .i64 y] 32) = W4 := ⟨_, rfl⟩
  rw [hW4] at u3 v3 b4 R4 ⊢
  clear hW4
  obtain ⟨r0, r1, rf⟩ := u3.reads
  have rf0 := rf 0
  have rf1 := rf 1
  obtain ⟨d0, d1, -⟩ := v3.reads
  have RD : Rd W4.drew (w.heap.size + 1) (0 + 2000) := R4
  clear rf
  go_region_held3 (fun w' => w'.cell? ⟨w3.heap.size, 0, none⟩ = some (.string s) ∧ w'.cell? ⟨w3.heap.size, 1, none⟩ = some (.int .i64 y)) (simp [*, go_sem])
    (first
      | (go_at_call 43; (with_reducible refine (pick_any (w.heap.size + 1) _ 25 W4.drew RD (by omega) (by omega) (by omega)).mono ?_); rintro e w5 ⟨x, rfl, x0, x1, hR5, hT5⟩; have u5 := u3.but (but_drew hT5) (by omega); have v5 := v3.but (but_drew hT5) hl4; obtain ⟨e0, e1, -⟩ := v5.reads; have b5 := b4.trans ((but_drew hT5).below b4.size (Nat.le_succ _)))
      | (go_at_call 43; (with_reducible refine (pick_any (w.heap.size + 1) _ 20 w5 hR5 (by omega) (by omega) (by omega)).mono ?_); rintro e w6 ⟨z, rfl, z0, z1, -, hT6⟩; have u6 := u5.but hT6 (by omega); have v6 := v5.but hT6 hl4; obtain ⟨g0, g1, -⟩ := v6.reads; obtain ⟨f0, f1, ff⟩ := u6.reads; have ff0 := ff 0; have ff1 := ff 1; clear ff; have b6 := b5.trans (hT6.below b5.size (Nat.le_succ _)); obtain ⟨k0, k1, -⟩ := ((v6.far (p := ⟨w.heap.size, 0, none⟩) hne (.string s)).far (p := ⟨w.heap.size, 1, none⟩) hne (.int .i64 y)).reads; clear hT6))
  obtain ⟨n0, n1⟩ := num_range x0 x1 z0 z1
  generalize IntKind.i64.wrap (x - IntKind.i64.wrap (IntKind.i64.wrap (z.tdiv 19) * 25)) = k at *
  have tp := (u6.set0 (.string s)).set1 (.int .i64 y)
  obtain ⟨p0, p1, -⟩ := tp.reads
  go_wp2_with fail
  exact bodyPost_ret (v := .tuple #[.agg #[.string s, .int .i64 y], .int .i64 k]) (by simp [results, Try.results32, go_sem, p0, p1]) rfl ⟨s, y, k, rfl, hs, y0, y1, n0, n1, (b6.setCell (p := ⟨w.heap.size, 0, none⟩) (Nat.le_refl _) _).setCell (p := ⟨w.heap.size, 1, none⟩) (Nat.le_refl _) _⟩
/-- A list of texts, of the call's own. -/
def NewT (ts : List ByteArray) (w : World) (e : Ending) (w' : World) : Prop := ∃ v, e = .returned v ∧ OwnT w' w.heap.size v ts ∧ Below w.heap.size w w'
theorem recordsOf_laws (s : ByteArray) (y : Int) (w : World) (hs : s.size ≤ 1048576) : Calls Try.prog 31 #[.agg #[.string s, .int .i64 y]] w (NewT (texts (bl s)) w) := by
  have b0 := (Below.refl w.heap.size w).alloc (Nat.le_refl _) (.cells #[.string s, .int .i64 y] 32)
  go_enter Try.func31, Try.ntmps31
  go_wp2_with fail
  refine (implLogScan_any s _ hs).mono ?_
  rintro e w1 ⟨v, rfl, ho, hb⟩
  go_wp2
  go_ret
  exact ⟨v, rfl, own_base ho (by simp), b0.trans (hb.mono (by simp))⟩
end Go.Proofs.Ytclonfhpabdpgaa
