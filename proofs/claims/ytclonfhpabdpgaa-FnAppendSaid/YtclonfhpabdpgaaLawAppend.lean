/-
  Walks of the laws on appending.
-/
import Derived.Test.YtclonfhpabdpgaaLogV
import Derived.Test.YtclonfhpabdpgaaLogM
import Derived.Deep.RegionHeld3
import Derived.BigQuiet
import Derived.Deep.Cut
namespace Go.Proofs.Ytclonfhpabdpgaa
open Go.RowKit Wo Pu Lg

theorem FnAppend_no (A : Option Addr) (c : Nat) (bs : List Int) (w : World) (h : Code_ w A c bs) (hl : ¬ bs.length ≤ 1048576) :
    Calls Try.prog 9 #[.slice A bs.length c] w (Ret (.bool true) w) := by
  have hc := h.2.1
  have hm := h.2.2.1
  unfold maxLen at hm
  go_enter Try.func9, Try.ntmps9
  go_wp2
  go_ret
  exact .mk_ (Below.refl _ _)
set_option maxHeartbeats 4000000 in
theorem FnAppend_yes (A : Option Addr) (c : Nat) (bs : List Int) (w : World) (h : Code_ w A c bs) (hl : bs.length ≤ 1048576) :
    Calls Try.prog 9 #[.slice A bs.length c] w (Ret (.bool true) w) := by
  go_enter Try.func9, Try.ntmps9
  go_wp2_with fail
  refine (DrawLogAppend_any A c bs _ h).mono ?_
  rintro e w1 ⟨s, y, r, rfl, hs, y0, y1, hr, b1⟩
  have hsm : s.size ≤ maxLen := by unfold maxLen; omega
  have hrm : r.size ≤ maxLen := by unfold maxLen; omega
  obtain ⟨t, z, b, hA, hT, hF⟩ := apO_is s y r
  have HT := hid hT
  have HF := hid hF
  clear hT hF
  have c1 := fun W => implLogAppend_any s y r W hsm hrm
  have c2 := fun W => specLogAppend_any s y r W hsm hrm
  rw [hA] at c1 c2
  have C1 := hid c1
  have C2 := hid c2
  have HA := hid hA
  clear hA c1 c2
  have a1 := b1.alloc b1.size (.cells #[.string s, .int .i64 y] 32)
  have u1 := Blk2.new_ w1 32 (.string s) (.int .i64 y)
  obtain ⟨d0, d1, -⟩ := u1.reads
  go_wp2_with fail
  refine (C1.out _).mono ?_
  rintro e w2 ⟨rfl, hb2⟩
  have b2 := Below.trans (a1) (Below.mono hb2 (Below.size (a1)))
  have u2 := (u1.later hb2).alloc (.cells #[.string t, .int .i64 z] 32)
  have v2 := Blk2.new_ w2 32 (.string t) (.int .i64 z)
  have a2 := b2.alloc b2.size (.cells #[.string t, .int .i64 z] 32)
  clear d0 d1 u1 b1 a1 hb2
  obtain ⟨d0, d1, -⟩ := u2.reads
  go_wp2_with fail
  refine (C2.out _).mono ?_
  rintro e w3 ⟨rfl, hb3⟩
  have b3 := Below.trans (a2) (Below.mono hb3 (Below.size (a2)))
  have u3 := (u2.later hb3).alloc (.cells #[.string t, .int .i64 z] 32)
  have v3 := (v2.later hb3).alloc (.cells #[.string t, .int .i64 z] 32)
  have x3 := Blk2.new_ w3 32 (.string t) (.int .i64 z)
  have a3 := b3.alloc b3.size (.cells #[.string t, .int .i64 z] 32)
  clear d0 d1 u2 v2 b2 a2 hb3 C1 C2
  obtain ⟨d0, d1, -⟩ := id u3.reads
  obtain ⟨p0, p1, -⟩ := id v3.reads
  obtain ⟨q0, q1, -⟩ := id x3.reads
  cases b
  · go_wp2
    go_ret
    exact .mk_ a3
  · obtain ⟨⟨hv, hf, h9⟩, rfl, rfl⟩ := HT.out rfl
    have C4 := hid (fun W => implLogFrame_any r W hrm)
    have C5 := hid (fun W => implDiskValid_is true (s ++ frameB r) z W (by unfold maxLen; rw [ByteArray.size_append, frameB_size hf]; omega) (decide_eq_true (Vd_app hv hf h9)))
    have hFs := frameB_size hf
    clear HT HF HA
    obtain ⟨F, hF⟩ : ∃ F, frameB r = F := ⟨_, rfl⟩
    rw [hF] at C4 C5 hFs u3 v3 x3 a3 d0 d1 p0 p1 q0 q1 ⊢
    have hadd : ¬ 9223372036854775807 < s.size + F.size := by omega
    clear hF hFs
    go_upto_region 8 with fail
    generalize w3.alloc (.cells #[.string (s ++ F), .int .i64 z] 32) = W at *
    have G0 := Later.cell d0 u3.lt
    have G1 := Later.cell d1 u3.lt
    have P0 := Later.cell p0 v3.lt
    have P1 := Later.cell p1 v3.lt
    clear d0 d1 p0 p1 q0 q1
    refine wp_region_later W.heap.size (by kernel_rfl) (by kernel_rfl) ?_
    repeat (go_big_quiet_step ((first | (go_at_call 16; exact Later.call (Nat.le_refl _) _ (C4.out _)) | (go_at_call 25; exact Later.call (Nat.le_refl _) _ (C5.out _)))))
    refine wpQuiet_nil ?_
    intro _ hw'
    obtain ⟨xx, hxx⟩ := hw'
    have hbx := xx.b
    subst hxx
    go_wp2
    go_ret
    exact .mk_ (a3.trans (hbx.mono a3.size))
theorem FnAppend_any (A : Option Addr) (c : Nat) (bs : List Int) (w : World) (f1 : Row w w.heap.size A (bs.map (Value.int .u8))) (f2 : bs.length ≤ c) (f3 : c ≤ maxLen) (f4 : ∀ n ∈ bs, 0 ≤ n ∧ n < 256) :
    Calls Try.prog 9 #[.slice A bs.length c] w (Ret (.bool true) w) := by
  by_cases hl : bs.length ≤ 1048576
  · exact FnAppend_yes A c bs w ⟨f1, f2, f3, f4⟩ hl
  · exact FnAppend_no A c bs w ⟨f1, f2, f3, f4⟩ hl
theorem FnAppendFull_no (A : Option Addr) (c : Nat) (bs : List Int) (w : World) (h : Code_ w A c bs) (hl : ¬ bs.length ≤ 1048576) :
    Calls Try.prog 10 #[.slice A bs.length c] w (Ret (.bool true) w) := by
  have hc := h.2.1
  have hm := h.2.2.1
  unfold maxLen at hm
  go_enter Try.func10, Try.ntmps10
  go_wp2
  go_ret
  exact .mk_ (Below.refl _ _)
set_option maxHeartbeats 4000000 in
theorem FnAppendFull_yes (A : Option Addr) (c : Nat) (bs : List Int) (w : World) (h : Code_ w A c bs) (hl : bs.length ≤ 1048576) :
    Calls Try.prog 10 #[.slice A bs.length c] w (Ret (.bool true) w) := by
  go_enter Try.func10, Try.ntmps10
  go_wp2_with fail
  refine (DrawLogAppend_any A c bs _ h).mono ?_
  rintro e w1 ⟨s, y, r, rfl, hs, y0, y1, hr, b1⟩
  have hsm : s.size ≤ maxLen := by unfold maxLen; omega
  have hrm : r.size ≤ maxLen := by unfold maxLen; omega
  obtain ⟨t, z, b, hA, hT, hF⟩ := apO_is s y r
  have HT := hid hT
  have HF := hid hF
  clear hT hF
  have c1 := fun W => implLogAppend_any s y r W hsm hrm
  have c2 := fun W => specLogAppend_any s y r W hsm hrm
  rw [hA] at c1 c2
  have C1 := hid c1
  have C2 := hid c2
  have HA := hid hA
  clear hA c1 c2
  have a1 := b1.alloc b1.size (.cells #[.string s, .int .i64 y] 32)
  have u1 := Blk2.new_ w1 32 (.string s) (.int .i64 y)
  obtain ⟨d0, d1, -⟩ := u1.reads
  go_wp2_with fail
  refine (C1.out _).mono ?_
  rintro e w2 ⟨rfl, hb2⟩
  have b2 := Below.trans (a1) (Below.mono hb2 (Below.size (a1)))
  have u2 := (u1.later hb2).alloc (.cells #[.string t, .int .i64 z] 32)
  have v2 := Blk2.new_ w2 32 (.string t) (.int .i64 z)
  have a2 := b2.alloc b2.size (.cells #[.string t, .int .i64 z] 32)
  clear d0 d1 u1 b1 a1 hb2
  obtain ⟨d0, d1, -⟩ := u2.reads
  go_wp2_with fail
  refine (C2.out _).mono ?_
  rintro e w3 ⟨rfl, hb3⟩
  have b3 := Below.trans (a2) (Below.mono hb3 (Below.size (a2)))
  have u3 := (u2.later hb3).alloc (.cells #[.string t, .int .i64 z] 32)
  have v3 := (v2.later hb3).alloc (.cells #[.string t, .int .i64 z] 32)
  have x3 := Blk2.new_ w3 32 (.string t) (.int .i64 z)
  have a3 := b3.alloc b3.size (.cells #[.string t, .int .i64 z] 32)
  clear d0 d1 u2 v2 b2 a2 hb3 C1 C2
  obtain ⟨d0, d1, -⟩ := id u3.reads
  obtain ⟨p0, p1, -⟩ := id v3.reads
  obtain ⟨q0, q1, -⟩ := id x3.reads
  have hE := emp_ r
  by_cases hv : Vd s y
  ·
    go_wp2_with fail
    refine (specDiskValid_is true s y _ hsm (decide_eq_true hv)).mono ?_
    rintro e w4 ⟨rfl, hb4⟩
    have b4 := Below.trans (a3) (Below.mono hb4 (Below.size (a3)))
    have u4 := u3.later hb4
    have v4 := v3.later hb4
    have x4 := x3.later hb4
    clear d0 d1 p0 p1 q0 q1 u3 v3 x3
    obtain ⟨d0, d1, -⟩ := id u4.reads
    obtain ⟨p0, p1, -⟩ := id v4.reads
    obtain ⟨q0, q1, -⟩ := id x4.reads
    by_cases h0 : r.size = 0
    · have e0 : r.toList.isEmpty = true := hE.trans (decide_eq_true h0)
      clear hE
      go_wp2
      go_ret
      exact .mk_ b4
    · have e0 : r.toList.isEmpty = false := hE.trans (decide_eq_false h0)
      clear hE
      by_cases h12 : 12 < r.size
      · have e1 : decide (12 < (r.size : Int)) = true := decide_eq_true (by omega)
        go_wp2
        go_ret
        exact .mk_ b4
      · have e1 : decide (12 < (r.size : Int)) = false := decide_eq_false (by omega)
        have q2 : IntKind.i64.wrap ((s.size : Int) + (r.size : Int)) = (s.size : Int) + (r.size : Int) := IntWalk.i64_in _ (by omega)
        have q3 : IntKind.i64.wrap ((s.size : Int) + (r.size : Int) + 2) = (s.size : Int) + (r.size : Int) + 2 := IntWalk.i64_in _ (by omega)
        cases b
        · obtain ⟨h1, h2⟩ := HF.out rfl
          obtain ⟨rfl, rfl⟩ := h2 hv ⟨by omega, by omega⟩
          have h9 : ¬ (t.size + r.size + 2 ≤ 120) := fun e => h1 ⟨hv, ⟨by omega, by omega⟩, e⟩
          have e2 : decide ((t.size : Int) + (r.size : Int) + 2 ≤ 120) = false := decide_eq_false (by omega)
          clear h1 h2 h9 HT HF HA hv
          go_wp2
          go_ret
          exact .mk_ b4
        · obtain ⟨⟨h1, h2, h9⟩, h3, h4⟩ := HT.out rfl
          have e2 : decide ((s.size : Int) + (r.size : Int) + 2 ≤ 120) = true := decide_eq_true (by omega)
          clear h1 h2 h9 HT HF HA hv h3 h4
          go_wp2
          go_ret
          exact .mk_ b4
  ·
    go_wp2_with fail
    refine (specDiskValid_is false s y _ hsm (decide_eq_false hv)).mono ?_
    rintro e w4 ⟨rfl, hb4⟩
    have b4 := Below.trans (a3) (Below.mono hb4 (Below.size (a3)))
    have u4 := u3.later hb4
    have v4 := v3.later hb4
    have x4 := x3.later hb4
    clear d0 d1 p0 p1 q0 q1 u3 v3 x3
    obtain ⟨d0, d1, -⟩ := id u4.reads
    obtain ⟨p0, p1, -⟩ := id v4.reads
    obtain ⟨q0, q1, -⟩ := id x4.reads
    clear hv
    go_wp2
    go_ret
    exact .mk_ b4
theorem FnAppendFull_any (A : Option Addr) (c : Nat) (bs : List Int) (w : World) (f1 : Row w w.heap.size A (bs.map (Value.int .u8))) (f2 : bs.length ≤ c) (f3 : c ≤ maxLen) (f4 : ∀ n ∈ bs, 0 ≤ n ∧ n < 256) :
    Calls Try.prog 10 #[.slice A bs.length c] w (Ret (.bool true) w) := by
  by_cases hl : bs.length ≤ 1048576
  · exact FnAppendFull_yes A c bs w ⟨f1, f2, f3, f4⟩ hl
  · exact FnAppendFull_no A c bs w ⟨f1, f2, f3, f4⟩ hl
end Go.Proofs.Ytclonfhpabdpgaa
