/-
  Walks of the laws on performed updates.
-/
import Derived.Test.YtimoabghkmebfabRefM
namespace Go.Proofs.Ytimoabghkmebfab
open Go.RowKit Wo Pu Rf


theorem FnDifferApply_no (A : Option Addr) (c : Nat) (bs : List Int) (w : World) (h : Code_ w A c bs) (hl : ¬ bs.length ≤ 1048576) :
    Calls Try.prog 5 #[.slice A bs.length c] w (Ret (.bool true) w) := by
  have hc := h.2.1
  have hm := h.2.2.1
  unfold maxLen at hm
  go_enter Try.func5, Try.ntmps5
  go_wp2
  go_ret
  exact .mk_ (Below.refl _ _)
set_option maxRecDepth 100000 in
set_option maxHeartbeats 4000000 in
theorem FnDifferApply_yes (A : Option Addr) (c : Nat) (bs : List Int) (w : World) (h : Code_ w A c bs) (hl : bs.length ≤ 1048576) :
    Calls Try.prog 5 #[.slice A bs.length c] w (Ret (.bool true) w) := by
  go_enter Try.func5, Try.ntmps5
  go_wp2_with fail
  refine (DrawRefsApply_any A c bs _ h).mono ?_
  rintro e w1 ⟨A1, c1, zs, A2, c2, us, rfl, rz1, h4, ru1, h5, b1⟩
  obtain ⟨y, hy⟩ := way_of zs us
  obtain ⟨qs, hqs⟩ : ∃ qs, applied zs us y = qs := ⟨_, rfl⟩
  obtain ⟨ok, hok⟩ : ∃ ok, y.ok = ok := ⟨_, rfl⟩
  have hql : qs.length ≤ 4 := by rw [← hqs]; exact applied_le h4
  have HY := hid hy
  have HQ := hid hqs
  have HK := hid hok
  clear hy hqs hok
  go_wp2_with fail
  refine (implApply_to qs ok y A1 A2 c1 c2 zs us w1 rz1 ru1 (by omega) (by omega) HY.out HQ.out HK.out).mono ?_
  rintro e w2 ⟨A3, c3, rfl, o3, d2⟩
  have rz2 := rz1.on d2
  have ru2 := ru1.on d2
  have b2 := b1.trans (d2.mono b1.size)
  have rq2 := o3.row
  clear rz1 ru1 b1 d2 o3
  go_wp2_with fail
  refine (specApply_to qs ok y A1 A2 c1 c2 zs us w2 rz2 ru2 (by omega) (by omega) HY.out HQ.out HK.out).mono ?_
  rintro e w3 ⟨A4, c4, rfl, o4, d3⟩
  have rz3 := rz2.on d3
  have ru3 := ru2.on d3
  have rq3 := rq2.on d3
  have rp3 := o4.row
  have b3 := b2.trans (d3.mono b2.size)
  clear rz2 ru2 rq2 b2 d3 o4
  cases ok with
  | false =>
    clear HY HQ HK
    go_wp2_with fail
    refine (sameInts_ret A3 A4 c3 c4 qs _ _ _ rq3 rp3 (by unfold maxLen; omega)).mono ?_
    rintro e w4 ⟨rfl, d4⟩
    have rz4 := rz3.on d4
    have ru4 := ru3.on d4
    have rq4 := rq3.on d4
    have rp4 := rp3.on d4
    have b4 := b3.trans (d4.mono b3.size)
    clear rz3 ru3 rq3 rp3 b3 d4
    go_wp2_with fail
    refine (sameInts_ret A3 A4 c3 c4 qs _ _ _ rq4 rp4 (by unfold maxLen; omega)).mono ?_
    rintro e w5 ⟨rfl, d5⟩
    go_wp2_with fail
    go_ret
    exact .mk_ (b4.trans (d5.mono b4.size))
  | true =>
    obtain ⟨rv, uv, hf, hqs⟩ := way_yes HY.out HK.out HQ.out
    have CD : Hid (∀ x, Row x x.heap.size A1 (ints zs) → Row x x.heap.size A3 (ints qs) → Calls Try.prog 22 #[.slice A1 zs.length c1, .slice A3 qs.length c3] x (UpsOf us x)) := fun x h1 h3 => by
      have := implRefsDiffer_is true A1 A3 c1 c3 zs qs x h1 h3 (by omega) (by omega) ⟨fun _ => ⟨rv, by rw [← hqs]; exact setR_RV rv fun u hu => (uv.2.mem u hu).2.2.2.1⟩, fun _ => rfl⟩
      rwa [show difs true zs qs = us from by rw [← hqs]; exact dif_apply rv uv hf] at this
    clear HY HQ HK rv uv hf hqs
    go_wp2_with fail
    refine (sameInts_ret A3 A4 c3 c4 qs _ _ _ rq3 rp3 (by unfold maxLen; omega)).mono ?_
    rintro e w4 ⟨rfl, d4⟩
    have rz4 := rz3.on d4
    have ru4 := ru3.on d4
    have rq4 := rq3.on d4
    have rp4 := rp3.on d4
    have b4 := b3.trans (d4.mono b3.size)
    clear rz3 ru3 rq3 rp3 b3 d4
    go_wp2_with fail
    refine (CD.out _ rz4 rq4).mono ?_
    rintro e w5 ⟨A5, c5, rfl, o5, d5⟩
    have ru5 := ru4.on d5
    have r5 := o5.row
    have b5 := b4.trans (d5.mono b4.size)
    clear rz4 ru4 rq4 rp4 b4 d5 o5
    go_wp2_with fail
    refine (sameUpdates_ret A5 A2 c5 c2 us _ _ _ r5 ru5 (by omega)).mono ?_
    rintro e w6 ⟨rfl, d6⟩
    go_wp2_with fail
    go_ret
    exact .mk_ (b5.trans (d6.mono b5.size))
theorem FnDifferApply_any (A : Option Addr) (c : Nat) (bs : List Int) (w : World) (f1 : Row w w.heap.size A (bs.map (Value.int .u8))) (f2 : bs.length ≤ c) (f3 : c ≤ maxLen) (f4 : ∀ n ∈ bs, 0 ≤ n ∧ n < 256) :
    Calls Try.prog 5 #[.slice A bs.length c] w (Ret (.bool true) w) := by
  by_cases hl : bs.length ≤ 1048576
  · exact FnDifferApply_yes A c bs w ⟨f1, f2, f3, f4⟩ hl
  · exact FnDifferApply_no A c bs w ⟨f1, f2, f3, f4⟩ hl
end Go.Proofs.Ytimoabghkmebfab
