/-
  Walk: DeltaApply of the model.
-/
import Derived.Test.YtkekbobnbipmoaaApply
import Derived.IntWalk
namespace Go.Proofs.Ytkekbobnbipmoaa
open Go.RowKit Go.Lib Wo Pu

set_option maxRecDepth 100000 in
set_option maxHeartbeats 4000000 in
theorem specDeltaApply_any (A : Option Addr) (c : Nat) (os : List Op2) (base : ByteArray) (w : World) (h : Row w w.heap.size A (opsV os)) (hn : os.length ≤ 1048576) (hf : Fit2 os) (hs : base.size ≤ 1048576) :
    Calls Try.prog 80 #[.string base, .slice A os.length c] w (Applied base os w) := by
  by_cases h8 : base.size ≤ 8
  · by_cases hl : os.length ≤ 8
    · go_enter Try.func80, Try.ntmps80
      go_wp2_with fail
      go_loopw [6, 7] (fun v i wr => ∃ (k : Nat) (s : ByteArray), k ≤ os.length ∧ i = .int .i64 k ∧ v = .string s ∧ Hid (s = dApp base (os.take k)) ∧ Hid (∀ j (hj : j < os.length), j < k → opfB base.size os[j] = true) ∧ Below w.heap.size w wr) (fun _ i _ => os.length - (intOf i).toNat)
      case atStart => exact ⟨0, ⟨#[]⟩, Nat.zero_le _, rfl, rfl, rfl, fun j _ hj => absurd hj (by omega), Below.refl _ _⟩
      case round =>
        obtain ⟨k, s, hk, rfl, rfl, HS, HF, hb⟩ := hrel
        have hz := hb.size
        have hsz : s.size ≤ 64 := by
          have := dApp_le h8 (os := os.take k) (fun o ho => by
            obtain ⟨j, hj, rfl⟩ := List.mem_iff_getElem.1 ho
            have hj' : j < k ∧ j < os.length := by simpa [List.length_take, Nat.lt_min] using hj
            rw [List.getElem_take]
            exact HF.out j hj'.2 hj'.1)
          rw [List.length_take] at this
          rw [HS.out]
          omega
        by_cases hlt : k < os.length
        · obtain ⟨o, ad, ho, rfl, ha, g0, g1, g2⟩ := (h.below hb (Nat.le_refl _)).op_ hlt
          obtain ⟨o1, o2, o3, o4, o5⟩ := hf.get hlt ho
          have HA := hid (dApp_succ base hlt)
          rw [ho] at HA
          have HNO := fun e => hid (dOk_c (base := base) (fit_no hlt e))
          rw [ho] at HNO
          have HF2 : opfB base.size o = true → Hid (∀ j (hj : j < os.length), j < k + 1 → opfB base.size os[j] = true) := fun e j hj hjk => by
            by_cases ej : j = k
            · subst ej; rw [ho]; exact e
            · exact HF.out j hj (by omega)
          clear ho
          go_wp2_with fail
          refine (l2Op_any o base _ o1 h8).mono ?_
          rintro e w2 ⟨rfl, hb2⟩
          cases hfit : opfB base.size o
          · have F := HNO hfit
            clear HF HF2 HNO hfit
            go_wp2
            go_ret2
            exact .no_ F.out (hb.trans (hb2.mono hz))
          · have H2 := HF2 hfit
            obtain ⟨q1, q2, q3, q4⟩ := opf_in hfit
            obtain ⟨a, n, t⟩ := o
            simp only at q1 q2 q3 q4 g0 g1 g2
            obtain ⟨i, rfl⟩ := Int.eq_ofNat_of_zero_le q1
            obtain ⟨m, rfl⟩ := Int.eq_ofNat_of_zero_le q2
            have HP : Hid (s ++ t ++ base.extract i (i + m) = dApp base (os.take (k + 1))) := by
              show _ = _
              rw [HA.out, part_form rfl rfl, HS.out, app_app]
            clear HF HF2 HNO hfit HA HS o1 o2 o3 o4 o5
            have hb3 := hb.trans (hb2.mono hz)
            obtain ⟨x0, x1, x2⟩ : w2.cell? (ad.add (k * 3)) = some (.int .i64 i) ∧ w2.cell? ⟨(ad.add (k * 3)).block, (ad.add (k * 3)).off + 1, none⟩ = some (.int .i64 m) ∧ w2.cell? ⟨(ad.add (k * 3)).block, (ad.add (k * 3)).off + 2, none⟩ = some (.string t) :=
              ⟨(hb2.cell (Nat.lt_of_lt_of_le ha hz)).trans g0, (hb2.cell (p := ⟨(ad.add (k * 3)).block, (ad.add (k * 3)).off + 1, none⟩) (Nat.lt_of_lt_of_le ha hz)).trans g1, (hb2.cell (p := ⟨(ad.add (k * 3)).block, (ad.add (k * 3)).off + 2, none⟩) (Nat.lt_of_lt_of_le ha hz)).trans g2⟩
            clear g0 g1 g2
            have k0 : 0 ≤ (k : Int) := by omega
            have k1 : (k : Int) < (os.length : Int) := by omega
            have k2 : i + m ≤ base.size := by omega
            have k3 : (i : Int) + (m : Int) ≤ (base.size : Int) := by omega
            have k4 : 0 ≤ (i : Int) + (m : Int) := by omega
            have k5 : (i : Int) ≤ (i : Int) + (m : Int) := by omega
            have k6 : ((i : Int) + (m : Int)).toNat = i + m := by omega
            have k7 : IntKind.i64.wrap ((i : Int) + (m : Int)) = (i : Int) + (m : Int) := IntWalk.i64_in _ (by omega)
            go_wp2_with fail
            go_quiet (fail)
            clear k6 k7
            go_wp2
            go_roundw
            case rel => exact ⟨k + 1, _, by omega, by go_num, rfl, HP, H2, Wo.Below.drewN hb3 _⟩
            case measure => simp [intOf]; omega
        · have hk' : k = os.length := by omega
          subst hk'
          rw [List.take_length] at HS
          obtain rfl := HS.out
          have hfit := hid (fit_yes (base := base) (os := os) fun j hj => HF.out j hj hj)
          clear HF HS
          by_cases h9 : (dApp base os).size ≤ 8
          · have F := hid (dOk_y h8 hl hfit.out h9)
            go_wp2
            go_ret2
            exact .yes_ F.out hb
          · have F := hid (dOk_d (base := base) (os := os) h9)
            go_wp2
            go_ret2
            exact .no_ F.out hb
    · have F := hid (dOk_b (base := base) hl)
      go_enter Try.func80, Try.ntmps80
      go_wp2
      go_ret2
      exact .no_ F.out (Below.refl _ _)
  · have F := hid (dOk_a (os := os) h8)
    go_enter Try.func80, Try.ntmps80
    go_wp2
    go_ret2
    exact .no_ F.out (Below.refl _ _)
end Go.Proofs.Ytkekbobnbipmoaa
