/-
  Walks: DeltaApply, of the program and of the model.
-/
import Derived.Test.YtkekbobnbipmoaaFits
namespace Go.Proofs.Ytkekbobnbipmoaa
open Go.RowKit Go.Lib Wo Pu

/-- The text s as a slice of bytes of the call's own, not nil. -/
def OwnStr (w : World) (B : Nat) (v : Value) (s : ByteArray) : Prop := w.ownsRow B 5 1 v s.size (strCells s) ∧ v ≠ .slice none 0 0
theorem strCells_nil : strCells ⟨#[]⟩ = [] := rfl
theorem strCells_append (s t : ByteArray) : strCells (s ++ t) = strCells s ++ strCells t := by
  unfold strCells
  rw [ByteArray.data_append, Array.toList_append, List.map_append]
theorem OwnStr.nil_new {w : World} {B : Nat} (hB : B ≤ w.heap.size) : OwnStr (w.alloc (.cells #[] 5)) B (.slice (some ⟨w.heap.size, 0, none⟩) 0 0) ⟨#[]⟩ := ⟨nil_own hB _ _, fun h => by cases h⟩
theorem OwnStr.form {w : World} {B : Nat} {v : Value} {s : ByteArray} (h : OwnStr w B v s) : ∃ g c, v = .slice (some ⟨g, 0, none⟩) s.size c ∧
    (convert 22 9 v).run Try.prog w = .ok (.string s) w := by
  obtain ⟨h1, h2⟩ := h
  have h3 := h1
  rcases h1.2 with ⟨rfl, _⟩ | ⟨g, cap, cur, rfl, _⟩
  · exact absurd rfl h2
  · refine ⟨g, cap, rfl, ?_⟩
    have hl : (bl s).length = s.size := bl_size s
    have := run_convert_bytes_back (P := Try.prog) w 22 9 5 ⟨g, 0, none⟩ cap (bl s) Try.underlying22 Try.underlying5 Try.underlying9 (fun j hj => World.ownsRow.cells h3 (g := g) rfl j _ (by
      unfold strCells
      rw [List.getElem?_map]
      have e : s.data.toList[j]? = some ((bl s)[j]) := List.getElem?_eq_getElem hj
      rw [e]; rfl))
    rw [hl] at this
    exact this
theorem info_byte : (Try.prog.info? 5).map (fun i => (i.zero, i.size, i.bytes)) = some (some (.int .u8 0), 1, 1) := by kernel_rfl
theorem part_form {base : ByteArray} {o : Op2} {i m : Nat} (ha : o.a = i) (hn : o.n = m) : opPart base o = o.t ++ base.extract i (i + m) := by
  unfold opPart
  rw [ha, hn, show ((i : Int) + (m : Int)).toNat = i + m from by omega, Int.toNat_natCast]

/-- What DeltaApply answers. -/
def Applied (base : ByteArray) (os : List Op2) (w : World) (e : Ending) (w' : World) : Prop := Ret (.tuple #[.string (dRes base os), .bool (dOk base os)]) w e w'
theorem Applied.no_ {base : ByteArray} {os : List Op2} {w w' : World} (h : dOk base os = false) (hb : Below w.heap.size w w') : Applied base os w (.returned (.tuple #[.string ⟨#[]⟩, .bool false])) w' := by
  unfold Applied; rw [h, dRes_no h]; exact .mk_ hb
theorem Applied.yes_ {base : ByteArray} {os : List Op2} {w w' : World} (h : dOk base os = true) (hb : Below w.heap.size w w') : Applied base os w (.returned (.tuple #[.string (dApp base os), .bool true])) w' := by
  unfold Applied; rw [h, dRes_yes h]; exact .mk_ hb

set_option maxRecDepth 100000 in
set_option maxHeartbeats 4000000 in
theorem implDeltaApply_any (A : Option Addr) (c : Nat) (os : List Op2) (base : ByteArray) (w : World) (h : Row w w.heap.size A (opsV os)) (hn : os.length ≤ 1048576) (hf : Fit2 os) (hs : base.size ≤ 1048576) :
    Calls Try.prog 77 #[.string base, .slice A os.length c] w (Applied base os w) := by
  by_cases h8 : base.size ≤ 8
  · by_cases hl : os.length ≤ 8
    · obtain ⟨i0, hi, hz0, hz1, hz2⟩ := info_of info_byte
      go_enter Try.func77, Try.ntmps77
      go_wp2_with fail
      go_loopw [6, 20] (fun v i wr => ∃ k : Nat, k ≤ os.length ∧ i = .int .i64 k ∧ OwnStr wr w.heap.size v (dApp base (os.take k)) ∧ Hid (∀ j (hj : j < os.length), j < k → opfB base.size os[j] = true) ∧ Below w.heap.size w wr) (fun _ i _ => os.length - (intOf i).toNat)
      case atStart => exact ⟨0, Nat.zero_le _, rfl, OwnStr.nil_new (Nat.le_refl _), fun j _ hj => absurd hj (by omega), (Below.refl _ _).alloc (Nat.le_refl _) _⟩
      case round =>
        obtain ⟨k, hk, rfl, hv, HF, hb⟩ := hrel
        have hz := hb.size
        have hsz : (dApp base (os.take k)).size ≤ 64 := by
          have := dApp_le h8 (os := os.take k) (fun o ho => by
            obtain ⟨j, hj, rfl⟩ := List.mem_iff_getElem.1 ho
            have hj' : j < k ∧ j < os.length := by simpa [List.length_take, Nat.lt_min] using hj
            rw [List.getElem_take]
            exact HF.out j hj'.2 hj'.1)
          rw [List.length_take] at this
          omega
        by_cases hlt : k < os.length
        · obtain ⟨o, ad, ho, rfl, ha, g0, g1, g2⟩ := (h.below hb (Nat.le_refl _)).op_ hlt
          obtain ⟨o1, o2, o3, o4, o5⟩ := hf.get hlt ho
          have HA := hid (dApp_succ base hlt)
          rw [ho] at HA
          have HNO := fun e => hid (dOk_c (base := base) (fit_no hlt e))
          rw [ho] at HNO
          have HF2 : opfB base.size o = true → Hid (∀ j (hj : j < os.length), j < k + 1 → opfB base.size os[j] = true) := fun e j hj hjk => by
            by_cases ej : j = k
            · subst ej; rw [ho]; exact e
            · exact HF.out j hj (by omega)
          clear ho
          go_wp2_with fail
          refine (fits_any o base _ o1 h8 o5).mono ?_
          rintro e w2 ⟨rfl, hb2⟩
          cases hfit : opfB base.size o
          · have F := HNO hfit
            clear HF HF2 HNO hfit
            go_wp2
            go_ret2
            exact .no_ F.out ((hb.alloc hz _).trans (hb2.mono (by simp; omega)))
          · have H2 := HF2 hfit
            have hp8 := part_size hfit h8
            have HFI := hid hfit
            clear HF HF2 HNO hfit
            obtain ⟨hrow, hne⟩ := hv
            have al := (Below.refl wr.heap.size wr).alloc (Nat.le_refl _) (.cells #[.int .i64 o.a, .int .i64 o.n, .string o.t] 99)
            have u2 := (Blk.new_ wr 99 (.int .i64 o.a) (.int .i64 o.n) (.string o.t)).below hb2 (by simp)
            have b2 := al.trans (hb2.mono (by simp))
            have z2 := b2.size
            obtain ⟨p0, p1, p2, -⟩ := id u2.reads
            clear u2 hb2 al
            go_wp2_with fail
            refine (part_any o base _ h8 HFI.out).mono ?_
            rintro e w3 ⟨rfl, hb3⟩
            have b3 := b2.trans (hb3.mono b2.size)
            have hrow3 := own_below hrow b3 (Nat.le_refl _)
            have z3 := b3.size
            have HT : Hid (strCells (dApp base (os.take k)) ++ strCells (opPart base o) = strCells (dApp base (os.take (k + 1)))) := by
              show _ = _; rw [HA.out, strCells_append]
            have HSZ : Hid ((dApp base (os.take k)).size + (opPart base o).size = (dApp base (os.take (k + 1))).size) := by
              show _ = _; rw [HA.out, ByteArray.size_append]
            clear hrow p0 p1 p2
            go_wp2_with (at_builtin; go_must (refine wpList_append_own_string _ rfl _ _ 22 9 rfl w.heap.size 5 i0 Try.underlying22 Try.underlying9 hi hz0 hz1 hz2 _ (dApp base (os.take k)).size (strCells (dApp base (os.take k))) rfl hrow3 (opPart base o) rfl (by unfold maxLen; omega) (by omega) (by omega) ?_); intro v' w5 hown hg hnil)
            have hlt5 := World.ownsRow.lt hrow3
            have hb5 : Below w.heap.size w w5 := (hb.trans (b3.mono hz)).grown hg (by omega) (fun j hj => (hlt5 j hj).1)
            rw [HT.out, HSZ.out] at hown
            have hv5 : OwnStr w5 w.heap.size v' (dApp base (os.take (k + 1))) := ⟨hown, fun e => hne (hnil.1 e).1⟩
            clear hown hg hnil hrow3 hlt5
            go_wp2
            go_roundw
            case rel => exact ⟨k + 1, by omega, by go_num, hv5, H2, hb5⟩
            case measure => simp [intOf]; omega
        · have hk' : k = os.length := by omega
          subst hk'
          rw [List.take_length] at hv hsz
          have hfit := hid (fit_yes (base := base) (os := os) fun j hj => HF.out j hj hj)
          clear HF
          obtain ⟨g, cp, rfl, hconv⟩ := hv.form
          by_cases h9 : (dApp base os).size ≤ 8
          · have F := hid (dOk_y h8 hl hfit.out h9)
            go_wp2
            go_ret2
            exact .yes_ F.out hb
          · have F := hid (dOk_d (base := base) (os := os) h9)
            go_wp2
            go_ret2
            exact .no_ F.out hb
    · have F := hid (dOk_b (base := base) hl)
      go_enter Try.func77, Try.ntmps77
      go_wp2
      go_ret2
      exact .no_ F.out (Below.refl _ _)
  · have F := hid (dOk_a (os := os) h8)
    go_enter Try.func77, Try.ntmps77
    go_wp2
    go_ret2
    exact .no_ F.out (Below.refl _ _)
end Go.Proofs.Ytkekbobnbipmoaa
