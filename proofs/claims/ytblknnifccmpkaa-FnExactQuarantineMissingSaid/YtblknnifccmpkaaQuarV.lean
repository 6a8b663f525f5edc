/-
  Walk: which quarantines are valid, by the model.
-/
import Derived.Test.YtblknnifccmpkaaG7C
import Derived.Test.YtblknnifccmpkaaStoreV
namespace Go.Proofs.Ytblknnifccmpkaa
open Go.RowKit Wo Pu Qu

theorem Objs.later {B : Nat} {W : World} {A : Option Addr} {os : List Ob} (h : Objs W B A os) (x : Later B W) : Objs x.w B A os := h.below x.h (Nat.le_refl _)
set_option maxRecDepth 100000 in
set_option maxHeartbeats 8000000 in
theorem specQuarantineValid_is (b : Bool) (v : Value) (q : Qr) (w : World) (h : Quar w w.heap.size v q) (hf : FitQ q) (hb : b = true ↔ QV q) :
    Calls Try.prog 22 #[v] w (Ret (.bool b) w) := by
  obtain ⟨A, c, A2, c2, rfl, hm0, hmc, ha0, hac⟩ := h
  obtain ⟨f1, f2, f3, f4⟩ := hf
  have HB := hid hb
  clear hb
  unfold qv
  go_enter Try.func22, Try.ntmps22
  have al := (Below.refl w.heap.size w).alloc (Nat.le_refl _) (.cells #[.slice A q.m.length c, .slice A2 q.rs.length c2] 26)
  have u := BlkQ.new_ w 26 (.slice A q.m.length c) (.slice A2 q.rs.length c2)
  go_wp2_with fail
  go_loopw [3] (fun i wr => ∃ k : Nat, k ≤ q.rs.length ∧ i = .int .i64 k ∧ Hid (ArTo q.rs k) ∧ BlkQ wr w.heap.size 26 (.slice A q.m.length c) (.slice A2 q.rs.length c2) ∧ Below w.heap.size w wr) (fun i _ => q.rs.length - (intOf i).toNat)
  case atStart => exact ⟨0, Nat.zero_le _, rfl, .zero _, u, al⟩
  case round =>
    obtain ⟨k, hk, rfl, H, ur, hbr⟩ := hrel
    clear u al
    have hz := hbr.size
    obtain ⟨z0, z1, -⟩ := id ur.reads
    by_cases hlt : k < q.rs.length
    · have ha := (ha0.below hbr (Nat.le_refl _)).more hz
      obtain ⟨a, ad, A', c', ho, rfl, had, g0, g1, -, g3⟩ := ha.ar hlt
      have q0 : (0 : Int) ≤ (k : Int) := by omega
      have q1 : (k : Int) < (q.rs.length : Int) := by omega
      have hfa : Fit a.os ∧ a.os.length ≤ 1048576 := by rw [← ho]; exact f4 _ (List.getElem_mem hlt)
      have hbW := hbr.alloc hz (.cells #[.int .i64 a.t, .slice A' a.os.length c'] 84)
      have u1 := BlkQ.new_ wr 84 (.int .i64 a.t) (.slice A' a.os.length c')
      have u0 := ur.alloc (.cells #[.int .i64 a.t, .slice A' a.os.length c'] 84)
      have al1 := (Below.refl wr.heap.size wr).alloc (Nat.le_refl _) (.cells #[.int .i64 a.t, .slice A' a.os.length c'] 84)
      have hobj := (g3.below al1 (Nat.le_refl _)).more al1.size
      have haW := (ha.below al1 (Nat.le_refl _)).more al1.size
      have lt0 := u0.lt
      go_wp2_with fail
      generalize wr.alloc (.cells #[.int .i64 a.t, .slice A' a.os.length c'] 84) = W at *
      have hzW := hbW.size
      obtain ⟨x0, x1, -⟩ := id u1.reads
      obtain ⟨y0, y1, -⟩ := id u0.reads
      have L0 := Later.cell x0 u1.lt
      have L1 := Later.cell x1 u1.lt
      have L3 := Later.cell y1 lt0
      obtain ⟨bt, hbt⟩ := bool_of' (TxnV a.t)
      have CT : Hid (∀ x, Calls Try.prog 65 #[.int .i64 a.t] x (Ret (.bool bt) x)) := fun x => (l12Txn_is bt _ x hbt).mono fun _ _ h => ⟨h.1, by rw [← h.2]; exact Below.refl _ _⟩
      obtain ⟨bs, hbs⟩ : ∃ bs, storeB a.os = bs := ⟨_, rfl⟩
      clear g0 g1 g3 x0 x1 y0 y1 z0 z1 ha ur hbr u1 al1
      by_cases hem : a.os.length = 0
      · obtain ⟨ta, oa⟩ := a
        simp only at hem hfa hobj hbt CT hbs L0 L1 ho
        obtain rfl : oa = [] := List.eq_nil_of_length_eq_zero hem
        have CS : Hid (∀ x, Objs x x.heap.size A' [] → Calls Try.prog 23 #[.slice A' 0 c'] x (Ret (.bool true) x)) := fun x hx => specStoreValid_any A' c' [] x hx (fun o ho => by cases ho) (Nat.zero_le _)
        have F := hid (qv_no HB.out hlt (fun h => by have := h.1.2.2; rw [ho] at this; exact this rfl))
        clear H hbs hem ho hfa
        cases bt with
        | false => 
          clear hbt
          refine wp_region_later W.heap.size (by kernel_rfl) (by kernel_rfl) ?_
          repeat (go_big_quiet_step ((first | (go_at_call 65; exact Later.call (Nat.le_refl _) _ (CT.out _)) | (go_at_call 23; exact Later.call (Nat.le_refl _) _ (CS.out _ ((hobj.later _).more (Later.size (Nat.le_refl _) _)))))))
          refine wpQuiet_nil ?_
          intro _ hw'
          obtain ⟨xx, hxx⟩ := hw'
          have hbx := xx.b
          subst hxx
          go_wp2
          go_ret
          rw [F.out]
          exact .mk_ (hbW.trans (hbx.mono hzW))
        | true =>
          clear hbt
          refine wp_region_later W.heap.size (by kernel_rfl) (by kernel_rfl) ?_
          repeat (go_big_quiet_step ((first | (go_at_call 65; exact Later.call (Nat.le_refl _) _ (CT.out _)) | (go_at_call 23; exact Later.call (Nat.le_refl _) _ (CS.out _ ((hobj.later _).more (Later.size (Nat.le_refl _) _)))))))
          refine wpQuiet_nil ?_
          intro _ hw'
          obtain ⟨xx, hxx⟩ := hw'
          have hbx := xx.b
          subst hxx
          go_wp2
          go_ret
          rw [F.out]
          exact .mk_ (hbW.trans (hbx.mono hzW))
      · have CS : Hid (∀ x, Objs x x.heap.size A' a.os → Calls Try.prog 23 #[.slice A' a.os.length c'] x (Ret (.bool bs) x)) := fun x hx => by
          rw [← hbs]
          exact specStoreValid_any A' c' a.os x hx hfa.1 (by unfold maxLen; omega)
        have e0 : ((a.os.length : Int) == 0) = false := by rw [beq_eq_false_iff_ne]; omega
        cases bt with
        | false =>
          have F := hid (qv_no HB.out hlt (fun h => by have := hbt.2 (ho ▸ h.1.1); cases this))
          clear H hbt hbs ho hem
          refine wp_region_later W.heap.size (by kernel_rfl) (by kernel_rfl) ?_
          repeat (go_big_quiet_step ((first | (go_at_call 65; exact Later.call (Nat.le_refl _) _ (CT.out _)) | (go_at_call 23; exact Later.call (Nat.le_refl _) _ (CS.out _ ((hobj.later _).more (Later.size (Nat.le_refl _) _)))))))
          refine wpQuiet_nil ?_
          intro _ hw'
          obtain ⟨xx, hxx⟩ := hw'
          have hbx := xx.b
          subst hxx
          go_wp2
          go_ret
          rw [F.out]
          exact .mk_ (hbW.trans (hbx.mono hzW))
        | true =>
          cases bs with
          | false =>
            have F := hid (qv_no HB.out hlt (fun h => by have := h.1.2.1; rw [ho, hbs] at this; cases this))
            clear H hbt hbs ho hem
            refine wp_region_later W.heap.size (by kernel_rfl) (by kernel_rfl) ?_
            repeat (go_big_quiet_step ((first | (go_at_call 65; exact Later.call (Nat.le_refl _) _ (CT.out _)) | (go_at_call 23; exact Later.call (Nat.le_refl _) _ (CS.out _ ((hobj.later _).more (Later.size (Nat.le_refl _) _)))))))
            refine wpQuiet_nil ?_
            intro _ hw'
            obtain ⟨xx, hxx⟩ := hw'
            have hbx := xx.b
            subst hxx
            go_wp2
            go_ret
            rw [F.out]
            exact .mk_ (hbW.trans (hbx.mono hzW))
          | true =>
            have hav : ArV q.rs[k] := by rw [ho]; exact ⟨hbt.1 rfl, hbs, fun e => hem (by rw [e]; rfl)⟩
            by_cases hk0 : k = 0
            · have e5 : decide ((0 : Int) < (k : Int)) = false := decide_eq_false (by omega)
              have e6 : decide (0 < k) = false := decide_eq_false (by omega)
              have HN := hid (H.out.next hlt ⟨hav, .inl hk0⟩)
              clear H hbt hbs ho hem hav hk0
              refine wp_region_later W.heap.size (by kernel_rfl) (by kernel_rfl) ?_
              repeat (go_big_quiet_step ((first | (go_at_call 65; exact Later.call (Nat.le_refl _) _ (CT.out _)) | (go_at_call 23; exact Later.call (Nat.le_refl _) _ (CS.out _ ((hobj.later _).more (Later.size (Nat.le_refl _) _)))))))
              refine wpQuiet_nil ?_
              intro _ hw'
              obtain ⟨xx, hxx⟩ := hw'
              have hbx := xx.b
              subst hxx
              go_wp2
              go_roundw
              case rel => exact ⟨k + 1, by omega, by go_num, HN, u0.below hbx (by omega), hbW.trans (hbx.mono hzW)⟩
              case measure => simp [intOf]; omega
            · obtain ⟨m, rfl⟩ : ∃ m, k = m + 1 := ⟨k - 1, by omega⟩
              obtain ⟨a', ad', A3, c3, ho', e', ha', p0, -, -, -⟩ := haW.ar (k := m) (by omega)
              injection e' with e'
              subst e'
              have LP := Later.cell p0 ha'
              have e5 : decide ((0 : Int) < ((m + 1 : Nat) : Int)) = true := decide_eq_true (by omega)
              have q2 : ((m + 1 : Nat) : Int) - 1 = (m : Int) := by omega
              have q3 : (m : Int) < (q.rs.length : Int) := by omega
              have q4 : (0 : Int) ≤ (m : Int) := by omega
              have q5 : IntKind.i64.wrap (((m + 1 : Nat) : Int) - 1) = (m : Int) := by rw [IntWalk.i64_in _ (by omega)]; omega
              by_cases hord : a'.t < a.t
              · have e6 : decide (a.t ≤ a'.t) = false := decide_eq_false (by omega)
                have HN := hid (H.out.next hlt ⟨hav, .inr ⟨by omega, by
                  have : m + 1 - 1 = m := by omega
                  simp only [this]
                  rw [ho', ho]
                  exact hord⟩⟩)
                clear H hbt hbs ho ho' hem hav hk0 p0
                refine wp_region_later W.heap.size (by kernel_rfl) (by kernel_rfl) ?_
                repeat (go_big_quiet_step ((first | (go_at_call 65; exact Later.call (Nat.le_refl _) _ (CT.out _)) | (go_at_call 23; exact Later.call (Nat.le_refl _) _ (CS.out _ ((hobj.later _).more (Later.size (Nat.le_refl _) _)))))))
                refine wpQuiet_nil ?_
                intro _ hw'
                obtain ⟨xx, hxx⟩ := hw'
                have hbx := xx.b
                subst hxx
                go_wp2
                go_roundw
                case rel => exact ⟨m + 1 + 1, by omega, by go_num, HN, u0.below hbx (by omega), hbW.trans (hbx.mono hzW)⟩
                case measure => simp [intOf]; omega
              · have e6 : decide (a.t ≤ a'.t) = true := decide_eq_true (by omega)
                have F := hid (qv_no HB.out hlt (fun h => by
                  rcases h.2 with h | ⟨_, h⟩
                  · omega
                  · have e : m + 1 - 1 = m := by omega
                    simp only [e] at h
                    rw [ho', ho] at h
                    exact hord h))
                clear H hbt hbs ho ho' hem hav hk0 p0
                refine wp_region_later W.heap.size (by kernel_rfl) (by kernel_rfl) ?_
                repeat (go_big_quiet_step ((first | (go_at_call 65; exact Later.call (Nat.le_refl _) _ (CT.out _)) | (go_at_call 23; exact Later.call (Nat.le_refl _) _ (CS.out _ ((hobj.later _).more (Later.size (Nat.le_refl _) _)))))))
                refine wpQuiet_nil ?_
                intro _ hw'
                obtain ⟨xx, hxx⟩ := hw'
                have hbx := xx.b
                subst hxx
                go_wp2
                go_ret
                rw [F.out]
                exact .mk_ (hbW.trans (hbx.mono hzW))
    · have hk' : k = q.rs.length := by omega
      subst hk'
      have F := hid (qv_end HB.out H.out)
      have hmo := (hm0.below hbr (Nat.le_refl _)).more hz
      obtain ⟨bs, hbs⟩ : ∃ bs, storeB q.m = bs := ⟨_, rfl⟩
      have CS : Hid (∀ x, Objs x x.heap.size A q.m → Calls Try.prog 23 #[.slice A q.m.length c] x (Ret (.bool bs) x)) := fun x hx => by
        rw [← hbs]
        exact specStoreValid_any A c q.m x hx f1 (by unfold maxLen; omega)
      rw [hbs] at F
      obtain ⟨bl, hbl⟩ : ∃ bl, decide (q.rs.length ≤ 4) = bl := ⟨_, rfl⟩
      rw [hbl] at F
      have e0 : decide ((q.rs.length : Int) ≤ 4) = bl := by
        rw [← hbl]
        exact Bool.eq_iff_iff.2 (by rw [decide_eq_true_iff, decide_eq_true_iff]; omega)
      clear H hbs hk hlt
      go_wp2_with fail
      refine (CS.out _ hmo).mono ?_
      rintro e w1 ⟨rfl, hb1⟩
      have u1 := ur.below hb1 ur.lt
      obtain ⟨x0, x1, -⟩ := id u1.reads
      have b1 := hbr.trans (hb1.mono hz)
      cases bs with
      | false =>
        go_wp2
        go_ret
        rw [F.out]
        exact .mk_ b1
      | true =>
        go_wp2
        go_ret
        rw [F.out]
        exact .mk_ b1
end Go.Proofs.Ytblknnifccmpkaa
