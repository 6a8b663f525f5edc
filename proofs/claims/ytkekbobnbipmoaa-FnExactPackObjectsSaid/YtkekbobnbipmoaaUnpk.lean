/-
  Walk: a node's object.
-/
import Derived.Test.YtkekbobnbipmoaaMakeP
import Derived.Test.YtkekbobnbipmoaaNode
import Derived.Test.YtkekbobnbipmoaaApplyS
import Derived.Test.YtkekbobnbipmoaaGet
namespace Go.Proofs.Ytkekbobnbipmoaa
open Go.RowKit Wo Pu

theorem Nd.set_g {ns : List Nd} {i : Nat} (hi : i < ns.length) (t : ByteArray) (j : Nat) : ((ns.set i ⟨ns[i].g, ns[i].k, ns[i].l, ns[i].o, t⟩)[j]?).map Nd.g = (ns[j]?).map Nd.g := by
  rw [List.getElem?_set]
  by_cases h : i = j
  · subst h
    rw [if_pos rfl, if_pos hi, List.getElem?_eq_getElem hi]
    rfl
  · rw [if_neg h]
theorem pTo_set {ns : List Nd} {i : Nat} (hi : i < ns.length) (t : ByteArray) (b : Int) : pTo (ns.set i ⟨ns[i].g, ns[i].k, ns[i].l, ns[i].o, t⟩) b = pTo ns b := by
  unfold pTo
  have h := Nd.set_g hi t b.toNat
  rcases h1 : (ns.set i ⟨ns[i].g, ns[i].k, ns[i].l, ns[i].o, t⟩)[b.toNat]? with _ | n1 <;> rcases h2 : ns[b.toNat]? with _ | n2 <;> rw [h1, h2] at h <;> simp at h ⊢
  rw [h]
theorem ptrs_set {ns : List Nd} {i : Nat} (hi : i < ns.length) (t : ByteArray) : ptrs (ns.set i ⟨ns[i].g, ns[i].k, ns[i].l, ns[i].o, t⟩) = ptrs ns := by
  refine List.ext_getElem? fun j => ?_
  unfold ptrs
  rw [List.getElem?_map, List.getElem?_map]
  have h := Nd.set_g hi t j
  rcases h1 : (ns.set i ⟨ns[i].g, ns[i].k, ns[i].l, ns[i].o, t⟩)[j]? with _ | n1 <;> rcases h2 : ns[j]? with _ | n2 <;> rw [h1, h2] at h <;> simp at h ⊢
  rw [h]
theorem Chain.set {w : World} {B : Nat} {v : Value} {es : List Ent} {ns : List Nd} (h : Chain w B v es ns) {i : Nat} (hi : i < ns.length) (t : ByteArray) :
    Chain (w.setCell ⟨ns[i].g, 5, none⟩ (.string t)) B v es (ns.set i ⟨ns[i].g, ns[i].k, ns[i].l, ns[i].o, t⟩) := by
  obtain ⟨h1, h2, h3, h4, h5⟩ := h
  have hie : i < es.length := by omega
  have hE := (h4 i hie hi).2
  refine ⟨by rw [List.length_set]; exact h1, h2, ?_, fun j hj hj2 => ?_, fun j k hj hk hjk => ?_⟩
  · rw [List.length_set, ptrs_set hi]
    exact World.ownsRow.kept h3 (but_set w _ 5 _) (.inr (row_ne h3 hE (by decide)))
  · have hj3 : j < ns.length := by rw [List.length_set] at hj2; exact hj2
    obtain ⟨a, b⟩ := h4 j hj hj3
    unfold ndC
    rw [pTo_set hi]
    by_cases hij : i = j
    · subst hij
      simp only [List.getElem_set_self]
      exact ⟨a, set_heap hE 5 (.string t)⟩
    · simp only [List.getElem_set_ne hij]
      refine ⟨a, ?_⟩
      have hne : ns[j].g ≠ ns[i].g := by
        rcases Nat.lt_or_gt_of_ne hij with hl | hl
        · exact (h5 i j hi hj3 hl).symm
        · exact h5 j i hj3 hi hl
      rw [heap_setCell_other _ _ _ _ hne]
      exact b
  · rw [List.length_set] at hj hk
    have e : ∀ m (hm : m < ns.length) (hm2 : m < (ns.set i ⟨ns[i].g, ns[i].k, ns[i].l, ns[i].o, t⟩).length), (ns.set i ⟨ns[i].g, ns[i].k, ns[i].l, ns[i].o, t⟩)[m].g = ns[m].g := fun m hm hm2 => by
      have := Nd.set_g hi t m
      rw [List.getElem?_eq_getElem hm2, List.getElem?_eq_getElem hm] at this
      simpa using this
    rw [e j hj, e k hk]
    exact h5 j k hj hk hjk
theorem NR.set {w : World} {R : Nat} {es : List Ent} {ns : List Nd} (h : NR w R es ns) {i : Nat} (hi : i < ns.length) (t : ByteArray) : NR w R es (ns.set i ⟨ns[i].g, ns[i].k, ns[i].l, ns[i].o, t⟩) := fun j hj hj2 => by
  have hj3 : j < ns.length := by rw [List.length_set] at hj2; exact hj2
  by_cases hij : i = j
  · subst hij
    simp only [List.getElem_set_self]
    exact h i hj hi
  · simp only [List.getElem_set_ne hij]
    exact h j hj hj3
theorem Chain.later {W : World} {B : Nat} {v : Value} {es : List Ent} {ns : List Nd} (h : Chain W B v es ns) (x : Later W.heap.size W) : Chain x.w B v es ns := h.below x.h (Nat.le_refl _)
theorem baseText_val (T : ByteArray) (B : Nat) (v : Value) (es : List Ent) (ns : List Nd) (i : Nat) (w : World) (h : Chain w B v es ns) (hi : i < es.length) (hi2 : i < ns.length) (hT : txtN ns es[i].b = T) :
    Calls Try.prog 78 #[.pointer (some ⟨ns[i].g, 0, none⟩)] w (Ret (.string T) w) := by
  subst hT
  refine (baseText_any B v es ns i w h hi hi2).mono ?_
  rintro e w' ⟨rfl, rfl⟩
  exact .mk_ (Below.refl _ _)
theorem Chain.far {w : World} {B G : Nat} {v v0 v1 v2 : Value} {es : List Ent} {ns : List Nd} (h : Chain w B v es ns) (hu : Blk w G 42 v0 v1 v2) (k : Nat) (x : Value) : Chain (w.setCell ⟨G, k, none⟩ x) B v es ns := by
  obtain ⟨h1, h2, h3, h4, h5⟩ := h
  refine ⟨h1, h2, World.ownsRow.kept h3 (but_set w G k x) (.inr (row_ne h3 hu (by decide))), fun i hi hi2 => ?_, h5⟩
  obtain ⟨a, b⟩ := h4 i hi hi2
  refine ⟨a, ?_⟩
  have hne : ns[i].g ≠ G := fun e => by
    have hu' : w.heap[G]? = some (.cells #[v0, v1, v2] 42 (0, 0)) := hu
    rw [e, hu'] at b
    injection b with b
    injection b with _ b
    exact absurd b (by decide)
  rw [heap_setCell_other _ _ _ _ hne]
  exact b
theorem dRes_small (b : ByteArray) (os : List Op2) : (dRes b os).size ≤ maxLen := by
  unfold maxLen
  cases hd : dOk b os
  · rw [dRes_no hd]; decide
  · have := (app_fits hd).2; omega
/-- Behind unpack. -/
def Unpk (B R : Nat) (v : Value) (es : List Ent) (ns : List Nd) (i : Nat) (o : Ob) (g : Bool) (w : World) (e : Ending) (w' : World) : Prop :=
  (g = false ∧ e = .returned (.tuple #[ob 0 none 0 0 ⟨#[]⟩, .bool false]) ∧ Below B w w') ∨
  (g = true ∧ ∃ (A : Option Addr) (c : Nat), e = .returned (.tuple #[ob o.kd A o.zs.length c o.s, .bool true]) ∧ Own w' w.heap.size (.slice A o.zs.length c) o.zs ∧
    (∀ h : i < ns.length, Chain w' B v es (ns.set i ⟨ns[i].g, ns[i].k, ns[i].l, ns[i].o, o.s⟩) ∧ NR w' R es (ns.set i ⟨ns[i].g, ns[i].k, ns[i].l, ns[i].o, o.s⟩) ∧ But ns[i].g w w') ∧ Below B w w')

set_option maxHeartbeats 4000000 in
theorem unpack_any (B R : Nat) (v : Value) (es : List Ent) (ns : List Nd) (i : Nat) (T : ByteArray) (o : Ob) (w : World) (h : Chain w B v es ns) (hnr : NR w R es ns) (hRB : R ≤ B) (hB : B ≤ w.heap.size) (hi : i < es.length) (hi2 : i < ns.length) (hn : es.length ≤ 1048576) (hfe : FitE es)
    (HT : Hid (txtN ns es[i].b = T)) (hT : T.size ≤ 1048576) (hkd : es[i].kd = o.kd) (hzs : es[i].zs = o.zs) (HO : Hid (dRes T es[i].ops = o.s)) :
    Calls Try.prog 49 #[.pointer (some ⟨ns[i].g, 0, none⟩)] w (Unpk B R v es ns i o (decide (dep es i ≤ 2) && (dOk T es[i].ops && vOb o)) w) := by
  have a0 := (Below.refl w.heap.size w).alloc (Nat.le_refl _) (.cells #[.int .i64 0, .slice none 0 0, .string ⟨#[]⟩] 42)
  have t0 := Blk.new_ w 42 (.int .i64 0) (.slice none 0 0) (.string ⟨#[]⟩)
  have hgw := h.lt hi2
  have hgB := (h.2.2.2.1 i hi hi2).1
  have ch0 := h.below a0 (Nat.le_refl _)
  have nr0 := hnr.below a0 (by omega)
  obtain ⟨g, hg⟩ : ∃ g, (decide (dep es i ≤ 2) && (dOk T es[i].ops && vOb o)) = g := ⟨_, rfl⟩
  rw [hg]
  have HG := hid hg
  clear hg
  go_enter Try.func49, Try.ntmps49
  go_wp2_with fail
  refine (depth_any B v es ns i _ ch0 hi hi2 hn).mono ?_
  rintro e w' ⟨rfl, rfl⟩
  obtain ⟨w0, hw0⟩ : ∃ w0, w.alloc (.cells #[.int .i64 0, .slice none 0 0, .string ⟨#[]⟩] 42) = w0 := ⟨_, rfl⟩
  rw [hw0] at a0 t0 ch0 nr0 ⊢
  clear hw0 h hnr
  have z0 := a0.size
  have tb0 : But ns[i].g w w0 := .of_below a0
  obtain ⟨d, hd⟩ : ∃ d, dep es i = d := ⟨_, rfl⟩
  rw [hd] at HG ⊢
  clear hd
  obtain ⟨s0, s1, s2, sf⟩ := id t0.reads
  by_cases hd2 : d ≤ 2
  · have d1 : ¬ 2 < (d : Int) := by omega
    have hdd : decide (d ≤ 2) = true := decide_eq_true hd2
    rw [hdd, Bool.true_and] at HG
    obtain ⟨y0, y1, y2, y3, y4, y5, yf⟩ := ch0.cells hi hi2
    obtain ⟨n0, Al, cl, Ao, co, n1, n2, n3, n4⟩ := nr0 i hi hi2
    rw [n2] at y3
    have hgl := ch0.lt hi2
    obtain ⟨q1, q2, q3, -⟩ := hfe es[i] (List.getElem_mem hi)
    have G3 := Later.cell (p := ⟨ns[i].g, 3, none⟩) y3 hgl
    clear y0 y1 y2 y3 y4 y5 yf s0 s1 s2 sf hdd hd2
    have ap : ∀ (x : World), Row x x.heap.size Ao (opsV es[i].ops) → Calls Try.prog 77 #[.string T, .slice Ao es[i].ops.length co] x (Ret (.tuple #[.string (dRes T es[i].ops), .bool (dOk T es[i].ops)]) x) := fun x hx => implDeltaApply_any Ao co es[i].ops T x hx q2 q3 hT
    have hRw : R ≤ w0.heap.size := by omega
    obtain ⟨u, hu⟩ : ∃ u, dOk T es[i].ops = u := ⟨_, rfl⟩
    rw [hu] at HG ap
    rw [HO.out] at ap
    have AP := hid ap
    clear hu ap
    go_wp2_with fail
    refine wp_region_later w0.heap.size (by kernel_rfl) (by kernel_rfl) ?_
    repeat (go_big_quiet_step ((first | (go_at_call 78; exact Later.call (Nat.le_refl _) _ (baseText_val T B v es ns i _ (ch0.later _) hi hi2 HT.out)) | (go_at_call 77; exact Later.call (Nat.le_refl _) _ (AP.out _ ((n4.below (Later.b _) hRw).more (Nat.le_trans hRw (Later.size (Nat.le_refl _) _))))))))
    refine wpQuiet_nil ?_
    intro _ hw'
    obtain ⟨xx, hxx⟩ := hw'
    have hbx := xx.b
    subst hxx
    have ch5 := ch0.later xx
    have nr5 := nr0.below hbx hRw
    have t5 := t0.below hbx t0.lt
    have a5 := a0.trans (hbx.mono z0)
    have tb5 : But ns[i].g w xx.w := tb0.trans (.of_below hbx)
    clear tb0
    clear ch0 nr0 t0 a0 G3 n4 n3 hbx AP
    generalize xx.w = w5 at *
    clear xx
    cases u
    · obtain ⟨s0, s1, s2, sf⟩ := id t5.reads
      have sf0 := sf 0
      have sf1 := sf 1
      have sf2 := sf 2
      clear sf
      go_wp2_with fail
      refine bodyPost_ret (v := .tuple #[ob 0 none 0 0 ⟨#[]⟩, .bool false]) (by simp [results, Try.results49, go_sem, ob, s0, s1, s2]) rfl (.inl ⟨HG.out.symm, rfl, ?_⟩)
      exact ((((a5.mono hB).setCell (p := ⟨w.heap.size, 0, none⟩) hB _).setCell (p := ⟨w.heap.size, 1, none⟩) hB _).setCell (p := ⟨w.heap.size, 2, none⟩) hB _)
    · rw [Bool.true_and] at HG
      obtain ⟨y0, y1, y2, y3, y4, y5, yf⟩ := ch5.cells hi hi2
      have yf5 := yf 5
      clear y0 y1 y2 y3 y4 yf
      go_upto_region 7 with (fail)
      have ch6 := ch5.set hi2 o.s
      have b6 : Below B w (w5.setCell ⟨ns[i].g, 5, none⟩ (.string o.s)) := (a5.mono hB).setCell (p := ⟨ns[i].g, 5, none⟩) hgB _
      have nr6 := (nr5.below ((Below.refl R w5).setCell (p := ⟨ns[i].g, 5, none⟩) (by show R ≤ ns[i].g; omega) (.string o.s)) (Nat.le_refl _)).set hi2 o.s
      have t6 := t5.far (p := ⟨ns[i].g, 5, none⟩) (by show w.heap.size ≠ ns[i].g; omega) (.string o.s)
      have hs5 : w.heap.size < w5.heap.size := t5.lt
      have tb6 := tb5.trans (but_set w5 ns[i].g 5 (.string o.s))
      clear tb5
      have hs6 : w5.heap.size ≤ (w5.setCell ⟨ns[i].g, 5, none⟩ (.string o.s)).heap.size := Nat.le_of_eq (by simp [World.setCell])
      clear ch5 nr5 t5 a5 y5 yf5
      generalize w5.setCell ⟨ns[i].g, 5, none⟩ (.string o.s) = w6 at *
      obtain ⟨y0, y1, -⟩ := ch6.cells hi (by rw [List.length_set]; exact hi2)
      simp only [List.getElem_set_self] at y0 y1
      rw [n0, hkd] at y0
      rw [n1, hzs] at y1
      have ne6 : ns[i].g ≠ w6.heap.size := by omega
      go_wp2_with fail
      go_region_held3 (fun w' => w'.cell? ⟨ns[i].g, 0, none⟩ = some (.int .i64 o.kd) ∧ w'.cell? ⟨ns[i].g, 1, none⟩ = some (.slice Al o.zs.length cl)) (go_keep) (fail)
      have hch7 : Below w6.heap.size w6 (w6.alloc (.cells #[.int .i64 o.kd, .slice Al o.zs.length cl, .string o.s] 42)).drew := ((Below.refl _ _).alloc (Nat.le_refl _) _).drew
      have u7 : Blk (w6.alloc (.cells #[.int .i64 o.kd, .slice Al o.zs.length cl, .string o.s] 42)).drew w6.heap.size 42 (.int .i64 o.kd) (.slice Al o.zs.length cl) (.string o.s) := Blk.new_ w6 _ _ _ _
      have ch7 := ch6.below hch7 (Nat.le_refl _)
      have hie : i < (ns.set i ⟨ns[i].g, ns[i].k, ns[i].l, ns[i].o, o.s⟩).length := by rw [List.length_set]; exact hi2
      have hRw6 : R ≤ w6.heap.size := by omega
      have nr7 := nr6.below hch7 hRw6
      have t7 := t6.below hch7 t6.lt
      have b7 := b6.trans (hch7.mono (Nat.le_trans hB b6.size))
      have rl7 : Row (w6.alloc (.cells #[.int .i64 o.kd, .slice Al o.zs.length cl, .string o.s] 42)).drew R Al (ints o.zs) := by
        obtain ⟨_, Al', cl', Ao', co', m1, m2, m3, m4⟩ := nr7 i hi hie
        simp only [List.getElem_set_self] at m1
        rw [n1] at m1
        injection m1 with m1 _ _
        subst m1
        rw [hzs] at m3
        exact m3
      have hz7 := hch7.size
      have tb7 : But ns[i].g w (w6.alloc (.cells #[.int .i64 o.kd, .slice Al o.zs.length cl, .string o.s] 42)).drew := tb6.trans (.of_below hch7)
      clear tb6
      have hzn : o.zs.length ≤ 1048576 := by rw [← hzs]; exact q1
      clear ch6 nr6 t6 b6 hch7 y0 y1 hRw6
      generalize (w6.alloc (.cells #[.int .i64 o.kd, .slice Al o.zs.length cl, .string o.s] 42)).drew = w7 at *
      obtain ⟨x0, x1, x2, -⟩ := id u7.reads
      have hR7 : R ≤ w7.heap.size := by omega
      have hsz : o.s.size ≤ maxLen := by rw [← HO.out]; exact dRes_small T es[i].ops
      go_wp2_with fail
      refine (implValidP_val g R Al cl o w7 HG.out rl7 hR7 (by unfold maxLen; omega) hsz).mono ?_
      rintro e w8 ⟨rfl, hb8⟩
      have ch8 := ch7.below hb8 (Nat.le_refl _)
      have nr8 := nr7.below hb8 hR7
      have t8 := t7.below hb8 t7.lt
      have u8 := u7.below hb8 u7.lt
      have b8 := b7.trans (hb8.mono (Nat.le_trans hB b7.size))
      have rl8 := rl7.below hb8 hR7
      have tb8 := tb7.trans (.of_below hb8)
      clear tb7
      have z8 : w6.heap.size ≤ w8.heap.size := Nat.le_trans hz7 hb8.size
      clear ch7 nr7 t7 u7 b7 rl7 x0 x1 x2 hb8
      cases g
      · obtain ⟨s0, s1, s2, sf⟩ := id t8.reads
        have sf0 := sf 0
        have sf1 := sf 1
        have sf2 := sf 2
        clear sf
        go_wp2_with fail
        refine bodyPost_ret (v := .tuple #[ob 0 none 0 0 ⟨#[]⟩, .bool false]) (by simp [results, Try.results49, go_sem, ob, s0, s1, s2]) rfl (.inl ⟨rfl, rfl, ?_⟩)
        exact (((b8.setCell (p := ⟨w.heap.size, 0, none⟩) hB _).setCell (p := ⟨w.heap.size, 1, none⟩) hB _).setCell (p := ⟨w.heap.size, 2, none⟩) hB _)
      · obtain ⟨x0, x1, x2, -⟩ := id u8.reads
        go_wp2_with fail
        refine (copied_any R Al cl o w8 rl8 (by omega) hzn).mono ?_
        rintro e w9 ⟨A9, c9, rfl, o9, hb9⟩
        have ch9 := ch8.below hb9 (Nat.le_refl _)
        have nr9 := nr8.below hb9 (by omega)
        have t9 := t8.below hb9 t8.lt
        have b9 := b8.trans (hb9.mono (Nat.le_trans hB b8.size))
        have tb9 := tb8.trans (.of_below hb9)
        obtain ⟨s0, s1, s2, sf⟩ := id t9.reads
        have sf0 := sf 0
        have sf1 := sf 1
        have sf2 := sf 2
        clear sf ch8 nr8 t8 u8 b8 rl8 x0 x1 x2
        unfold ob
        go_wp2_with fail
        refine bodyPost_ret (v := .tuple #[ob o.kd A9 o.zs.length c9 o.s, .bool true]) (by simp [results, Try.results49, go_sem, ob, s0, s1, s2]) rfl (.inr ⟨rfl, A9, c9, rfl, ?_, fun _ => ⟨?_, ?_, ?_⟩, ?_⟩)
        · exact ((o9.far t9 0 _).far (t9.set0 _) 1 _).far ((t9.set0 _).set1 _) 2 _ |>.base (by omega)
        · exact ((ch9.far t9 0 _).far (t9.set0 _) 1 _).far ((t9.set0 _).set1 _) 2 _
        · have q : R ≤ w.heap.size := by omega
          exact nr9.below ((((Below.refl R w9).setCell (p := ⟨w.heap.size, 0, none⟩) q _).setCell (p := ⟨w.heap.size, 1, none⟩) q _).setCell (p := ⟨w.heap.size, 2, none⟩) q _) (Nat.le_refl _)
        · exact ((tb9.set_new (Nat.le_refl _) 0 _).set_new (Nat.le_refl _) 1 _).set_new (Nat.le_refl _) 2 _
        · exact (((b9.setCell (p := ⟨w.heap.size, 0, none⟩) hB _).setCell (p := ⟨w.heap.size, 1, none⟩) hB _).setCell (p := ⟨w.heap.size, 2, none⟩) hB _)
  · have d1 : 2 < (d : Int) := by omega
    have hdd : decide (d ≤ 2) = false := decide_eq_false hd2
    rw [hdd, Bool.false_and] at HG
    have sf0 := sf 0
    have sf1 := sf 1
    have sf2 := sf 2
    go_wp2_with fail
    refine bodyPost_ret (v := .tuple #[ob 0 none 0 0 ⟨#[]⟩, .bool false]) (by simp [results, Try.results49, go_sem, ob, s0, s1, s2]) rfl (.inl ⟨HG.out.symm, rfl, ?_⟩)
    exact ((((a0.mono hB).setCell (p := ⟨w.heap.size, 0, none⟩) hB _).setCell (p := ⟨w.heap.size, 1, none⟩) hB _).setCell (p := ⟨w.heap.size, 2, none⟩) hB _)
end Go.Proofs.Ytkekbobnbipmoaa
