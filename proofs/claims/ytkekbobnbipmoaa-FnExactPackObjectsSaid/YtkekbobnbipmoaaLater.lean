/-
  A region that draws its order, whose operations read below a mark and whose callees leave what is below the mark: one walk in the order of the text.
-/
import Derived.Test.YtkekbobnbipmoaaToObs
import Derived.Test.YtkekbobnbipmoaaStoreP
import Derived.BigQuiet
namespace Go.Proofs.Ytkekbobnbipmoaa
open Go.RowKit Wo Pu

/-- A world that below B is as W was. -/
structure Later (B : Nat) (W : World) where
  v : World
  h : Below B W v
instance later_nonempty {B : Nat} {W : World} : Nonempty (Later B W) := ⟨⟨W, Below.refl _ _⟩⟩
def Later.w {B : Nat} {W : World} (x : Later B W) : World := x.v
theorem Later.b {B : Nat} {W : World} (x : Later B W) : Below B W x.w := x.h
theorem Later.size {B : Nat} {W : World} (hB : B ≤ W.heap.size) (x : Later B W) : B ≤ x.w.heap.size := Nat.le_trans hB x.h.size
def InLater (B : Nat) (W : World) (w' : World) : Prop := ∃ x : Later B W, w' = x.w
theorem Later.cell {B : Nat} {W : World} {p : Addr} {v : Value} (h : W.cell? p = some v) (hp : p.block < B) (x : Later B W) : x.w.cell? p = some v := (x.h.cell hp).trans h
theorem Wo.Row.later {B : Nat} {W : World} {A : Option Addr} {vs : List Value} (h : Row W B A vs) (x : Later B W) : Row x.w B A vs := h.below x.h (Nat.le_refl _)
theorem Later.call {P : Program} {f : FuncId} {args : Array Value} {v : Value} {B : Nat} {W : World} (hB : B ≤ W.heap.size) (x : Later B W) (h : Calls P f args x.w (Ret v x.w)) :
    Calls P f args x.w fun e w'' => e = .returned v ∧ ∃ y : Later B W, w'' = y.w :=
  h.mono fun _ w'' ⟨he, hb⟩ => ⟨he, ⟨w'', x.h.trans (hb.mono (Later.size hB x))⟩, rfl⟩
theorem wp_region_later {P : Program} {id : Nat} {Q : Exit → Act → World → Prop} {a : Act} {w : World} {l : List Oper} (B : Nat) (hm : P.follows .mixedOrders = true) (hB : Region.lexB .any l.toArray = true)
    (h : wpQuiet P l.toArray (fun w' => ∃ x : Later B w, w' = x.w) (fun a' => ∀ w', (∃ x : Later B w, w' = x.w) → Q .normal a' w') l a) : (Code.region id l.toArray true).wp P Q a w :=
  wp_region_quiet (C := fun w' => ∃ x : Later B w, w' = x.w) hm hB ⟨⟨w.drew, (Below.refl B w).drew⟩, rfl⟩ (by simpa using h)
end Go.Proofs.Ytkekbobnbipmoaa
