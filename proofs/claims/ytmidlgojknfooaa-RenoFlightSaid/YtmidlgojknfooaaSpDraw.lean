/-
  Words for a region that draws its order, of this layer's texts. No program is named here.
-/
import Derived.Test.YtmidlgojknfooaaOwn
import Derived.Test.YtmidlgojknfooaaStep
namespace Go.Proofs.Ytmidlgojknfooaa
open Go.RowKit

theorem act_normS {P : Program} {md : Region.Mode} {ops : Array Oper} {Q : Exit → Act → World → Prop} {S : World → Prop} {fuel : Nat} {listed : Array Bool} {a b : Act} {w : World} (h : a = b) (k : wpAnyH P md ops Q S fuel listed b w) : wpAnyH P md ops Q S fuel listed a w := h ▸ k
theorem wanted_goS {o : Oper} {y : Nat → Option Bool} {A B : Prop} (h : Region.wanted o y = true) (k : A) : if Region.wanted o y = true then A else B := by rw [if_pos h]; exact k
theorem wanted_noS {o : Oper} {y : Nat → Option Bool} {A B : Prop} (h : Region.wanted o y = false) (k : B) : if Region.wanted o y = true then A else B := by rw [if_neg (by rw [h]; exact Bool.false_ne_true)]; exact k
/-- All that stood at a world stands. -/
def SinceS (w0 wr : World) : Prop := Below w0.heap.size w0 wr
theorem SinceS.self (w : World) : SinceS w w := Below.refl _ _
theorem SinceS.trans {a b c : World} (h : SinceS a b) (k : SinceS b c) : SinceS a c := Below.trans h (k.mono h.size)
theorem SinceS.of {a b : World} (h : Below a.heap.size a b) : SinceS a b := h
theorem SinceS.cell {a b : World} (h : SinceS a b) {p : Addr} {v : Value} (hp : p.block < a.heap.size) (hv : a.cell? p = some v) : b.cell? p = some v := (Below.cell h hp).trans hv
theorem SinceS.alloc (w : World) (o : Obj) : SinceS w (w.alloc o) := (Below.refl _ _).alloc (Nat.le_refl _) o
/-- What is appended to a row that is new since then. -/
theorem SinceS.grown {a b c : World} {row : Option Nat} (h : SinceS a b) (k : b.grownBy c row) (hg : ∀ q, row = some q → a.heap.size ≤ q) : SinceS a c := Below.grown h k (Below.size h) hg

end Go.Proofs.Ytmidlgojknfooaa
