/-
  Words for a region that draws its order: what is given by name, and states that are spelled unlike. No program is named here.
-/
import Derived.Test.YtajfpbkeabdcaaaMid
namespace Go.Proofs.Ytajfpbkeabdcaaa
open Go.RowKit

theorem captureM {P : Program} {md : Region.Mode} {ops : Array Oper} {Q : Exit → Act → World → Prop} {S : World → Prop} {fuel : Nat} {listed : Array Bool} {a : Act} {w : World}
    (h : ∀ (ops' : Array Oper) (Q' : Exit → Act → World → Prop) (a' : Act), ops' = ops → Q' = Q → a' = a → wpAnyH P md ops' Q' S fuel listed a' w) : wpAnyH P md ops Q S fuel listed a w := h _ _ _ rfl rfl rfl
theorem act_listM {P : Program} {md : Region.Mode} {ops : Array Oper} {Q : Exit → Act → World → Prop} {S : World → Prop} {fuel : Nat} {listed listed' : Array Bool} {a a' : Act} {w : World} (h1 : listed = listed') (h2 : a = a') (k : wpAnyH P md ops Q S fuel listed' a' w) : wpAnyH P md ops Q S fuel listed a w := by
  subst h1 h2
  exact k
end Go.Proofs.Ytajfpbkeabdcaaa
