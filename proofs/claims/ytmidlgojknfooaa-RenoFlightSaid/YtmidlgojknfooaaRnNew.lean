/-
  New.
-/
import Derived.Test.YtmidlgojknfooaaRnAcked
namespace Go.Proofs.Ytmidlgojknfooaa
open Go.RowKit
set_option linter.unusedVariables false

/-- What New makes. -/
def NMade (w : World) (e : Ending) (w' : World) : Prop := ∃ g, e = .returned (.pointer (some ⟨g, 0, none⟩)) ∧ w.heap.size ≤ g ∧ Below w.heap.size w w' ∧ NAt w' g NS.new

theorem nnew_any (w : World) :
    Calls Try.prog 7 #[] w (NMade w) := by
  go_enter Try.func7, Try.ntmps7
  go_wp2
  go_ret
  exact ⟨w.heap.size, rfl, Nat.le_refl _, (Below.refl _ _).alloc (Nat.le_refl _) _, Wh.new w _ _⟩

end Go.Proofs.Ytmidlgojknfooaa
