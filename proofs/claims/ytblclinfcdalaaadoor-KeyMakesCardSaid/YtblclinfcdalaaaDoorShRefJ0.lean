/-
  Lists of texts in memory. No program's function is named here.
-/
import Derived.Test.YtblclinfcdalaaaDoorShRefB
import Derived.Test.YtblclinfcdalaaaDoorShAdd
namespace Go.Proofs.YtblclinfcdalaaaDoor
open Go.RowKit
set_option linter.unusedVariables false

/-- A list of texts in memory. -/
def PartsIn (w : World) (B : Nat) (vs : List Value) (ps : List (List UInt8)) : Prop :=
  vs.length = ps.length ∧ ∀ (i : Nat) (v : Value) (l : List UInt8), vs[i]? = some v → ps[i]? = some l → ∃ A c, v = .slice A l.length c ∧ l.length ≤ c ∧ c ≤ maxLen ∧ Sl w B A l

theorem PartsIn.at_ {w : World} {B : Nat} {vs : List Value} {ps : List (List UInt8)} (h : PartsIn w B vs ps) (k : Nat) (hk : k < vs.length) :
    ∃ (l : List UInt8) (A : Option Addr) (c : Nat), ps[k]? = some l ∧ vs[k]? = some (.slice A l.length c) ∧ l.length ≤ c ∧ c ≤ maxLen ∧ Sl w B A l := by
  have hp : k < ps.length := by rw [← h.1]; exact hk
  obtain ⟨A, c, h1, h2, h3, h4⟩ := h.2 k vs[k] ps[k] (List.getElem?_eq_getElem hk) (List.getElem?_eq_getElem hp)
  exact ⟨ps[k], A, c, List.getElem?_eq_getElem hp, by rw [List.getElem?_eq_getElem hk, h1], h2, h3, h4⟩

theorem flat_succ (ps : List (List UInt8)) (k : Nat) (p : List UInt8) (h : ps[k]? = some p) : (ps.take (k + 1)).flatten = (ps.take k).flatten ++ p := by
  rw [List.take_add_one, h]
  simp

/-- Texts that are more than are gone through. -/
def greatB (len : Nat) (ps : List (List UInt8)) : Bool := decide (3000 < len + ps.flatten.length)

end Go.Proofs.YtblclinfcdalaaaDoor
