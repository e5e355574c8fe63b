/-
  Words for what gcm's calls answer.
-/
import Derived.Test.YtajfpbkeabdcaaaGcOpen
namespace Go.Proofs.Ytajfpbkeabdcaaa
open Go.RowKit
set_option linter.unusedVariables false

/-- Bytes of the call's own, n of them. -/
def GaveN (w : World) (n : Nat) (l : List UInt8) (e : Ending) (w' : World) : Prop :=
  ∃ A c, e = .returned (.slice A n c) ∧ n ≤ c ∧ c ≤ maxLen ∧ w'.ownsRow w.heap.size 5 1 (.slice A n c) n (l.map cell8) ∧ Below w.heap.size w w'
theorem gave_n {w w' : World} {l : List UInt8} {e : Ending} {n : Nat} (hl : l.length = n) (h : GaveO w l e w') : GaveN w n l e w' := by
  subst hl
  exact h
theorem zeros12 : (#[.int .u8 0, .int .u8 0, .int .u8 0, .int .u8 0, .int .u8 0, .int .u8 0, .int .u8 0, .int .u8 0, .int .u8 0, .int .u8 0, .int .u8 0, .int .u8 0] : Array Value) = aRow (List.replicate 12 0) := by kernel_rfl
/-- What is opened, or not. -/
def OpenY (w : World) (n : Nat) (l : List UInt8) (e : Ending) (w' : World) : Prop := ∃ A c, e = .returned (.tuple #[.slice A n c, .bool true]) ∧ n ≤ c ∧ c ≤ maxLen ∧ w'.ownsRow w.heap.size 5 1 (.slice A n c) n (l.map cell8) ∧ Below w.heap.size w w'
def OpenN (w : World) (e : Ending) (w' : World) : Prop := e = .returned (.tuple #[.slice none 0 0, .bool false]) ∧ Below w.heap.size w w'
theorem open_y {w w' : World} {key nn l m t : List UInt8} {e : Ending} {n : Nat} (ht : txK key nn m = t) (hl : t.length = n) (hy : OkG key nn l m) (h : OpenG w key nn l m e w') : OpenY w n t e w' := by
  subst ht hl
  rcases h with ⟨_, h⟩ | ⟨hn, _⟩
  · exact h
  · exact absurd hy hn
theorem open_n {w w' : World} {key nn l m : List UInt8} {e : Ending} (hn : ¬ OkG key nn l m) (h : OpenG w key nn l m e w') : OpenN w e w' := by
  rcases h with ⟨hy, _⟩ | ⟨_, h⟩
  · exact absurd hy hn
  · exact h
theorem zrow (n : Nat) : (List.replicate n (Value.int .u8 0)).toArray = aRow (List.replicate n 0) := by simp [aRow, cell8]
end Go.Proofs.Ytajfpbkeabdcaaa
