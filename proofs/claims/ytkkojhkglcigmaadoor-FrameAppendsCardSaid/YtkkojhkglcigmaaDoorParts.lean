/-
  The walks through frame.partsOf, isStream, streamParts, need; what a kind's bytes name.
-/
import Derived.Test.YtkkojhkglcigmaaDoorSize
import Derived.Test.YtkkojhkglcigmaaDoorLaws
import Derived.BigQuiet
namespace Go.Proofs.YtkkojhkglcigmaaDoor
open Go.RowKit
set_option linter.unusedVariables false

/-- What a kind's bytes name. -/
def partsL : List Nat := [33, 1, 129, 385, 27, 11, 1541, 1537, 1607, 0, 0, 0, 0, 0, 0, 0, 17, 19, 17, 17, 17, 19, 17, 17, 2067, 3, 1025, 1025, 1561, 1545, 1]
def partsN (k : Nat) : Nat := partsL.getD k 0

/-- The program's table of parts. -/
def PT (w : World) : Prop := ∀ k : Nat, k < 31 → w.cell? ⟨0, k, none⟩ = some (.int .u16 (partsN k : Nat))

theorem PT.lt {w : World} (h : PT w) : 0 < w.heap.size := World.block_lt_of_cell? w _ (h 0 (by omega))
theorem PT.below {w w' : World} {B : Nat} (h : PT w) (hb : Below B w w') (hB : 0 < B) : PT w' := fun k hk => (hb.cell (p := ⟨_, _, none⟩) hB).trans (h k hk)

theorem partsN_big {k : Nat} (h : 31 ≤ k) : partsN k = 0 := by
  unfold partsN partsL
  rw [List.getD_eq_getElem?_getD, List.getElem?_eq_none (by simpa using h)]
  rfl

set_option maxRecDepth 10000 in
set_option maxHeartbeats 400000 in
theorem partsOf_any (k : Nat) (w : World) (hT : PT w) :
    Calls Tryd.prog 26 #[.int .u64 (k : Int)] w fun e w' => e = .returned (.int .u16 (partsN k : Nat)) ∧ w = w' := by
  by_cases hk : k < 31
  · have hc := hT k hk
    generalize partsN k = p at *
    clear hT
    go_enter Tryd.func26, Tryd.ntmps26
    go_wp2
    go_ret
    exact ⟨rfl, rfl⟩
  · have HP := Lib.hid (partsN_big (Nat.le_of_not_lt hk))
    clear hT
    have hk' : (31 : Int) ≤ (k : Int) := by omega
    go_enter Tryd.func26, Tryd.ntmps26
    go_wp2
    go_ret
    exact ⟨by rw [HP.out]; rfl, rfl⟩

set_option maxRecDepth 10000 in
set_option maxHeartbeats 400000 in
theorem need_yes (w : World) : Calls Tryd.prog 45 #[.bool true] w fun e w' => e = .returned (.tuple #[]) ∧ w = w' := by
  go_enter Tryd.func45, Tryd.ntmps45
  go_wp2
  go_end0
  exact ⟨rfl, rfl⟩

set_option maxRecDepth 10000 in
set_option maxHeartbeats 400000 in
theorem need_no (w : World) : Calls Tryd.prog 45 #[.bool false] w fun e w' => e = .panicked [{ v := .iface 89 (.agg #[]), recovered := false }] ∧ w = w' := by
  go_enter Tryd.func45, Tryd.ntmps45
  go_wp2
  exact ⟨rfl, rfl, rfl⟩
end Go.Proofs.YtkkojhkglcigmaaDoor
