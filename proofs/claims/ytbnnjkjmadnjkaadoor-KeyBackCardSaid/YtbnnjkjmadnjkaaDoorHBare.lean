/-
  The walks through head's reserved, isFirst and Bare, of a packet's own first byte and number.
-/
import Derived.Test.YtbnnjkjmadnjkaaDoorSk41
import Derived.Test.YtbnnjkjmadnjkaaDoorSk3
namespace Go.Proofs.YtbnnjkjmadnjkaaDoor
open Go.RowKit
set_option linter.unusedVariables false

set_option maxRecDepth 10000 in
set_option maxHeartbeats 400000 in
theorem reserved_any (sp : Nat) (w : World) (b : Bool) (hb : ((sp : Int) == 2) = b) : Calls Tryd.prog 50 #[.int .u8 (sp : Int)] w fun e w' => e = .returned (.int .u8 (if b then 24 else 12)) ∧ w' = w := by
  cases b
  all_goals
    go_enter Tryd.func50, Tryd.ntmps50
    go_wp2
    go_ret
    exact ⟨rfl, rfl⟩

set_option maxRecDepth 10000 in
set_option maxHeartbeats 400000 in
theorem isFirst_yes (sp : Nat) (A1 : Option Addr) (n1 c1 : Nat) (A2 : Option Addr) (n2 c2 : Nat) (A3 : Option Addr) (n3 c3 a t c4 : Nat) (bb off : Nat) (f y : Int) (b : Bool) (w : World) (hb : ((sp : Int) == 2) = b)
    (hy : w.cell? ⟨bb, off, none⟩ = some (.int .u8 y)) (ht : 0 < t) (htc : t ≤ 9223372036854775807) (hx : (bits .andNot .u8 (bits .xor .u8 f y) (if b then 31 else 15) == 0) = true) :
    Calls Tryd.prog 49 #[.agg (partC sp A1 n1 c1 A2 n2 c2 A3 n3 c3 a (some ⟨bb, off, none⟩) t c4), .int .u8 f] w fun e w' => e = .returned (.bool true) ∧ Below w.heap.size w w' := by
  have hlt := World.block_lt_of_cell? w _ hy
  have hb0 : Below w.heap.size w (w.alloc (.cells (partC sp A1 n1 c1 A2 n2 c2 A3 n3 c3 a (some ⟨bb, off, none⟩) t c4) 37)) := (Below.refl _ _).alloc (Nat.le_refl _) _
  have hW0 : Wh (w.alloc (.cells (partC sp A1 n1 c1 A2 n2 c2 A3 n3 c3 a (some ⟨bb, off, none⟩) t c4) 37)) w.heap.size 37 (partC sp A1 n1 c1 A2 n2 c2 A3 n3 c3 a (some ⟨bb, off, none⟩) t c4) := Wh.new _ _ _
  have hy0 := (hb0.cell (p := ⟨bb, off, none⟩) hlt).trans hy
  have e0 := hW0.cell 0
  have e5 := hW0.cell 5
  simp only [partC, List.getElem?_toArray, List.getElem?_cons_zero, List.getElem?_cons_succ] at e0 e5
  have hdt : decide (0 < t) = true := decide_eq_true ht
  have hlen : (0 : Int) < (t : Int) := by omega
  have HB0 := Lib.hid hb0
  have HBT := Lib.hid (fun w => bits_any sp w b hb)
  clear hb0 hW0 hy
  cases b
  all_goals
    simp only [if_true, if_false, Bool.false_eq_true] at hx
    unfold partC
    go_enter Tryd.func49, Tryd.ntmps49
    go_wp2_with fail
    change Code.wp _ _ _ _ (w.alloc (.cells (partC sp A1 n1 c1 A2 n2 c2 A3 n3 c3 a (some ⟨bb, off, none⟩) t c4) 37))
    change Hid (Below w.heap.size w (w.alloc (.cells (partC sp A1 n1 c1 A2 n2 c2 A3 n3 c3 a (some ⟨bb, off, none⟩) t c4) 37))) at HB0
    unfold partC at HB0 hy0 ⊢
    generalize w.alloc (.cells #[.int .u8 (sp : Int), .slice A1 n1 c1, .slice A2 n2 c2, .slice A3 n3 c3, .int .i64 (a : Int), .slice (some ⟨bb, off, none⟩) t c4] 37) = w0 at *
    go_quiet (first
      | (go_at_call 43; exact Calls.quiet_of_same (HBT.out _)))
    go_wp2
    go_ret
    exact ⟨rfl, below_drewN HB0.out _⟩
end Go.Proofs.YtbnnjkjmadnjkaaDoor
