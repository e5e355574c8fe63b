/-
  A whole struct, loaded by an operation that may be guarded.
-/
import Derived.Test.YtkkojhkglcigmaaDoorFrm
namespace Go.Proofs.YtkkojhkglcigmaaDoor
open Go.RowKit

theorem wpList_load_any {P : Program} {ops : Array Oper} {rest : List Oper} {o : Oper} {a : Act} {w : World} {Q : Exit → Act → World → Prop} (ty : TypeId) (x : Operand) (ho : o.op = .load ty x) (hw : Region.wanted o (yielded ops a.tmps) = true)
    (g : Nat) (hx : a.eval x = .pointer (some ⟨g, 0, none⟩)) (t : TypeId) (cs : Array Value) (d : TypeDesc) (hg : Wh w g t cs)
    (hu : P.underlying ty = some d) (hd : (match d with | .struct _ | .array _ _ => true | _ => false) = true) (hi : (P.info? ty).map (·.size) = some cs.size)
    (h : wpList P ops Q rest (a.put o.dst (.agg cs)) w) : wpList P ops Q (o :: rest) a w :=
  wpList_step fun K hK => by
    rw [if_pos hw]
    exact wp_load_row ty x ho g hx t cs (0, 0) d hg hu hd hi (hK _ _ h)

/-- A frame's size, as the table of types has it. -/
theorem info_frame : (Tryd.prog.info? 32).map (·.size) = some 30 := by kernel_rfl

end Go.Proofs.YtkkojhkglcigmaaDoor
