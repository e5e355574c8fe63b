/-
  The walk through the document's own Same (hostlerref03), of two heads that are one.
-/
import Derived.Test.YtpnpbjdkldmmdaaDoorHMay
namespace Go.Proofs.YtpnpbjdkldmmdaaDoor
open Go.RowKit
set_option linter.unusedVariables false

set_option maxRecDepth 10000 in
set_option maxHeartbeats 1600000 in
theorem same_yes (sp : Nat) (dst src tok : List UInt8) (ph : Bool) (pn pnb : Int) (A1 : Option Addr) (c1 : Nat) (A2 : Option Addr) (c2 : Nat) (A3 : Option Addr) (c3 : Nat) (B1 : Option Addr) (d1 : Nat) (B2 : Option Addr) (d2 : Nat) (B3 : Option Addr) (d3 : Nat) (w : World)
    (h1 : Sl w w.heap.size A1 dst) (h2 : Sl w w.heap.size A2 src) (h3 : Sl w w.heap.size A3 tok) (k1 : Sl w w.heap.size B1 dst) (k2 : Sl w w.heap.size B2 src) (k3 : Sl w w.heap.size B3 tok) :
    Calls Tryd.prog 13 #[.agg (headC sp A1 dst.length c1 A2 src.length c2 A3 tok.length c3 ph pn pnb), .agg (headC sp B1 dst.length d1 B2 src.length d2 B3 tok.length d3 ph pn pnb)] w fun e w' => e = .returned (.bool true) ∧ Below w.heap.size w w' := by
  have hb : Below w.heap.size w ((w.alloc (.cells (headC sp A1 dst.length c1 A2 src.length c2 A3 tok.length c3 ph pn pnb) 25)).alloc (.cells (headC sp B1 dst.length d1 B2 src.length d2 B3 tok.length d3 ph pn pnb) 25)) := ((Below.refl _ _).alloc (Nat.le_refl _) _).alloc (by simp) _
  have hstr1 := run_string_sl (P := Tryd.prog) ((w.alloc (.cells (headC sp A1 dst.length c1 A2 src.length c2 A3 tok.length c3 ph pn pnb) 25)).alloc (.cells (headC sp B1 dst.length d1 B2 src.length d2 B3 tok.length d3 ph pn pnb) 25)) 22 9 5 Tryd.underlying22 Tryd.underlying5 Tryd.underlying9 _ A1 dst.length c1 _ (h1.below hb) rfl
  have hstr2 := run_string_sl (P := Tryd.prog) ((w.alloc (.cells (headC sp A1 dst.length c1 A2 src.length c2 A3 tok.length c3 ph pn pnb) 25)).alloc (.cells (headC sp B1 dst.length d1 B2 src.length d2 B3 tok.length d3 ph pn pnb) 25)) 22 9 5 Tryd.underlying22 Tryd.underlying5 Tryd.underlying9 _ A2 src.length c2 _ (h2.below hb) rfl
  have hstr3 := run_string_sl (P := Tryd.prog) ((w.alloc (.cells (headC sp A1 dst.length c1 A2 src.length c2 A3 tok.length c3 ph pn pnb) 25)).alloc (.cells (headC sp B1 dst.length d1 B2 src.length d2 B3 tok.length d3 ph pn pnb) 25)) 22 9 5 Tryd.underlying22 Tryd.underlying5 Tryd.underlying9 _ A3 tok.length c3 _ (h3.below hb) rfl
  have hstr4 := run_string_sl (P := Tryd.prog) ((w.alloc (.cells (headC sp A1 dst.length c1 A2 src.length c2 A3 tok.length c3 ph pn pnb) 25)).alloc (.cells (headC sp B1 dst.length d1 B2 src.length d2 B3 tok.length d3 ph pn pnb) 25)) 22 9 5 Tryd.underlying22 Tryd.underlying5 Tryd.underlying9 _ B1 dst.length d1 _ (k1.below hb) rfl
  have hstr5 := run_string_sl (P := Tryd.prog) ((w.alloc (.cells (headC sp A1 dst.length c1 A2 src.length c2 A3 tok.length c3 ph pn pnb) 25)).alloc (.cells (headC sp B1 dst.length d1 B2 src.length d2 B3 tok.length d3 ph pn pnb) 25)) 22 9 5 Tryd.underlying22 Tryd.underlying5 Tryd.underlying9 _ B2 src.length d2 _ (k2.below hb) rfl
  have hstr6 := run_string_sl (P := Tryd.prog) ((w.alloc (.cells (headC sp A1 dst.length c1 A2 src.length c2 A3 tok.length c3 ph pn pnb) 25)).alloc (.cells (headC sp B1 dst.length d1 B2 src.length d2 B3 tok.length d3 ph pn pnb) 25)) 22 9 5 Tryd.underlying22 Tryd.underlying5 Tryd.underlying9 _ B3 tok.length d3 _ (k3.below hb) rfl
  have HB := Lib.hid hb
  clear hb h1 h2 h3 k1 k2 k3
  unfold headC at *
  go_enter Tryd.func13, Tryd.ntmps13
  go_wp2
  go_ret
  exact ⟨rfl, HB.out⟩

end Go.Proofs.YtpnpbjdkldmmdaaDoor
