/-
  The walk through the statement ParamOthers where nothing is asked.
-/
import Derived.Test.YtpnpbjdkldmmdaaDoorQKnown
namespace Go.Proofs.YtpnpbjdkldmmdaaDoor
open Go.RowKit
set_option linter.unusedVariables false

/-- What parameters by value stand in a box for. -/
structure BoxQ (w wr : World) (g : Nat) (R : Array Value) (p : PQ) (A0 : Option Addr) (c0 : Nat) (A1 : Option Addr) (c1 : Nat) : Prop where
  bel : Below w.heap.size w wr
  wh : Wh wr g 43 R
  is : IsQ wr R p
  e0 : wr.cell? ⟨g, 0, none⟩ = some (.slice A0 p.orig.length c0)
  e1 : wr.cell? ⟨g, 1, none⟩ = some (.slice A1 p.cid.length c1)

theorem BoxQ.below {w wr w' : World} {g : Nat} {R : Array Value} {p : PQ} {A0 : Option Addr} {c0 : Nat} {A1 : Option Addr} {c1 : Nat} (h : BoxQ w wr g R p A0 c0 A1 c1) (hb : Below wr.heap.size wr w') : BoxQ w w' g R p A0 c0 A1 c1 :=
  ⟨h.bel.trans (hb.mono h.bel.size), h.wh.below hb h.wh.lt, h.is.below hb, (hb.cell (p := ⟨g, 0, none⟩) h.wh.lt).trans h.e0, (hb.cell (p := ⟨g, 1, none⟩) h.wh.lt).trans h.e1⟩

theorem BoxQ.new (w : World) (R : Array Value) (p : PQ) (A0 : Option Addr) (c0 : Nat) (A1 : Option Addr) (c1 : Nat) (hR : R = prC A0 c0 A1 c1 p) (ht : p.tok.length = 16) (h0 : Sl w w.heap.size A0 p.orig) (h1 : Sl w w.heap.size A1 p.cid) :
    BoxQ w (w.alloc (.cells R 43)) w.heap.size R p A0 c0 A1 c1 := by
  have hb : Below w.heap.size w (w.alloc (.cells R 43)) := (Below.refl _ _).alloc (Nat.le_refl _) _
  exact ⟨hb, Wh.new _ _ _, IsQ.below ⟨ht, A0, c0, A1, c1, hR, h0, h1⟩ hb, by rw [(Wh.new w 43 R).cell, hR, prC_0], by rw [(Wh.new w 43 R).cell, hR, prC_1]⟩

set_option maxRecDepth 100000 in
set_option maxHeartbeats 1600000 in
theorem qothers_bad (R : Array Value) (A0 : Option Addr) (c0 : Nat) (A1 : Option Addr) (c1 : Nat) (p : PQ) (hR : R = prC A0 c0 A1 c1 p) (id n c : Nat) (A : Option Addr) (ah : Bool) (w : World) (hT : Tab w) (ht : p.tok.length = 16)
    (h0 : Sl w w.heap.size A0 p.orig) (h1 : Sl w w.heap.size A1 p.cid) (q0 : p.orig.length ≤ 140737488351232) (q1 : p.cid.length ≤ 140737488351232) (hm : mayQ p = false) :
    Calls Tryd.prog 6 #[.agg R, .int .u64 (id : Int), .slice A n c, .bool ah] w fun e w' => e = .returned (.bool true) ∧ Below w.heap.size w w' := by
  have hbx := BoxQ.new w R p A0 c0 A1 c1 hR ht h0 h1
  have HK := Lib.hid (qknown_any (w.alloc (.cells R 43)) (hT.below hbx.bel hT.lt))
  have HBX := Lib.hid hbx
  have HI := Lib.hid hbx.is.info
  have HM := Lib.hid hm
  clear hbx hR ht h0 h1 hT hm
  go_enter Tryd.func6, Tryd.ntmps6
  go_wp2_with fail
  refine HK.out.mono ?_
  rintro e w1 ⟨rfl, hb1⟩
  have HB1 := Lib.hid (HBX.out.below hb1)
  clear hb1 HK HBX
  go_wp2_with (first
    | (refine wpList_load_q 43 (.tmp 4) rfl (by rfl) w.heap.size rfl _ R _ HB1.out.wh Tryd.underlying43 rfl HI.out ?_)
    | (go_at_call 15; refine (qapp_isnt HB1.out.is HM.out _ _ _).mono ?_; rintro e w2 ⟨rfl, hb2⟩; have HB2 := Lib.hid (HB1.out.below hb2); have e0 := HB2.out.e0; have e1 := HB2.out.e1; clear hb2))
  all_goals
    go_ret
    exact ⟨rfl, HB2.out.bel⟩

end Go.Proofs.YtpnpbjdkldmmdaaDoor
