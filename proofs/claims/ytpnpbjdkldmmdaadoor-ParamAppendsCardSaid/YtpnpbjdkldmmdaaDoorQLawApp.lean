/-
  The walk through the statement ParamAppends.
-/
import Derived.Test.YtpnpbjdkldmmdaaDoorQRefBytes
namespace Go.Proofs.YtpnpbjdkldmmdaaDoor
open Go.RowKit
set_option linter.unusedVariables false

theorem strB_app (a b : List UInt8) : strB a ++ strB b = strB (a ++ b) := by
  apply ByteArray.ext
  simp [strB]

theorem strB_len (a : List UInt8) : (strB a).size = a.length := by simp [strB, ByteArray.size]

set_option maxRecDepth 100000 in
set_option maxHeartbeats 1600000 in
theorem qappl_long (R : Array Value) (A0 : Option Addr) (c0 : Nat) (A1 : Option Addr) (c1 : Nat) (p : PQ) (hR : R = prC A0 c0 A1 c1 p) (n c : Nat) (A : Option Addr) (w : World) (hT : Tab w) (ht : p.tok.length = 16)
    (h0 : Sl w w.heap.size A0 p.orig) (h1 : Sl w w.heap.size A1 p.cid) (q0 : p.orig.length ≤ 140737488351232) (q1 : p.cid.length ≤ 140737488351232) (hn : n ≤ 140737488351232) (hf : 1000 < n + p.orig.length + p.cid.length) :
    Calls Tryd.prog 4 #[.slice A n c, .agg R] w fun e w' => e = .returned (.bool true) ∧ Below w.heap.size w w' := by
  have hbx := BoxQ.new w R p A0 c0 A1 c1 hR ht h0 h1
  have HK := Lib.hid (qknown_any (w.alloc (.cells R 43)) (hT.below hbx.bel hT.lt))
  have HBX := Lib.hid hbx
  have d1 : decide ((1000 : Int) < (n : Int) + (p.orig.length : Int) + (p.cid.length : Int)) = true := decide_eq_true (by omega)
  clear hbx hR ht h0 h1 hT
  go_enter Tryd.func4, Tryd.ntmps4
  go_wp2_with fail
  refine HK.out.mono ?_
  rintro e w1 ⟨rfl, hb1⟩
  have HB1 := Lib.hid (HBX.out.below hb1)
  clear hb1 HK HBX
  have e0 := HB1.out.e0
  have e1 := HB1.out.e1
  go_wp2_with fail
  go_ret
  exact ⟨rfl, HB1.out.bel⟩

set_option maxRecDepth 100000 in
set_option maxHeartbeats 1600000 in
theorem qappl_bad (R : Array Value) (A0 : Option Addr) (c0 : Nat) (A1 : Option Addr) (c1 : Nat) (p : PQ) (hR : R = prC A0 c0 A1 c1 p) (n c : Nat) (A : Option Addr) (w : World) (hT : Tab w) (ht : p.tok.length = 16)
    (h0 : Sl w w.heap.size A0 p.orig) (h1 : Sl w w.heap.size A1 p.cid) (hf : n + p.orig.length + p.cid.length ≤ 1000) (hm : mayQ p = false) :
    Calls Tryd.prog 4 #[.slice A n c, .agg R] w fun e w' => e = .returned (.bool true) ∧ Below w.heap.size w w' := by
  have hbx := BoxQ.new w R p A0 c0 A1 c1 hR ht h0 h1
  have HK := Lib.hid (qknown_any (w.alloc (.cells R 43)) (hT.below hbx.bel hT.lt))
  have HBX := Lib.hid hbx
  have HI := Lib.hid hbx.is.info
  have HM := Lib.hid hm
  have HRM := Lib.hid (fun w => rmayq_any R A0 c0 A1 c1 p hR w ht)
  have HPM := Lib.hid (fun w => may_any R A0 c0 A1 c1 p hR w ht)
  rw [hm] at HRM HPM
  have d1 : decide ((1000 : Int) < (n : Int) + (p.orig.length : Int) + (p.cid.length : Int)) = false := decide_eq_false (by omega)
  clear hbx hR ht h0 h1 hT hm
  go_enter Tryd.func4, Tryd.ntmps4
  go_wp2_with fail
  refine HK.out.mono ?_
  rintro e w1 ⟨rfl, hb1⟩
  have HB1 := Lib.hid (HBX.out.below hb1)
  clear hb1 HK HBX
  have e0 := HB1.out.e0
  have e1 := HB1.out.e1
  go_upto_region 6 with (first
    | (refine wpList_load_q 43 (.tmp 3) rfl (by rfl) w.heap.size rfl _ R _ HB1.out.wh Tryd.underlying43 rfl HI.out ?_)
    | (go_at_call 15; refine (qapp_isnt HB1.out.is HM.out _ _ _).mono ?_; rintro e w2 ⟨rfl, hb2⟩; have HB2 := Lib.hid (HB1.out.below hb2); clear hb2))
  clear HB1 e0 e1
  go_upto_region 7 with (first
    | (refine wpList_load_q 43 (.tmp 3) rfl (by rfl) w.heap.size rfl _ R _ HB2.out.wh Tryd.underlying43 rfl HI.out ?_)
    | (go_at_call 16; refine (HRM.out _).mono ?_; rintro e w3 ⟨rfl, hb3⟩; have HB3 := Lib.hid (HB2.out.below hb3); clear hb3))
  clear HB2
  go_wp2_with (first
    | (refine wpList_load_q 43 (.tmp 3) rfl (by rfl) w.heap.size rfl _ R _ HB3.out.wh Tryd.underlying43 rfl HI.out ?_)
    | (go_at_call 17; refine (HPM.out _).mono ?_; rintro e w4 ⟨rfl, hb4⟩; have HB4 := Lib.hid (HB3.out.below hb4); clear hb4))
  go_ret
  exact ⟨rfl, HB4.out.bel⟩

end Go.Proofs.YtpnpbjdkldmmdaaDoor
