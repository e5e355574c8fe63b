/-
  The walk through the statement HeadBack: where it has nothing to ask.
-/
import Derived.Test.YtpnpbjdkldmmdaaDoorHMath2
import Derived.Test.YtpnpbjdkldmmdaaDoorHBare2
import Derived.Test.YtpnpbjdkldmmdaaDoorHSame
import Derived.Test.YtpnpbjdkldmmdaaDoorHBackM
namespace Go.Proofs.YtpnpbjdkldmmdaaDoor
open Go.RowKit
set_option linter.unusedVariables false

set_option maxRecDepth 10000 in
set_option maxHeartbeats 1600000 in
theorem hback_free (sp pn : Nat) (dst src tok load behind : List UInt8) (ph : Bool) (pnb mask : Int) (A1 : Option Addr) (c1 : Nat) (A2 : Option Addr) (c2 : Nat) (A3 : Option Addr) (c3 : Nat) (A4 : Option Addr) (c4 : Nat) (A5 : Option Addr) (c5 : Nat) (w : World) (hT : Tab w)
    (hfree : mayB sp dst.length src.length tok.length ph (pn : Int) pnb = false ∨ (mayB sp dst.length src.length tok.length ph (pn : Int) pnb = true ∧ (2000 < load.length ∨ (load.length ≤ 2000 ∧ (2000 < behind.length ∨ (behind.length ≤ 2000 ∧ (3000 < tok.length ∨ (tok.length ≤ 3000 ∧ pnb + load.length < 20)))))))) :
    Calls Tryd.prog 3 #[.agg (headOf sp dst src tok ph (pn : Int) pnb A1 c1 A2 c2 A3 c3), .slice A4 load.length c4, .slice A5 behind.length c5, .int .u8 mask] w fun e w' => e = .returned (.bool true) ∧ Below w.heap.size w w' := by
  have hz : (w.alloc (.cells (headOf sp dst src tok ph (pn : Int) pnb A1 c1 A2 c2 A3 c3) 25)).heap.size = w.heap.size + 1 := by simp
  have hb0 : Below w.heap.size w (w.alloc (.cells (headOf sp dst src tok ph (pn : Int) pnb A1 c1 A2 c2 A3 c3) 25)) := (Below.refl _ _).alloc (Nat.le_refl _) _
  have hW0 : Wh (w.alloc (.cells (headOf sp dst src tok ph (pn : Int) pnb A1 c1 A2 c2 A3 c3) 25)) w.heap.size 25 (headOf sp dst src tok ph (pn : Int) pnb A1 c1 A2 c2 A3 c3) := Wh.new _ _ _
  have HK := Lib.hid (known_any _ (hT.below hb0 hT.lt))
  have HB0 := Lib.hid hb0
  have HW0 := Lib.hid hW0
  have HM := Lib.hid (fun w => hmay_any sp dst.length src.length tok.length ph A1 c1 A2 c2 A3 c3 (pn : Int) pnb w)
  have hmf : mayB sp dst.length src.length tok.length ph (pn : Int) pnb = true → 1 ≤ pnb ∧ pnb ≤ 4 := fun h => ⟨(may_facts h).2.2.1, (may_facts h).2.2.2.1⟩
  clear hb0 hW0 hT
  generalize mayB sp dst.length src.length tok.length ph (pn : Int) pnb = mb at *
  rcases hfree with rfl | ⟨rfl, h3 | ⟨h3, h4 | ⟨h4, h5 | ⟨h5, h6⟩⟩⟩⟩
  all_goals
    first
      | obtain ⟨hp1, hp4⟩ := hmf rfl
      | skip
    clear hmf
    unfold headOf headC
    go_enter Tryd.func3, Tryd.ntmps3
    go_wp2_with fail
    refine HK.out.mono ?_
    rintro e w1 ⟨rfl, hb1⟩
    have HB1 := Lib.hid (HB0.out.trans (hb1.mono (by omega)))
    have hW1 := HW0.out.below hb1 (by omega)
    have e0 := hW1.cell 0
    have e1 := hW1.cell 1
    have e2 := hW1.cell 2
    have e3 := hW1.cell 3
    have e4 := hW1.cell 4
    have e5 := hW1.cell 5
    have e6 := hW1.cell 6
    simp only [headC, List.getElem?_toArray, List.getElem?_cons_zero, List.getElem?_cons_succ] at e0 e1 e2 e3 e4 e5 e6
    have HW1 := Lib.hid hW1
    clear hb1 hW1 HK HB0 HW0
    go_wp2_with fail
    refine (HM.out _).mono ?_
    rintro e w2 ⟨rfl, hb2⟩
    have HB2 := Lib.hid (HB1.out.trans (hb2.mono HB1.out.size))
    have hW2 := HW1.out.below hb2 HW1.out.lt
    clear e0 e1 e2 e3 e4 e5 e6
    have e3 := hW2.cell 3
    have e6 := hW2.cell 6
    simp only [headC, List.getElem?_toArray, List.getElem?_cons_zero, List.getElem?_cons_succ] at e3 e6
    clear hb2 hW2
    go_wp2
    go_ret
    exact ⟨rfl, HB2.out⟩

end Go.Proofs.YtpnpbjdkldmmdaaDoor
