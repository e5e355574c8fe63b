/-
  The walk through the statement HeadPuts.
-/
import Derived.Test.YtpicigcmijbppaaDoorHRefPut2
import Derived.Test.YtpicigcmijbppaaDoorHLawCut
import Derived.Deep.RegionWith
namespace Go.Proofs.YtpicigcmijbppaaDoor
open Go.RowKit
set_option linter.unusedVariables false

theorem refput_any (sp k n pn : Nat) (dst src tok : List UInt8) (ph : Bool) (A1 : Option Addr) (c1 : Nat) (A2 : Option Addr) (c2 : Nat) (A3 : Option Addr) (c3 : Nat) (w : World)
    (hm : mayB sp dst.length src.length tok.length ph (pn : Int) (k : Int) = true) (hn : n ≤ 65536) (h1 : Sl w w.heap.size A1 dst) (h2 : Sl w w.heap.size A2 src) (h3 : Sl w w.heap.size A3 tok) (ht : tok.length ≤ 3000) :
    Calls Tryd.prog 10 #[.agg (headC sp A1 dst.length c1 A2 src.length c2 A3 tok.length c3 ph (pn : Int) (k : Int)), .int .i64 (n : Int)] w (Gave w (headB sp k dst src tok ph pn n) fun v => v) := by
  obtain ⟨f1, f2, f3, f4, f5, f6, f7, f8, f9⟩ := may_facts hm
  by_cases hs : sp = 2
  · subst hs
    obtain ⟨hl2, hl3⟩ := f7 rfl
    obtain rfl := List.eq_nil_of_length_eq_zero hl2
    obtain rfl := List.eq_nil_of_length_eq_zero hl3
    exact refput_short k n pn dst ph A1 c1 A2 c2 A3 c3 w (by omega) (by omega) h1 f1
  · obtain rfl := f9 hs
    exact refput_long sp k n pn dst src tok A1 c1 A2 c2 A3 c3 w (by omega) (by omega) hn (by omega) h1 h2 h3 f1 f2 ht (fun h => List.eq_nil_of_length_eq_zero (f8 h))

set_option maxRecDepth 10000 in
set_option maxHeartbeats 1600000 in
theorem hputs_free (sp pn : Nat) (dst src tok : List UInt8) (ph : Bool) (pnb n : Int) (A1 : Option Addr) (c1 : Nat) (A2 : Option Addr) (c2 : Nat) (A3 : Option Addr) (c3 : Nat) (w : World) (hT : Tab w)
    (hfree : 300 < dst.length ∨ (dst.length ≤ 300 ∧ (300 < src.length ∨ (src.length ≤ 300 ∧ 3000 < tok.length)))) :
    Calls Tryd.prog 3 #[.agg (headOf sp dst src tok ph (pn : Int) pnb A1 c1 A2 c2 A3 c3), .int .i64 n] w fun e w' => e = .returned (.bool true) ∧ Below w.heap.size w w' := by
  have hz : (w.alloc (.cells (headOf sp dst src tok ph (pn : Int) pnb A1 c1 A2 c2 A3 c3) 25)).heap.size = w.heap.size + 1 := by simp
  have hb0 : Below w.heap.size w (w.alloc (.cells (headOf sp dst src tok ph (pn : Int) pnb A1 c1 A2 c2 A3 c3) 25)) := (Below.refl _ _).alloc (Nat.le_refl _) _
  have hW0 : Wh (w.alloc (.cells (headOf sp dst src tok ph (pn : Int) pnb A1 c1 A2 c2 A3 c3) 25)) w.heap.size 25 (headOf sp dst src tok ph (pn : Int) pnb A1 c1 A2 c2 A3 c3) := Wh.new _ _ _
  have HK := Lib.hid (known_any _ (hT.below hb0 hT.lt))
  have HB0 := Lib.hid hb0
  have HW0 := Lib.hid hW0
  clear hb0 hW0 hT
  rcases hfree with h1 | ⟨h1, h2 | ⟨h2, h3⟩⟩
  all_goals
    unfold headOf headC
    go_enter Tryd.func3, Tryd.ntmps3
    go_wp2_with fail
    refine HK.out.mono ?_
    rintro e w1 ⟨rfl, hb1⟩
    have HB1 := Lib.hid (HB0.out.trans (hb1.mono (by omega)))
    have hW1 := HW0.out.below hb1 (by omega)
    have e1 := hW1.cell 1
    have e2 := hW1.cell 2
    have e3 := hW1.cell 3
    simp only [headC, List.getElem?_toArray, List.getElem?_cons_zero, List.getElem?_cons_succ] at e1 e2 e3
    clear hb1 hW1 HK HB0 HW0
    go_wp2
    go_ret
    exact ⟨rfl, HB1.out⟩

set_option maxRecDepth 10000 in
set_option maxHeartbeats 1600000 in
theorem hputs_bad (sp pn : Nat) (dst src tok : List UInt8) (ph : Bool) (pnb n : Int) (A1 : Option Addr) (c1 : Nat) (A2 : Option Addr) (c2 : Nat) (A3 : Option Addr) (c3 : Nat) (w : World) (hT : Tab w) (hl1 : dst.length ≤ 300) (hl2 : src.length ≤ 300) (hl3 : tok.length ≤ 3000)
    (h1 : Sl w w.heap.size A1 dst) (h2 : Sl w w.heap.size A2 src) (h3 : Sl w w.heap.size A3 tok)
    (hbad : ¬ (mayB sp dst.length src.length tok.length ph (pn : Int) pnb = true ∧ 0 ≤ n ∧ n ≤ 65536)) :
    Calls Tryd.prog 3 #[.agg (headOf sp dst src tok ph (pn : Int) pnb A1 c1 A2 c2 A3 c3), .int .i64 n] w fun e w' => e = .returned (.bool true) ∧ Below w.heap.size w w' := by
  have hz : (w.alloc (.cells (headOf sp dst src tok ph (pn : Int) pnb A1 c1 A2 c2 A3 c3) 25)).heap.size = w.heap.size + 1 := by simp
  have hb0 : Below w.heap.size w (w.alloc (.cells (headOf sp dst src tok ph (pn : Int) pnb A1 c1 A2 c2 A3 c3) 25)) := (Below.refl _ _).alloc (Nat.le_refl _) _
  have hW0 : Wh (w.alloc (.cells (headOf sp dst src tok ph (pn : Int) pnb A1 c1 A2 c2 A3 c3) 25)) w.heap.size 25 (headOf sp dst src tok ph (pn : Int) pnb A1 c1 A2 c2 A3 c3) := Wh.new _ _ _
  have HK := Lib.hid (known_any _ (hT.below hb0 hT.lt))
  have HB0 := Lib.hid hb0
  have HW0 := Lib.hid hW0
  have HM := Lib.hid (fun w => hmay_any sp dst.length src.length tok.length ph A1 c1 A2 c2 A3 c3 (pn : Int) pnb w)
  have HRM := Lib.hid (fun w => rmay_any sp dst.length src.length tok.length ph A1 c1 A2 c2 A3 c3 (pn : Int) pnb w)
  have HP := Lib.hid (fun w => hput_bad sp dst src tok ph pn pnb n A1 c1 A2 c2 A3 c3 w hbad)
  have hcase : mayB sp dst.length src.length tok.length ph (pn : Int) pnb = false ∨ (mayB sp dst.length src.length tok.length ph (pn : Int) pnb = true ∧ n < 0) ∨ (mayB sp dst.length src.length tok.length ph (pn : Int) pnb = true ∧ 65536 < n) := by
    cases hm : mayB sp dst.length src.length tok.length ph (pn : Int) pnb
    · exact .inl rfl
    · rw [hm] at hbad
      by_cases h0 : n < 0
      · exact .inr (.inl ⟨rfl, h0⟩)
      · refine .inr (.inr ⟨rfl, ?_⟩)
        by_cases h1 : n ≤ 65536
        · exact absurd ⟨rfl, by omega, h1⟩ hbad
        · omega
  clear hb0 hW0 hT hbad h1 h2 h3
  generalize mayB sp dst.length src.length tok.length ph (pn : Int) pnb = mb at *
  rcases hcase with rfl | ⟨rfl, hn⟩ | ⟨rfl, hn⟩
  all_goals
    unfold headOf headC
    go_enter Tryd.func3, Tryd.ntmps3
    go_wp2_with fail
    refine HK.out.mono ?_
    rintro e w1 ⟨rfl, hb1⟩
    have HB1 := Lib.hid (HB0.out.trans (hb1.mono (by omega)))
    have hW1 := HW0.out.below hb1 (by omega)
    have e0 := hW1.cell 0
    have e1 := hW1.cell 1
    have e2 := hW1.cell 2
    have e3 := hW1.cell 3
    have e4 := hW1.cell 4
    have e5 := hW1.cell 5
    have e6 := hW1.cell 6
    simp only [headC, List.getElem?_toArray, List.getElem?_cons_zero, List.getElem?_cons_succ] at e0 e1 e2 e3 e4 e5 e6
    have HW1 := Lib.hid hW1
    clear hb1 hW1 HK HB0 HW0
    go_wp2_with fail
    refine (HP.out _).mono ?_
    rintro e w2 ⟨rfl, hb2⟩
    have HB2 := Lib.hid (HB1.out.trans (hb2.mono HB1.out.size))
    have hW2 := HW1.out.below hb2 HW1.out.lt
    clear e0 e1 e2 e3 e4 e5 e6
    have e0 := hW2.cell 0
    have e1 := hW2.cell 1
    have e2 := hW2.cell 2
    have e3 := hW2.cell 3
    have e4 := hW2.cell 4
    have e5 := hW2.cell 5
    have e6 := hW2.cell 6
    simp only [headC, List.getElem?_toArray, List.getElem?_cons_zero, List.getElem?_cons_succ] at e0 e1 e2 e3 e4 e5 e6
    have HW2 := Lib.hid hW2
    clear hb2 hW2 HB1 HW1
    go_wp2_with fail
    refine (HRM.out _).mono ?_
    rintro e w3 ⟨rfl, hb3⟩
    have HB3 := Lib.hid (HB2.out.trans (hb3.mono HB2.out.size))
    have hW3 := HW2.out.below hb3 HW2.out.lt
    clear e0 e1 e2 e3 e4 e5 e6
    have e0 := hW3.cell 0
    have e1 := hW3.cell 1
    have e2 := hW3.cell 2
    have e3 := hW3.cell 3
    have e4 := hW3.cell 4
    have e5 := hW3.cell 5
    have e6 := hW3.cell 6
    simp only [headC, List.getElem?_toArray, List.getElem?_cons_zero, List.getElem?_cons_succ] at e0 e1 e2 e3 e4 e5 e6
    clear hb3 hW3 HB2 HW2
    go_wp2_with fail
    refine (HM.out _).mono ?_
    rintro e w4 ⟨rfl, hb4⟩
    have HB4 := Lib.hid (HB3.out.trans (hb4.mono HB3.out.size))
    clear hb4 e0 e1 e2 e3 e4 e5 e6
    go_wp2
    go_ret
    exact ⟨rfl, HB4.out⟩

end Go.Proofs.YtpicigcmijbppaaDoor
