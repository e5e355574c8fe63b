/-
  The walk through the statement HeadPuts where there are bytes; at every input.
-/
import Derived.Test.YtpicigcmijbppaaDoorHLawPuts
namespace Go.Proofs.YtpicigcmijbppaaDoor
open Go.RowKit
set_option linter.unusedVariables false

set_option maxRecDepth 10000 in
set_option maxHeartbeats 1600000 in
theorem hputs_ok (sp k pn n : Nat) (dst src tok : List UInt8) (ph : Bool) (A1 : Option Addr) (c1 : Nat) (A2 : Option Addr) (c2 : Nat) (A3 : Option Addr) (c3 : Nat) (w : World) (hT : Tab w)
    (hmay : mayB sp dst.length src.length tok.length ph (pn : Int) (k : Int) = true) (hn : n ≤ 65536) (hl3 : tok.length ≤ 3000)
    (h1 : Sl w w.heap.size A1 dst) (h2 : Sl w w.heap.size A2 src) (h3 : Sl w w.heap.size A3 tok) :
    Calls Tryd.prog 3 #[.agg (headOf sp dst src tok ph (pn : Int) (k : Int) A1 c1 A2 c2 A3 c3), .int .i64 (n : Int)] w fun e w' => e = .returned (.bool true) ∧ Below w.heap.size w w' := by
  have hz : (w.alloc (.cells (headOf sp dst src tok ph (pn : Int) (k : Int) A1 c1 A2 c2 A3 c3) 25)).heap.size = w.heap.size + 1 := by simp
  have hb0 : Below w.heap.size w (w.alloc (.cells (headOf sp dst src tok ph (pn : Int) (k : Int) A1 c1 A2 c2 A3 c3) 25)) := (Below.refl _ _).alloc (Nat.le_refl _) _
  have hW0 : Wh (w.alloc (.cells (headOf sp dst src tok ph (pn : Int) (k : Int) A1 c1 A2 c2 A3 c3) 25)) w.heap.size 25 (headOf sp dst src tok ph (pn : Int) (k : Int) A1 c1 A2 c2 A3 c3) := Wh.new _ _ _
  have HK := Lib.hid (known_any _ (hT.below hb0 hT.lt))
  have HB0 := Lib.hid hb0
  have HW0 := Lib.hid hW0
  have HM := Lib.hid (fun w => hmay_any sp dst.length src.length tok.length ph A1 c1 A2 c2 A3 c3 (pn : Int) (k : Int) w)
  have HRM := Lib.hid (fun w => rmay_any sp dst.length src.length tok.length ph A1 c1 A2 c2 A3 c3 (pn : Int) (k : Int) w)
  rw [hmay] at HM HRM
  have HT := Lib.hid hT
  have H1 := Lib.hid h1
  have H2 := Lib.hid h2
  have H3 := Lib.hid h3
  have HMAY := Lib.hid hmay
  obtain ⟨f1, f2, f3, f4, f5, f6, f7, f8, f9⟩ := may_facts hmay
  have HPUT := Lib.hid (fun (w' : World) (h : Below w.heap.size w w') => hput_ok sp k n pn dst src tok ph A1 c1 A2 c2 A3 c3 w' HMAY.out hn ((H1.out.below h).keep h.size (fun _ _ => rfl)) ((H2.out.below h).keep h.size (fun _ _ => rfl)) ((H3.out.below h).keep h.size (fun _ _ => rfl)) hl3 (HT.out.below h HT.out.lt) f6 (by omega) f1 f2)
  have HREF := Lib.hid (fun (w' : World) (h : Below w.heap.size w w') => refput_any sp k n pn dst src tok ph A1 c1 A2 c2 A3 c3 w' HMAY.out hn ((H1.out.below h).keep h.size (fun _ _ => rfl)) ((H2.out.below h).keep h.size (fun _ _ => rfl)) ((H3.out.below h).keep h.size (fun _ _ => rfl)) hl3)
  generalize headB sp k dst src tok ph pn n = HD at *
  clear hb0 hW0 hT hmay h1 h2 h3 f3 f4 f5 f6 f7 f8 f9
  unfold headOf headC
  go_enter Tryd.func3, Tryd.ntmps3
  go_wp2_with fail
  refine HK.out.mono ?_
  rintro e w1 ⟨rfl, hb1⟩
  have HB1 := Lib.hid (HB0.out.trans (hb1.mono (by omega)))
  have hW1 := HW0.out.below hb1 (by omega)
  have e0 := hW1.cell 0
  have e1 := hW1.cell 1
  have e2 := hW1.cell 2
  have e3 := hW1.cell 3
  have e4 := hW1.cell 4
  have e5 := hW1.cell 5
  have e6 := hW1.cell 6
  simp only [headC, List.getElem?_toArray, List.getElem?_cons_zero, List.getElem?_cons_succ] at e0 e1 e2 e3 e4 e5 e6
  have HW1 := Lib.hid hW1
  clear hb1 hW1 HK HB0 HW0
  go_wp2_with fail
  refine (HPUT.out _ HB1.out).mono ?_
  rintro e w2 ⟨A5, c5, rfl, _, _, hown5, hb2⟩
  have HB2 := Lib.hid (HB1.out.trans (hb2.mono HB1.out.size))
  have HS2 := Lib.hid (Sv.of_own hown5)
  have hW2 := HW1.out.below hb2 HW1.out.lt
  clear e0 e1 e2 e3 e4 e5 e6 hown5
  have e0 := hW2.cell 0
  have e1 := hW2.cell 1
  have e2 := hW2.cell 2
  have e3 := hW2.cell 3
  have e4 := hW2.cell 4
  have e5 := hW2.cell 5
  have e6 := hW2.cell 6
  simp only [headC, List.getElem?_toArray, List.getElem?_cons_zero, List.getElem?_cons_succ] at e0 e1 e2 e3 e4 e5 e6
  have HW2 := Lib.hid hW2
  clear hb2 hW2 HB1 HW1 HPUT
  go_wp2_with fail
  refine (HRM.out _).mono ?_
  rintro e w3 ⟨rfl, hb3⟩
  have HB3 := Lib.hid (HB2.out.trans (hb3.mono HB2.out.size))
  have HS3 := Lib.hid (HS2.out.below hb3)
  have hW3 := HW2.out.below hb3 HW2.out.lt
  have hs3 := hb3.size
  clear e0 e1 e2 e3 e4 e5 e6
  have e0 := hW3.cell 0
  have e1 := hW3.cell 1
  have e2 := hW3.cell 2
  have e3 := hW3.cell 3
  have e4 := hW3.cell 4
  have e5 := hW3.cell 5
  have e6 := hW3.cell 6
  simp only [headC, List.getElem?_toArray, List.getElem?_cons_zero, List.getElem?_cons_succ] at e0 e1 e2 e3 e4 e5 e6
  have HW3 := Lib.hid hW3
  clear hb3 hW3 HB2 HW2 HS2
  go_wp2_with fail
  refine (HM.out _).mono ?_
  rintro e w4 ⟨rfl, hb4⟩
  have HB4 := Lib.hid (HB3.out.trans (hb4.mono HB3.out.size))
  have HS4 := Lib.hid ((HS3.out.keep hs3 (fun _ _ => rfl)).below hb4)
  have hs4 := hb4.size
  have hW4 := HW3.out.below hb4 HW3.out.lt
  clear e0 e1 e2 e3 e4 e5 e6
  have e0 := hW4.cell 0
  have e1 := hW4.cell 1
  have e2 := hW4.cell 2
  have e3 := hW4.cell 3
  have e4 := hW4.cell 4
  have e5 := hW4.cell 5
  have e6 := hW4.cell 6
  simp only [headC, List.getElem?_toArray, List.getElem?_cons_zero, List.getElem?_cons_succ] at e0 e1 e2 e3 e4 e5 e6
  clear hb4 hW4 HB3 HW3 HS3
  go_upto_region 11 with fail
  have hsd : Sl w4.drew w4.drew.heap.size A5 HD := (HS4.out.keep hs4 (fun _ _ => rfl)).below (Below.refl _ _).drew
  have HSD := Lib.hid hsd
  have hstr0 := run_string_sl (P := Tryd.prog) w4.drew 22 9 5 Tryd.underlying22 Tryd.underlying5 Tryd.underlying9 _ A5 HD.length c5 _ hsd rfl
  have HR := Lib.hid (HREF.out w4.drew HB4.out.drew)
  clear hsd HREF
  go_region_with (go_at_call 10; refine HR.out.mono ?_; rintro e w6 ⟨A6, c6, rfl, _, _, hown6, hb6⟩; have HB6 := Lib.hid (HB4.out.drew.trans (hb6.mono HB4.out.drew.size)); have hstr1 := run_string_sl (P := Tryd.prog) w6 22 9 5 Tryd.underlying22 Tryd.underlying5 Tryd.underlying9 _ A5 HD.length c5 _ (HSD.out.below hb6) rfl; have hstr2 := run_string_sl (P := Tryd.prog) w6 22 9 5 Tryd.underlying22 Tryd.underlying5 Tryd.underlying9 _ A6 HD.length c6 _ (Sv.of_own hown6) rfl; clear hown6 hb6)
  all_goals
    go_wp2
    go_ret
    refine ⟨?_, HB6.out⟩
    simp [Act.put]

theorem hputs_any (sp pn : Nat) (dst src tok : List UInt8) (ph : Bool) (pnb n : Int) (A1 : Option Addr) (c1 : Nat) (A2 : Option Addr) (c2 : Nat) (A3 : Option Addr) (c3 : Nat) (w : World) (hT : Tab w)
    (h1 : Sl w w.heap.size A1 dst) (h2 : Sl w w.heap.size A2 src) (h3 : Sl w w.heap.size A3 tok) :
    Calls Tryd.prog 3 #[.agg (headOf sp dst src tok ph (pn : Int) pnb A1 c1 A2 c2 A3 c3), .int .i64 n] w fun e w' => e = .returned (.bool true) ∧ Below w.heap.size w w' := by
  by_cases l1 : dst.length ≤ 300
  · by_cases l2 : src.length ≤ 300
    · by_cases l3 : tok.length ≤ 3000
      · by_cases hok : mayB sp dst.length src.length tok.length ph (pn : Int) pnb = true ∧ 0 ≤ n ∧ n ≤ 65536
        · obtain ⟨hm, hn0, hn⟩ := hok
          obtain ⟨f1, f2, f3, f4, _⟩ := may_facts hm
          obtain ⟨N, rfl⟩ : ∃ N : Nat, n = (N : Int) := ⟨n.toNat, by omega⟩
          obtain ⟨k, rfl⟩ : ∃ k : Nat, pnb = (k : Int) := ⟨pnb.toNat, by omega⟩
          exact hputs_ok sp k pn N dst src tok ph A1 c1 A2 c2 A3 c3 w hT hm (by omega) l3 h1 h2 h3
        · exact hputs_bad sp pn dst src tok ph pnb n A1 c1 A2 c2 A3 c3 w hT l1 l2 l3 h1 h2 h3 hok
      · exact hputs_free sp pn dst src tok ph pnb n A1 c1 A2 c2 A3 c3 w hT (.inr ⟨l1, .inr ⟨l2, by omega⟩⟩)
    · exact hputs_free sp pn dst src tok ph pnb n A1 c1 A2 c2 A3 c3 w hT (.inr ⟨l1, .inl (by omega)⟩)
  · exact hputs_free sp pn dst src tok ph pnb n A1 c1 A2 c2 A3 c3 w hT (.inl (by omega))

end Go.Proofs.YtpicigcmijbppaaDoor
