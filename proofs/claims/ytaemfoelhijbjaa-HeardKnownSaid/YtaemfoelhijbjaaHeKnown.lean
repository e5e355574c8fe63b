/-
  The walk through hostlerlaw12.HeardKnown.
-/
import Derived.Test.YtaemfoelhijbjaaHeWorks
namespace Go.Proofs.Ytaemfoelhijbjaa
open Go.RowKit
set_option linter.unusedVariables false

set_option maxRecDepth 10000 in
set_option maxHeartbeats 2000000 in
theorem hknown_any (w : World) : Calls Try.prog 3 #[] w (Says true w) := by
  have hn := new_at w
  have hb0 := (Below.refl w.heap.size w).alloc (Nat.le_refl _) (.cells #[.slice none 0 0, .int .u64 0, .int .u64 0, .int .u64 0, .int .u64 0, .int .u64 0] 28)
  obtain ⟨g, hg⟩ : ∃ g, g = w.heap.size := ⟨_, rfl⟩
  have HG := Lib.hid hg
  have HN := Lib.hid hn
  have HB0 := Lib.hid hb0
  clear hn hb0
  go_enter Try.func3, Try.ntmps3
  go_upto_region 2 with (fail)
  generalize w.alloc (.cells #[.slice none 0 0, .int .u64 0, .int .u64 0, .int .u64 0, .int .u64 0, .int .u64 0] 28) = w0 at *
  rw [← hg] at HN
  rw [← hg]
  clear hg
  go_wp2_with fail
  refine (lit_add3 HN.out).mono ?_
  rintro e w1 ⟨rfl, hg1, A1, n1, c1, h1⟩
  have H1 := Lib.hid h1
  have HB1 : Hid (Below w.heap.size w w1) := Lib.hid (below_grownH HB0.out hg1 (by have := HG.out; omega) HB0.out.size)
  clear h1 hg1 HN HB0
  go_wp2_with fail
  refine (lit_add4 H1.out).mono ?_
  rintro e w2 ⟨rfl, hg2, A2, n2, c2, h2⟩
  have H2 := Lib.hid h2
  have HB2 : Hid (Below w.heap.size w w2) := Lib.hid (below_grownH HB1.out hg2 (by have := HG.out; omega) HB1.out.size)
  clear h2 hg2 H1 HB1
  go_wp2_with fail
  refine (lit_ready110 H2.out).mono ?_
  rintro e w3 ⟨rfl, rfl⟩
  go_wp2_with fail
  refine (lit_again2 H2.out 120 25).mono ?_
  rintro e w3 ⟨rfl, hb3⟩
  have H3 := Lib.hid (H2.out.below hb3)
  have HB3 := Lib.hid (HB2.out.trans (hb3.mono HB2.out.size))
  clear hb3 H2 HB2
  go_wp2_with fail
  refine (lit_ack H3.out (3, 5) rfl).mono ?_
  rintro e w5 ⟨b, off, c', rfl, hg5, hb5, hc1, hc2, A5, n5, c5, h5⟩
  have H5 := Lib.hid h5
  have HB5 : Hid (Below w.heap.size w w5) := Lib.hid (below_grownH HB3.out hg5 (by have := HG.out; omega) HB3.out.size)
  have HC1 := Lib.hid hc1
  have HC2 := Lib.hid hc2
  clear h5 hg5 H3 HB3 hc1 hc2
  rw [show (150 - min hs2.tm 150) / 8 = 5 from rfl]
  go_upto_region 5 with (refine wpList_store_row rfl 36 (.tmp 6) (.tmp 24) rfl w5.heap.size (aRowH 2 (.slice (some ⟨b, off, none⟩) 1 c') 5) rfl rfl _ _ (heap_alloc_new w5 _) info_fr rfl (aRowH_one _ _ _ _ _) ?_; rw [World.setRow_alloc_new])
  have HW6 := Lib.hid (Wh.new w5 36 (aRowH 2 (.slice (some ⟨b, off, none⟩) 1 c') 5))
  have hb6 := (Below.refl w5.heap.size w5).alloc (Nat.le_refl _) (.cells (aRowH 2 (.slice (some ⟨b, off, none⟩) 1 c') 5) 36)
  have H6 := Lib.hid (H5.out.below hb6)
  have HX1 := Lib.hid ((hb6.cell (p := ⟨b, off, none⟩) hb5).trans HC1.out)
  have HX2 := Lib.hid ((hb6.cell (p := ⟨b, off + 1, none⟩) hb5).trans HC2.out)
  have HB6 := Lib.hid (HB5.out.trans (hb6.mono HB5.out.size))
  have hbs : b < (w5.alloc (.cells (aRowH 2 (.slice (some ⟨b, off, none⟩) 1 c') 5) 36)).heap.size := Nat.lt_of_lt_of_le hb5 hb6.size
  clear hb6 H5 HB5 HC1 HC2 hb5
  generalize w5.alloc (.cells (aRowH 2 (.slice (some ⟨b, off, none⟩) 1 c') 5) 36) = w6 at *
  generalize w5.heap.size = q at *
  go_upto_region 8 with (first
    | (go_at_call 8; refine (forget_nil w6 3).mono ?_; rintro e w7 ⟨rfl, rfl⟩)
    | (go_at_call 7; refine (ack_nil w6 1).mono ?_; rintro e w7 ⟨rfl, hb7⟩; unfold noAck; have HB7 := Lib.hid hb7; clear hb7)
    | (refine wpList_store_row rfl 36 (.tmp 9) (.tmp 31) rfl w7.heap.size (aRowH 0 (.slice none 0 0) 0) rfl rfl _ _ (heap_alloc_new w7 _) info_fr rfl (aRowH_one _ _ _ _ _) ?_; rw [World.setRow_alloc_new]))
  have hb8 : Below w6.heap.size w6 (w7.alloc (.cells (aRowH 0 (.slice none 0 0) 0) 36)) := HB7.out.alloc HB7.out.size _
  have H8 := Lib.hid (H6.out.below hb8)
  have hw8 := HW6.out.below hb8 HW6.out.lt
  have hx1 := (hb8.cell (p := ⟨b, off, none⟩) hbs).trans HX1.out
  have hx2 := (hb8.cell (p := ⟨b, off + 1, none⟩) hbs).trans HX2.out
  have HB8 := Lib.hid (HB6.out.trans (hb8.mono HB6.out.size))
  have HW8 := Lib.hid hw8
  have HX1 := Lib.hid hx1
  have HX2 := Lib.hid hx2
  have hs8 := hb8.size
  clear hb8 H6 HB6 HW6 HB7 hw8 hx1 hx2
  generalize w7.alloc (.cells (aRowH 0 (.slice none 0 0) 0) 36) = w8 at *
  generalize w7.heap.size = q7 at *
  go_wp2_with fail
  refine (hworks_any w8).mono ?_
  rintro e w9 ⟨rfl, hb9⟩
  have H9 := Lib.hid (H8.out.below hb9)
  have hw9 := HW8.out.below hb9 HW8.out.lt
  have hx1 := (hb9.cell (p := ⟨b, off, none⟩) (show b < _ by omega)).trans HX1.out
  have hx2 := (hb9.cell (p := ⟨b, off + 1, none⟩) (show b < _ by omega)).trans HX2.out
  have HB9 := Lib.hid (HB8.out.trans (hb9.mono HB8.out.size))
  have hy1 := (hw9.cell 25).trans (show _ = some (.slice (some ⟨b, off, none⟩) 1 c') from rfl)
  have hy2 := (hw9.cell 26).trans (show _ = some (.int .u64 5) from rfl)
  have hd4 : w9.cell? ⟨g, 4, none⟩ = some (.int .u64 0) := H9.out.c4
  clear hb9 hw9 H8 HW8 HX1 HX2 HB8
  go_wp2_with (first
    | (go_at_call 10; refine (came_nil w9 1).mono ?_; rintro e w10 ⟨rfl, rfl⟩)
    | (go_at_call 5; refine (hadd_nil w9 1 0 0 true).mono ?_; rintro e w10 ⟨rfl, rfl⟩)
    | (go_at_call 6; refine (ready_nil w9 9).mono ?_; rintro e w10 ⟨rfl, rfl⟩))
  go_ret
  exact ⟨rfl, HB9.out⟩

end Go.Proofs.Ytaemfoelhijbjaa
