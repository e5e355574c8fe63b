/-
  The walks through hostlerlaw13.works and RttKnown.
-/
import Derived.Test.YtoahannfpnkpkaaRtSamp
import Derived.Test.YtoahannfpnkpkaaRtMeth
namespace Go.Proofs.Ytoahannfpnkpkaa
open Go.RowKit
set_option linter.unusedVariables false

/-- What a law answers. -/
def SaysR (w : World) (e : Ending) (w' : World) : Prop := e = .returned (.bool true) ∧ Below w.heap.size w w'

theorem below_grownR {B g : Nat} {a b c : World} (h : Below B a b) (k : b.grownBy c (some g)) (hg : B ≤ g) (hB : B ≤ b.heap.size) : Below B a c :=
  h.grown k hB fun q e => by have := Option.some.inj e; omega

theorem samp_any (w : World) (g l d : Nat) (s : RS) (h : RAt w g s) (hf : s.Fits) (hl : l ≤ 18446744073709551615) (hd : d ≤ 18446744073709551615) :
    Calls Try.prog 6 #[.pointer (some ⟨g, 0, none⟩), .int .u64 (l : Int), .int .u64 (d : Int)] w (RGave g (sampS s l d) w) := by
  rcases hs : s.has with _ | _
  · exact samp_first w g l d s h hs hl hd
  · exact samp_later w g l d s h hs hf hl hd

def rs1 : RS := ⟨true, 1000, 1000, 1000, 500⟩
def rs2 : RS := ⟨true, 1800, 1000, 1037, 450⟩
theorem rnew_fits : RS.new.Fits := by constructor <;> decide
theorem rs1_fits : rs1.Fits := by constructor <;> decide
theorem rs1_of : sampS RS.new 1000 0 = rs1 := rfl
theorem rs2_of : sampS rs1 1800 500 = rs2 := rfl

/-- A new one. -/
theorem rnew_at (w : World) : RAt (w.alloc (.cells #[.bool false, .int .u64 0, .int .u64 0, .int .u64 0, .int .u64 0] 28)) w.heap.size RS.new := Wh.new w _ _

theorem lit_samp1 {w : World} {g : Nat} (h : RAt w g RS.new) :
    Calls Try.prog 6 #[.pointer (some ⟨g, 0, none⟩), .int .u64 1000, .int .u64 0] w (RGave g rs1 w) := by
  rw [← rs1_of]
  exact samp_any w g 1000 0 _ h rnew_fits (by decide) (by decide)
theorem lit_samp2 {w : World} {g : Nat} (h : RAt w g rs1) :
    Calls Try.prog 6 #[.pointer (some ⟨g, 0, none⟩), .int .u64 1800, .int .u64 500] w (RGave g rs2 w) := by
  rw [← rs2_of]
  exact samp_any w g 1800 500 _ h rs1_fits (by decide) (by decide)
theorem lit_pto1 {w : World} {g : Nat} (h : RAt w g rs2) :
    Calls Try.prog 8 #[.pointer (some ⟨g, 0, none⟩), .int .u64 25, .int .u64 0] w fun e w' => e = .returned (.int .u64 2862) ∧ Below w.heap.size w w' := by
  have := pto_any w g 25 0 _ h (by decide)
  rwa [show ptoN rs2 25 0 = 2862 by decide] at this
theorem lit_pto2 {w : World} {g : Nat} (h : RAt w g rs2) :
    Calls Try.prog 8 #[.pointer (some ⟨g, 0, none⟩), .int .u64 25, .int .u64 2] w fun e w' => e = .returned (.int .u64 11448) ∧ Below w.heap.size w w' := by
  have := pto_any w g 25 2 _ h (by decide)
  rwa [show ptoN rs2 25 2 = 11448 by decide] at this
theorem lit_loss {w : World} {g : Nat} (h : RAt w g rs2) :
    Calls Try.prog 9 #[.pointer (some ⟨g, 0, none⟩)] w fun e w' => e = .returned (.int .u64 2025) ∧ Below w.heap.size w w' := by
  have := loss_any w g _ h (by decide) (by decide)
  rwa [show lossN rs2 = 2025 by decide] at this

set_option maxRecDepth 10000 in
set_option maxHeartbeats 2000000 in
theorem rworks_any (w : World) : Calls Try.prog 7 #[] w (SaysR w) := by
  have hn := rnew_at w
  have hb0 := (Below.refl w.heap.size w).alloc (Nat.le_refl _) (.cells #[.bool false, .int .u64 0, .int .u64 0, .int .u64 0, .int .u64 0] 28)
  obtain ⟨g, hg⟩ : ∃ g, g = w.heap.size := ⟨_, rfl⟩
  have HG := Lib.hid hg
  have HN := Lib.hid hn
  have HB0 := Lib.hid hb0
  clear hn hb0
  go_enter Try.func7, Try.ntmps7
  go_upto_region 2 with (fail)
  generalize w.alloc (.cells #[.bool false, .int .u64 0, .int .u64 0, .int .u64 0, .int .u64 0] 28) = w0 at *
  rw [← hg] at HN
  rw [← hg]
  clear hg
  go_wp2_with fail
  refine (lit_samp1 HN.out).mono ?_
  rintro e w1 ⟨rfl, hg1, h1⟩
  have H1 := Lib.hid h1
  have HB1 : Hid (Below w.heap.size w w1) := Lib.hid (below_grownR HB0.out hg1 (by have := HG.out; omega) HB0.out.size)
  have c2 : w1.cell? ⟨g, 2, none⟩ = some (.int .u64 1000) := h1.c2
  have c3 : w1.cell? ⟨g, 3, none⟩ = some (.int .u64 1000) := h1.c3
  have c4 : w1.cell? ⟨g, 4, none⟩ = some (.int .u64 500) := h1.c4
  clear h1 hg1 HN HB0
  go_wp2_with fail
  refine (lit_samp2 H1.out).mono ?_
  rintro e w2 ⟨rfl, hg2, h2⟩
  have H2 := Lib.hid h2
  have HB2 : Hid (Below w.heap.size w w2) := Lib.hid (below_grownR HB1.out hg2 (by have := HG.out; omega) HB1.out.size)
  have d3 : w2.cell? ⟨g, 3, none⟩ = some (.int .u64 1037) := h2.c3
  have d4 : w2.cell? ⟨g, 4, none⟩ = some (.int .u64 450) := h2.c4
  clear h2 hg2 H1 HB1 c2 c3 c4
  go_wp2_with fail
  refine (lit_pto1 H2.out).mono ?_
  rintro e w3 ⟨rfl, hb3⟩
  have H3 := Lib.hid (H2.out.below hb3)
  have HB3 := Lib.hid (HB2.out.trans (hb3.mono HB2.out.size))
  clear hb3 H2 HB2 d3 d4
  go_wp2_with fail
  refine (lit_pto2 H3.out).mono ?_
  rintro e w4 ⟨rfl, hb4⟩
  have H4 := Lib.hid (H3.out.below hb4)
  have HB4 := Lib.hid (HB3.out.trans (hb4.mono HB3.out.size))
  clear hb4 H3 HB3
  go_wp2_with fail
  refine (lit_loss H4.out).mono ?_
  rintro e w5 ⟨rfl, hb5⟩
  have HB5 := Lib.hid (HB4.out.trans (hb5.mono HB4.out.size))
  clear hb5 H4 HB4
  go_wp2
  go_ret
  exact ⟨rfl, HB5.out⟩

theorem lit_pto0 {w : World} {g : Nat} (h : RAt w g RS.new) :
    Calls Try.prog 8 #[.pointer (some ⟨g, 0, none⟩), .int .u64 0, .int .u64 0] w fun e w' => e = .returned (.int .u64 999000) ∧ Below w.heap.size w w' := by
  have := pto_any w g 0 0 _ h (by decide)
  rwa [show ptoN RS.new 0 0 = 999000 by decide] at this
theorem pto_far (s : RS) (d : Nat) {k : Nat} (hk : 64 ≤ k) : ptoN s d k = mT := by
  have h1 : 2 ^ 64 ≤ 2 ^ k := Nat.pow_le_pow_right (by omega) hk
  have h2 : mT / 2 ^ k = 0 := Nat.div_eq_of_lt (Nat.lt_of_lt_of_le (by decide) h1)
  have h3 := sum_least s d
  unfold ptoN dblN
  rw [h2, if_pos (by omega)]
theorem lit_pto63 {w : World} {g : Nat} (h : RAt w g RS.new) :
    Calls Try.prog 8 #[.pointer (some ⟨g, 0, none⟩), .int .u64 0, .int .u64 9223372036854775808] w fun e w' => e = .returned (.int .u64 1099511627776) ∧ Below w.heap.size w w' := by
  have := pto_any w g 0 9223372036854775808 _ h (by decide)
  have hd : ptoN RS.new 0 9223372036854775808 = 1099511627776 := pto_far _ _ (by omega)
  rwa [hd] at this
theorem lit_ptonil (w : World) :
    Calls Try.prog 8 #[.pointer none, .int .u64 0, .int .u64 0] w fun e w' => e = .returned (.int .u64 999000) ∧ w = w' := by
  have := pto_nil w 0 0 (by decide)
  rwa [show ptoN RS.new 0 0 = 999000 by decide] at this
theorem lit_lossnil (w : World) :
    Calls Try.prog 9 #[.pointer none] w fun e w' => e = .returned (.int .u64 374625) ∧ w = w' := by
  have := loss_nil w
  rwa [show lossN RS.new = 374625 by decide] at this

set_option maxRecDepth 10000 in
set_option maxHeartbeats 2000000 in
theorem rlawknown_any (w : World) : Calls Try.prog 3 #[] w (SaysR w) := by
  have hn := rnew_at w
  have hb0 := (Below.refl w.heap.size w).alloc (Nat.le_refl _) (.cells #[.bool false, .int .u64 0, .int .u64 0, .int .u64 0, .int .u64 0] 28)
  obtain ⟨g, hg⟩ : ∃ g, g = w.heap.size := ⟨_, rfl⟩
  have HG := Lib.hid hg
  have HN := Lib.hid hn
  have HB0 := Lib.hid hb0
  clear hn hb0
  go_enter Try.func3, Try.ntmps3
  go_upto_region 4 with (go_at_call 6; refine (samp_nil w 5 0).mono ?_; rintro e w1 ⟨rfl, rfl⟩)
  generalize w.alloc (.cells #[.bool false, .int .u64 0, .int .u64 0, .int .u64 0, .int .u64 0] 28) = w0 at *
  rw [← hg] at HN
  rw [← hg]
  clear hg
  go_wp2_with fail
  refine (rworks_any w0).mono ?_
  rintro e w1 ⟨rfl, hb1⟩
  have H1 := Lib.hid (HN.out.below hb1)
  have HB1 := Lib.hid (HB0.out.trans (hb1.mono HB0.out.size))
  clear hb1 HN HB0
  go_wp2_with fail
  refine (lit_ptonil w1).mono ?_
  rintro e w2 ⟨rfl, rfl⟩
  go_wp2_with fail
  refine (lit_pto0 H1.out).mono ?_
  rintro e w3 ⟨rfl, hb3⟩
  have H3 := Lib.hid (H1.out.below hb3)
  have HB3 := Lib.hid (HB1.out.trans (hb3.mono HB1.out.size))
  clear hb3 H1 HB1
  go_wp2_with fail
  refine (lit_lossnil w3).mono ?_
  rintro e w4 ⟨rfl, rfl⟩
  go_wp2_with fail
  refine (lit_pto63 H3.out).mono ?_
  rintro e w5 ⟨rfl, hb5⟩
  have HB5 := Lib.hid (HB3.out.trans (hb5.mono HB3.out.size))
  clear hb5 H3 HB3
  go_wp2
  go_ret
  exact ⟨rfl, HB5.out⟩

end Go.Proofs.Ytoahannfpnkpkaa
