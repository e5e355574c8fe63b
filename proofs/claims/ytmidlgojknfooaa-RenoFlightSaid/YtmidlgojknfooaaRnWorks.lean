/-
  The walk through hostlerlaw14.works.
-/
import Derived.Test.YtmidlgojknfooaaRnNew
namespace Go.Proofs.Ytmidlgojknfooaa
open Go.RowKit
set_option linter.unusedVariables false

/-- What a law answers. -/
def SaysN (w : World) (e : Ending) (w' : World) : Prop := e = .returned (.bool true) ∧ Below w.heap.size w w'

theorem below_grownN {B g : Nat} {a b c : World} (h : Below B a b) (k : b.grownBy c (some g)) (hg : B ≤ g) (hB : B ≤ b.heap.size) : Below B a c :=
  h.grown k hB fun q e => by have := Option.some.inj e; omega

def ns1 : NS := ⟨12000, mB, 2400, 0, false, 0⟩
def ns2 : NS := ⟨13200, mB, 1200, 0, false, 0⟩
def ns3 : NS := ⟨6600, 6600, 1200, 9, true, 0⟩
def ns4 : NS := ⟨3300, 3300, 1200, 12, true, 0⟩
theorem ns1_ok : ns1.Ok := by constructor <;> decide

theorem two_ns (w : World) : Ns (w.alloc (.cells #[.int .u64 1200, .int .u64 1200] 28)) (some ⟨w.heap.size, 0, none⟩) [1200, 1200] := by
  intro _
  refine ⟨w.heap.size, 0, rfl, by simp, fun i v hi => ?_⟩
  have hw := Wh.new w 28 #[.int .u64 1200, .int .u64 1200]
  rcases i with _ | _ | i
  · simp at hi
    subst hi
    exact (Wh.cell hw 0).trans rfl
  · simp at hi
    subst hi
    exact (Wh.cell hw 1).trans rfl
  · simp at hi

theorem lit_may1 {w : World} {g : Nat} (h : NAt w g NS.new) :
    Calls Try.prog 14 #[.pointer (some ⟨g, 0, none⟩), .int .u64 12000] w fun e w' => e = .returned (.bool true) ∧ Below w.heap.size w w' := by
  have := nmay_any w g 12000 _ h (by decide)
  rwa [show NS.new.may 12000 = true by decide] at this
theorem lit_may2 {w : World} {g : Nat} (h : NAt w g NS.new) :
    Calls Try.prog 14 #[.pointer (some ⟨g, 0, none⟩), .int .u64 12001] w fun e w' => e = .returned (.bool false) ∧ Below w.heap.size w w' := by
  have := nmay_any w g 12001 _ h (by decide)
  rwa [show NS.new.may 12001 = false by decide] at this
theorem lit_sent {w : World} {g : Nat} (h : NAt w g NS.new) :
    Calls Try.prog 8 #[.pointer (some ⟨g, 0, none⟩), .slice (some ⟨w.heap.size, 0, none⟩) 2 2] (w.alloc (.cells #[.int .u64 1200, .int .u64 1200] 28)) (NGave g ns1 (w.alloc (.cells #[.int .u64 1200, .int .u64 1200] 28))) := by
  have := sent_any _ g _ 2 2 _ _ (h.below ((Below.refl w.heap.size w).alloc (Nat.le_refl _) _)) rfl (two_ns w) (by decide)
  rwa [show moreN NS.new.fl [1200, 1200] = 2400 by decide +kernel] at this
theorem lit_acked {w : World} {g : Nat} (h : NAt w g ns1) :
    Calls Try.prog 10 #[.pointer (some ⟨g, 0, none⟩), .int .u64 5, .int .u64 1200] w (NGave g ns2 w) := by
  refine (acked_any w g 5 1200 _ h ns1_ok (by decide)).mono ?_
  rintro e w' ⟨s', hr, h'⟩
  have hs : s' = ns2 := by
    unfold AckR at hr
    rw [if_neg (by decide), if_pos (by decide)] at hr
    rw [hr, show goneN ns1.fl [1200] = 1200 by decide +kernel, show moreN ns1.wi [1200] = 13200 by decide +kernel]
    rfl
  rwa [hs] at h'
theorem lit_lost1 {w : World} {g : Nat} (h : NAt w g ns2) :
    Calls Try.prog 12 #[.pointer (some ⟨g, 0, none⟩), .int .u64 7, .int .u64 9] w (NGave g ns3 w) :=
  lost_any w g 7 9 _ h (by decide)
theorem lit_lost2 {w : World} {g : Nat} (h : NAt w g ns3) :
    Calls Try.prog 12 #[.pointer (some ⟨g, 0, none⟩), .int .u64 8, .int .u64 10] w (NGave g ns3 w) :=
  lost_any w g 8 10 _ h (by decide)
theorem lit_lost3 {w : World} {g : Nat} (h : NAt w g ns3) :
    Calls Try.prog 12 #[.pointer (some ⟨g, 0, none⟩), .int .u64 10, .int .u64 12] w (NGave g ns4 w) :=
  lost_any w g 10 12 _ h (by decide)

set_option maxRecDepth 10000 in
set_option maxHeartbeats 2000000 in
theorem nworks_any (w : World) : Calls Try.prog 5 #[] w (SaysN w) := by
  have HN := Lib.hid (nnew_any w)
  go_enter Try.func5, Try.ntmps5
  go_wp2_with fail
  refine HN.out.mono ?_
  rintro e w1 ⟨g, rfl, hgl, hb1, h1⟩
  have HG := Lib.hid hgl
  have HB1 := Lib.hid hb1
  have H1 := Lib.hid h1
  have c0 : w1.cell? ⟨g, 0, none⟩ = some (.int .u64 12000) := h1.c0
  clear hgl hb1 h1 HN
  go_wp2_with fail
  refine (lit_may1 H1.out).mono ?_
  rintro e w2 ⟨rfl, hb2⟩
  have H2 := Lib.hid (H1.out.below hb2)
  have HB2 := Lib.hid (HB1.out.trans (hb2.mono HB1.out.size))
  clear hb2 H1 HB1 c0
  go_wp2_with fail
  refine (lit_may2 H2.out).mono ?_
  rintro e w3 ⟨rfl, hb3⟩
  have H3 := Lib.hid (H2.out.below hb3)
  have HB3 := Lib.hid (HB2.out.trans (hb3.mono HB2.out.size))
  have HB4 := Lib.hid (HB3.out.alloc HB3.out.size (.cells #[.int .u64 1200, .int .u64 1200] 28))
  have HS := Lib.hid (lit_sent H3.out)
  clear hb3 H2 HB2 HB3 H3
  go_wp2_with fail
  generalize w3.alloc (.cells #[.int .u64 1200, .int .u64 1200] 28) = w4 at *
  refine HS.out.mono ?_
  rintro e w5 ⟨rfl, hg5, h5⟩
  have H5 := Lib.hid h5
  have HB5 : Hid (Below w.heap.size w w5) := Lib.hid (below_grownN HB4.out hg5 HG.out HB4.out.size)
  clear hg5 h5 HS HB4
  go_wp2_with fail
  refine (lit_acked H5.out).mono ?_
  rintro e w6 ⟨rfl, hg6, h6⟩
  have H6 := Lib.hid h6
  have HB6 : Hid (Below w.heap.size w w6) := Lib.hid (below_grownN HB5.out hg6 HG.out HB5.out.size)
  have c2 : w6.cell? ⟨g, 2, none⟩ = some (.int .u64 1200) := h6.c2
  have c0 : w6.cell? ⟨g, 0, none⟩ = some (.int .u64 13200) := h6.c0
  clear hg6 h6 H5 HB5
  go_wp2_with fail
  refine (lit_lost1 H6.out).mono ?_
  rintro e w7 ⟨rfl, hg7, h7⟩
  have H7 := Lib.hid h7
  have HB7 : Hid (Below w.heap.size w w7) := Lib.hid (below_grownN HB6.out hg7 HG.out HB6.out.size)
  clear hg7 h7 H6 HB6 c2 c0
  go_wp2_with fail
  refine (lit_lost2 H7.out).mono ?_
  rintro e w8 ⟨rfl, hg8, h8⟩
  have H8 := Lib.hid h8
  have HB8 : Hid (Below w.heap.size w w8) := Lib.hid (below_grownN HB7.out hg8 HG.out HB7.out.size)
  have c0 : w8.cell? ⟨g, 0, none⟩ = some (.int .u64 6600) := h8.c0
  clear hg8 h8 H7 HB7
  go_wp2_with fail
  refine (lit_lost3 H8.out).mono ?_
  rintro e w9 ⟨rfl, hg9, h9⟩
  have HB9 : Hid (Below w.heap.size w w9) := Lib.hid (below_grownN HB8.out hg9 HG.out HB8.out.size)
  have c0 : w9.cell? ⟨g, 0, none⟩ = some (.int .u64 3300) := h9.c0
  clear hg9 h9 H8 HB8
  go_wp2
  go_ret
  exact ⟨rfl, HB9.out⟩

end Go.Proofs.Ytmidlgojknfooaa
