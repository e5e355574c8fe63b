/-
  hostlerlaw09.GcmBack: the walk.
-/
import Derived.Test.YtajfpbkeabdcaaaGcKnown
namespace Go.Proofs.Ytajfpbkeabdcaaa
open Go.RowKit
set_option linter.unusedVariables false

set_option maxRecDepth 100000 in
set_option maxHeartbeats 1000000 in
theorem back_early (key nn l m : List UInt8) (A B : Option Addr) (c d : Nat) (bit : Int) (w : World) (h : 600 < l.length ∨ 600 < m.length ∨ bit < 0) :
    Calls Try.prog 4 #[.agg (aRow key), .agg (aRow nn), .slice A l.length c, .slice B m.length d, .int .i64 bit] w fun e w' => e = .returned (.bool true) ∧ Below w.heap.size w w' := by
  go_enter Try.func4, Try.ntmps4
  go_wp2_with fail
  obtain ⟨hbe, h1, h2⟩ := made2 w (aRow key) (aRow nn) 22 23
  generalize (w.alloc (.cells (aRow key) 22)).alloc (.cells (aRow nn) 23) = W at *
  refine (known_any W).mono ?_
  rintro e w1 ⟨rfl, hb1⟩
  have HB := Lib.hid (hbe.trans (hb1.mono hbe.size))
  clear hbe h1 h2 hb1
  by_cases h1 : 600 < l.length
  · have hd1 : decide ((l.length : Int) > 600) = true := by rw [decide_eq_true_iff]; omega
    clear h h1
    go_wp2
    go_ret
    exact ⟨rfl, HB.out⟩
  · have hd1 : decide ((l.length : Int) > 600) = false := by rw [decide_eq_false_iff_not]; omega
    by_cases h2 : 600 < m.length
    · have hd2 : decide ((m.length : Int) > 600) = true := by rw [decide_eq_true_iff]; omega
      clear h h1 h2
      go_wp2
      go_ret
      exact ⟨rfl, HB.out⟩
    · have hd2 : decide ((m.length : Int) > 600) = false := by rw [decide_eq_false_iff_not]; omega
      have hd3 : decide (bit < 0) = true := by rw [decide_eq_true_iff]; omega
      clear h h1 h2
      go_wp2
      go_ret
      exact ⟨rfl, HB.out⟩

set_option maxRecDepth 100000 in
set_option maxHeartbeats 1000000 in
theorem back_zero (key nn l m : List UInt8) (A B : Option Addr) (c d n : Nat) (w : World) (hk : key.length = 16) (hl : l.length ≤ 600) (hm : m.length ≤ 600) (hz : seL (ksL key) (List.replicate 16 0) = List.replicate 16 0) :
    Calls Try.prog 4 #[.agg (aRow key), .agg (aRow nn), .slice A l.length c, .slice B m.length d, .int .i64 (n : Int)] w fun e w' => e = .returned (.bool true) ∧ Below w.heap.size w w' := by
  have HKL := Deep.mk hk
  have HZ := Deep.mk hz
  clear hk hz
  go_enter Try.func4, Try.ntmps4
  go_wp2_with fail
  obtain ⟨hbe, h1, h2⟩ := made2 w (aRow key) (aRow nn) 22 23
  generalize (w.alloc (.cells (aRow key) 22)).alloc (.cells (aRow nn) 23) = W at *
  obtain ⟨ka, hka⟩ : ∃ a, a = w.heap.size := ⟨_, rfl⟩
  rw [← hka] at h1 ⊢
  refine (known_any W).mono ?_
  rintro e w1 ⟨rfl, hb1⟩
  have HB := Lib.hid (hbe.trans (hb1.mono hbe.size))
  have HKA := Lib.hid (h1.below hb1 h1.lt)
  have hd1 : decide ((l.length : Int) > 600) = false := by rw [decide_eq_false_iff_not]; omega
  have hd2 : decide ((m.length : Int) > 600) = false := by rw [decide_eq_false_iff_not]; omega
  have hd3 : decide ((n : Int) < 0) = false := by rw [decide_eq_false_iff_not]; omega
  clear hbe h1 h2 hb1 hka hl hm
  go_wp2_with (first | (refine wpList_load_blkG (.tmp 5) rfl rfl ka 0 rfl key HKL.out (Wh.range HKA.out) ?_))
  refine (new_any key w1 HKL.out).mono ?_
  rintro e w2 ⟨g, rfl, hge, hgw, hb2⟩
  have HB2 := Lib.hid (HB.out.trans (hb2.mono HB.out.size))
  have HGW := Lib.hid hgw
  clear hge hgw hb2 HB HKA
  obtain ⟨Z, hZ⟩ : ∃ Z : List UInt8, Z = List.replicate 16 0 := ⟨_, rfl⟩
  have HZL : Deep (Z.length = 16) := ⟨by rw [hZ]; rfl⟩
  have HZ2 : Deep (seL (ksL key) Z = Z) := ⟨by rw [hZ]; exact HZ.out⟩
  have HB0 : Deep (Try.prog.built 22 [] = some (aRow Z)) := ⟨by rw [hZ]; exact built_blk0⟩
  clear hZ
  have hse := fun w' h => seal_any g (ksL key) Z w' (ksL_b HKL.out) h HZL.out
  rw [HZ2.out] at hse
  have HSE := Lib.hid hse
  clear hse
  go_wp2_with (first | (refine wpList_built0G 22 rfl rfl (aRow Z) HB0.out ?_))
  refine (HSE.out w2 HGW.out).mono ?_
  rintro e w3 ⟨rfl, hb3⟩
  have HB3 := Lib.hid (HB2.out.trans (hb3.mono HB2.out.size))
  clear hb3
  have heq := eq_blks Z Z HZL.out HZL.out
  rw [decide_eq_true rfl] at heq
  go_wp2_with (first | (refine wpList_built0G 22 rfl rfl (aRow Z) HB0.out ?_))
  go_ret
  exact ⟨rfl, HB3.out⟩
end Go.Proofs.Ytajfpbkeabdcaaa
