/-
  Transport parameters: the document's own test of a number (hostlerref04.fits).
-/
import Derived.Test.YtpnpbjdkldmmdaaDoorQGet
namespace Go.Proofs.YtpnpbjdkldmmdaaDoor
open Go.RowKit
set_option linter.unusedVariables false

set_option maxRecDepth 10000 in
set_option maxHeartbeats 800000 in
theorem fits_any (id n : Nat) (w : World) : Calls Tryd.prog 32 #[.int .i64 (id : Int), .int .u64 (n : Int)] w fun e w' => e = .returned (.bool (fitsB id n)) ∧ w = w' := by
  obtain ⟨x, hx⟩ : ∃ x : Int, x = (n : Int) := ⟨_, rfl⟩
  have hx0 : 0 ≤ x := by omega
  have HF := Lib.hid hx
  rw [← hx]
  clear hx
  by_cases h8 : id = 8
  · subst h8
    go_enter Tryd.func32, Tryd.ntmps32
    go_wp2
    all_goals
      go_ret
      refine ⟨ret_bool ?_, rfl⟩
      have hx := HF.out
      first | (simp [fitsB]; done) | (simp [fitsB] <;> omega) | (rw [Bool.eq_iff_iff]; simp [fitsB] <;> omega)
  by_cases h9 : id = 9
  · subst h9
    go_enter Tryd.func32, Tryd.ntmps32
    go_wp2
    all_goals
      go_ret
      refine ⟨ret_bool ?_, rfl⟩
      have hx := HF.out
      first | (simp [fitsB]; done) | (simp [fitsB] <;> omega) | (rw [Bool.eq_iff_iff]; simp [fitsB] <;> omega)
  by_cases h11 : id = 11
  · subst h11
    go_enter Tryd.func32, Tryd.ntmps32
    go_wp2
    all_goals
      go_ret
      refine ⟨ret_bool ?_, rfl⟩
      have hx := HF.out
      first | (simp [fitsB]; done) | (simp [fitsB] <;> omega) | (rw [Bool.eq_iff_iff]; simp [fitsB] <;> omega)
  by_cases h14 : id = 14
  · subst h14
    go_enter Tryd.func32, Tryd.ntmps32
    go_wp2
    all_goals
      go_ret
      refine ⟨ret_bool ?_, rfl⟩
      have hx := HF.out
      first | (simp [fitsB]; done) | (simp [fitsB] <;> omega) | (rw [Bool.eq_iff_iff]; simp [fitsB] <;> omega)
  have t8 : ((id : Int) == 8) = false := by rw [beq_eq_false_iff_ne]; omega
  have t9 : ((id : Int) == 9) = false := by rw [beq_eq_false_iff_ne]; omega
  have t11 : ((id : Int) == 11) = false := by rw [beq_eq_false_iff_ne]; omega
  have t14 : ((id : Int) == 14) = false := by rw [beq_eq_false_iff_ne]; omega
  have HN := Lib.hid (And.intro h8 (And.intro h9 (And.intro h11 h14)))
  clear h8 h9 h11 h14
  skip
  go_enter Tryd.func32, Tryd.ntmps32
  go_wp2
  all_goals
    go_ret
    refine ⟨ret_bool ?_, rfl⟩
    have hx := HF.out
    obtain ⟨h8, h9, h11, h14⟩ := HN.out
    first | (simp [fitsB, h8, h9, h11, h14] <;> omega) | (rw [Bool.eq_iff_iff]; simp [fitsB, h8, h9, h11, h14] <;> omega)

end Go.Proofs.YtpnpbjdkldmmdaaDoor
