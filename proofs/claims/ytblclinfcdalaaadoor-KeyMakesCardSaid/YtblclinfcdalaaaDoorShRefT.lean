/-
  The document's own shift and turn (hostlerref06).
-/
import Derived.IntWalk
import Derived.Test.YtblclinfcdalaaaDoorLaws
import Derived.Test.YtblclinfcdalaaaDoorShMath
import Derived.Test.YtblclinfcdalaaaDoorProg
namespace Go.Proofs.YtblclinfcdalaaaDoor
open Go.RowKit
set_option linter.unusedVariables false

theorem wi_half (x : W32) (k : Nat) : wi (sr x k) / 2 = wi (sr x (k + 1)) := by
  unfold wi sr
  rw [BitVec.toNat_ushiftRight, BitVec.toNat_ushiftRight, Nat.shiftRight_succ]
  omega

theorem wi_half' (x : W32) (k : Nat) : (wi (sr x k)).tdiv 2 % 4294967296 = wi (sr x (k + 1)) := by
  rw [Int.tdiv_eq_ediv_of_nonneg (wi_nn _), wi_half]
  exact Int.emod_eq_of_lt (wi_nn _) (wi_lt _)

theorem wi_double (x : W32) : (2 : Int) * wi x % (4294967296 : Int) = wi (x <<< 1) := by
  unfold wi
  rw [BitVec.toNat_shiftLeft, Nat.shiftLeft_eq]
  omega

/-- Shifted to the left. -/
def sl (x : W32) (k : Nat) : W32 := x <<< k
theorem sl_succ (x : W32) (k : Nat) : sl x k <<< 1 = sl x (k + 1) := by unfold sl; rw [BitVec.shiftLeft_add]

theorem rr_add (x : W32) (n : Nat) (h1 : 1 ≤ n) (h2 : n ≤ 31) : sr x n + sl x (32 - n) = rr x n := by
  unfold sr sl rr
  rw [BitVec.rotateRight_def, Nat.mod_eq_of_lt (by omega : n < 32)]
  refine BitVec.add_eq_or_of_and_eq_zero _ _ ?_
  apply BitVec.eq_of_getLsbD_eq
  intro i hi
  rw [BitVec.getLsbD_and, BitVec.getLsbD_ushiftRight, BitVec.getLsbD_shiftLeft, BitVec.getLsbD_zero]
  by_cases h : i < 32 - n
  · simp [h]
  · rw [BitVec.getLsbD_of_ge x (n + i) (by omega)]
    simp

set_option maxHeartbeats 400000 in
theorem shift_any (x : W32) (n : Nat) (w : World) (hn : n ≤ 31) :
    Calls Tryd.prog 95 #[.int .u32 (wi x), .int .i64 (n : Int)] w fun e w' => e = .returned (.int .u32 (wi (sr x n))) ∧ w = w' := by
  go_enter Tryd.func95, Tryd.ntmps95
  go_wp2
  go_loop [0, 5] (fun v i => ∃ k : Nat, k ≤ n ∧ i = .int .i64 (k : Int) ∧ v = .int .u32 (wi (sr x k))) (fun _ i => n - (intOf i).toNat)
  case atStart => exact ⟨0, by omega, rfl, by simp [sr]⟩
  case round =>
    obtain ⟨k, hk, rfl, rfl⟩ := hrel
    by_cases hlt : k < n
    · go_wp2
      go_round
      case rel => exact ⟨k + 1, by omega, by go_num, by rw [wi_half']⟩
      case measure => simp [intOf]; omega
    · have hd : decide (k < n) = false := decide_eq_false hlt
      have hkn : Deep (k = n) := ⟨by omega⟩
      clear hk hlt
      go_wp2
      go_ret
      exact ⟨cw_of (by rw [hkn.out]), rfl⟩

set_option maxHeartbeats 400000 in
theorem turn_any (x : W32) (n : Nat) (w : World) (h1 : 1 ≤ n) (hn : n ≤ 31) :
    Calls Tryd.prog 94 #[.int .u32 (wi x), .int .i64 (n : Int)] w fun e w' => e = .returned (.int .u32 (wi (rr x n))) ∧ w = w' := by
  go_enter Tryd.func94, Tryd.ntmps94
  go_wp2
  go_loop [5, 6] (fun v i => ∃ k : Nat, n ≤ k ∧ k ≤ 32 ∧ i = .int .i64 (k : Int) ∧ v = .int .u32 (wi (sl x (k - n)))) (fun _ i => 32 - (intOf i).toNat)
  case atStart => exact ⟨n, by omega, by omega, rfl, by simp [sl]⟩
  case round =>
    obtain ⟨k, hk1, hk2, rfl, rfl⟩ := hrel
    by_cases hlt : k < 32
    · have hh : (2 : Int) * wi (sl x (k - n)) % (4294967296 : Int) = wi (sl x (k + 1 - n)) := by rw [wi_double, sl_succ, show k - n + 1 = k + 1 - n by omega]
      go_wp2
      go_round
      case rel => exact ⟨k + 1, by omega, by omega, by go_num, by rw [hh]⟩
      case measure => simp [intOf]; omega
    · have hd : decide ((k : Int) < 32) = false := by rw [decide_eq_false_iff_not]; omega
      have hkn : Deep (k = 32) := ⟨by omega⟩
      clear hk2 hlt
      go_wp2_with (go_at_call 95; refine (shift_any x n _ hn).mono ?_; rintro e w1 ⟨rfl, rfl⟩)
      go_ret
      refine ⟨cw_of ?_, rfl⟩
      first
        | (rw [wi_add', hkn.out, rr_add x n h1 hn])
        | (rw [wi_add, hkn.out, rr_add x n h1 hn])

/-- The same at integers. -/
theorem shift_i (x : W32) (i : Int) (w : World) (h1 : 0 ≤ i) (h2 : i ≤ 31) :
    Calls Tryd.prog 95 #[.int .u32 (wi x), .int .i64 i] w fun e w' => e = .returned (.int .u32 (wi (sr x i.toNat))) ∧ w = w' := by
  obtain ⟨p, rfl⟩ := Int.eq_ofNat_of_zero_le h1
  exact shift_any x p w (by omega)
theorem turn_i (x : W32) (i : Int) (w : World) (h1 : 1 ≤ i) (h2 : i ≤ 31) :
    Calls Tryd.prog 94 #[.int .u32 (wi x), .int .i64 i] w fun e w' => e = .returned (.int .u32 (wi (rr x i.toNat))) ∧ w = w' := by
  obtain ⟨p, rfl⟩ := Int.eq_ofNat_of_zero_le (by omega : 0 ≤ i)
  exact turn_any x p w (by omega) (by omega)

end Go.Proofs.YtblclinfcdalaaaDoor
