/-
  Words turned: the walks through math/bits.RotateLeft32, sha.turned, sha.mix.
-/
import Derived.IntWalk
import Derived.Test.YtblclinfcdalaaaDoorLaws
import Derived.Test.YtblclinfcdalaaaDoorShMath
import Derived.Test.YtblclinfcdalaaaDoorProg
namespace Go.Proofs.YtblclinfcdalaaaDoor
open Go.RowKit
set_option linter.unusedVariables false

set_option maxHeartbeats 400000 in
theorem rot_any (x : W32) (p : Nat) (w : World) (h1 : 1 ≤ p) (h2 : p ≤ 31) :
    Calls Tryd.prog 144 #[.int .u32 (wi x), .int .i64 (-(p : Int))] w fun e w' => e = .returned (.int .u32 (wi (rr x p))) ∧ w = w' := by
  have hx := wi_lt x
  have hx0 := wi_nn x
  obtain ⟨q, hq⟩ : ∃ q : Nat, q = 32 - p := ⟨_, rfl⟩
  have hs : bits .and .u64 (IntKind.u64.wrap (-(p : Int))) 31 = (q : Int) := by
    rw [IntKind.wrap_u64]
    have := u64_and_nat (18446744073709551616 - p) 31 (by omega) (by omega)
    rw [show (-(p : Int)) % 18446744073709551616 = ((18446744073709551616 - p : Nat) : Int) by omega]
    rw [show (31 : Int) = ((31 : Nat) : Int) by rfl, this, nat_mask5]
    omega
  have hq1 : 1 ≤ q := by omega
  have hq2 : q ≤ 31 := by omega
  have HQ := Lib.hid hq
  clear hq
  go_enter Tryd.func144, Tryd.ntmps144
  go_wp2
  go_ret
  exact ⟨cw_of (wi_rot x p q h1 h2 HQ.out), rfl⟩

set_option maxHeartbeats 400000 in
theorem turned_any (x : W32) (p : Nat) (w : World) (h1 : 1 ≤ p) (h2 : p ≤ 31) :
    Calls Tryd.prog 141 #[.int .u32 (wi x), .int .i64 (p : Int)] w fun e w' => e = .returned (.int .u32 (wi (rr x p))) ∧ w = w' := by
  go_enter Tryd.func141, Tryd.ntmps141
  go_wp2_with (go_at_call 144; refine (rot_any x p _ h1 h2).mono ?_; rintro e w1 ⟨rfl, rfl⟩)
  go_ret
  exact ⟨rfl, rfl⟩

set_option maxHeartbeats 400000 in
theorem mix_any (x : W32) (i j k : Nat) (w : World) (h1 : 1 ≤ i) (h2 : i ≤ 31) (h3 : 1 ≤ j) (h4 : j ≤ 31) (h5 : 1 ≤ k) (h6 : k ≤ 31) :
    Calls Tryd.prog 136 #[.int .u32 (wi x), .int .i64 (i : Int), .int .i64 (j : Int), .int .i64 (k : Int)] w fun e w' => e = .returned (.int .u32 (wi (mix3 x i j k))) ∧ w = w' := by
  go_enter Tryd.func136, Tryd.ntmps136
  go_wp2_with (go_at_call 141; refine (turned_any _ _ _ (by omega) (by omega)).mono ?_; rintro e w1 ⟨rfl, rfl⟩)
  go_ret
  exact ⟨cw_of (by rw [wi_xor, wi_xor]; rfl), rfl⟩
/-- The same at integers. -/
theorem turned_i (x : W32) (i : Int) (w : World) (h1 : 1 ≤ i) (h2 : i ≤ 31) :
    Calls Tryd.prog 141 #[.int .u32 (wi x), .int .i64 i] w fun e w' => e = .returned (.int .u32 (wi (rr x i.toNat))) ∧ w = w' := by
  obtain ⟨p, rfl⟩ := Int.eq_ofNat_of_zero_le (by omega : 0 ≤ i)
  exact turned_any x p w (by omega) (by omega)
theorem mix_i (x : W32) (i j k : Int) (w : World) (h1 : 1 ≤ i) (h2 : i ≤ 31) (h3 : 1 ≤ j) (h4 : j ≤ 31) (h5 : 1 ≤ k) (h6 : k ≤ 31) :
    Calls Tryd.prog 136 #[.int .u32 (wi x), .int .i64 i, .int .i64 j, .int .i64 k] w fun e w' => e = .returned (.int .u32 (wi (mix3 x i.toNat j.toNat k.toNat))) ∧ w = w' := by
  obtain ⟨p, rfl⟩ := Int.eq_ofNat_of_zero_le (by omega : 0 ≤ i)
  obtain ⟨q, rfl⟩ := Int.eq_ofNat_of_zero_le (by omega : 0 ≤ j)
  obtain ⟨r, rfl⟩ := Int.eq_ofNat_of_zero_le (by omega : 0 ≤ k)
  exact mix_any x p q r w (by omega) (by omega) (by omega) (by omega) (by omega) (by omega)

end Go.Proofs.YtblclinfcdalaaaDoor
