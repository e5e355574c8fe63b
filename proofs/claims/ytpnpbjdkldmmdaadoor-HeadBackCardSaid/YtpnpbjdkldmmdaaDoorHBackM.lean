/-
  Numbers of HeadBack: first bytes whose protected bits are turned.
-/
import Derived.Test.YtpnpbjdkldmmdaaDoorHMath2
namespace Go.Proofs.YtpnpbjdkldmmdaaDoor
set_option linter.unusedVariables false

theorem and15 : ∀ n : Nat, n < 256 → bits .and .u8 (n : Int) 15 = ((n % 16 : Nat) : Int) := by decide +kernel
theorem and31 : ∀ n : Nat, n < 256 → bits .and .u8 (n : Int) 31 = ((n % 32 : Nat) : Int) := by decide +kernel

theorem xor15 : ∀ y : Nat, y < 256 → ∀ r : Nat, r < 16 → bits .xor .u8 (y : Int) (r : Int) = (((bits .xor .u8 (y : Int) (r : Int)).toNat : Nat) : Int) ∧ (bits .xor .u8 (y : Int) (r : Int)).toNat < 256 ∧ (bits .xor .u8 (y : Int) (r : Int)).toNat / 16 = y / 16 ∧
    bits .andNot .u8 (bits .xor .u8 (y : Int) (((bits .xor .u8 (y : Int) (r : Int)).toNat : Nat) : Int)) 15 = 0 := by decide +kernel
theorem xor31 : ∀ y : Nat, y < 256 → ∀ r : Nat, r < 32 → bits .xor .u8 (y : Int) (r : Int) = (((bits .xor .u8 (y : Int) (r : Int)).toNat : Nat) : Int) ∧ (bits .xor .u8 (y : Int) (r : Int)).toNat < 256 ∧ (bits .xor .u8 (y : Int) (r : Int)).toNat / 32 = y / 32 ∧
    bits .andNot .u8 (bits .xor .u8 (y : Int) (((bits .xor .u8 (y : Int) (r : Int)).toNat : Nat) : Int)) 31 = 0 := by decide +kernel

/-- What Bare asks of a long first byte. -/
theorem long_bare {sp k : Nat} (hsp : sp = 0 ∨ sp = 1) (hk : k = 1 ∨ k = 2 ∨ k = 3 ∨ k = 4) :
    bits .and .u8 ((191 + k + 32 * sp : Nat) : Int) 3 = (k : Int) - 1 ∧ (bits .and .u8 ((191 + k + 32 * sp : Nat) : Int) 12 != 0) = false ∧ (bits .and .u8 ((191 + k + 32 * sp : Nat) : Int) 4 != 0) = false := by
  rcases hsp with rfl | rfl <;> rcases hk with rfl | rfl | rfl | rfl <;> decide +kernel

/-- What Bare asks of a short first byte. -/
theorem short_bare {k : Nat} {ph : Bool} (hk : k = 1 ∨ k = 2 ∨ k = 3 ∨ k = 4) :
    bits .and .u8 ((63 + k + (if ph then 4 else 0) : Nat) : Int) 3 = (k : Int) - 1 ∧ (bits .and .u8 ((63 + k + (if ph then 4 else 0) : Nat) : Int) 24 != 0) = false ∧ (bits .and .u8 ((63 + k + (if ph then 4 else 0) : Nat) : Int) 4 != 0) = ph := by
  rcases hk with rfl | rfl | rfl | rfl <;> cases ph <;> decide +kernel

theorem val_low (n k : Nat) : val 0 (be n k) = n % 256 ^ k := by rw [val_be]; omega

end Go.Proofs.YtpnpbjdkldmmdaaDoor
