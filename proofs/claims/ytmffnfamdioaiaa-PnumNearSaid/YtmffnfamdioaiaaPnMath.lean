/-
  Plain numbers of packet numbers: how many bytes one needs, its low bytes, the nearest one with these. No program is named here.
-/
import Derived.IntWalk
namespace Go.Proofs.Ytmffnfamdioaiaa

/-- How many numbers a packet number is ahead of the last one acknowledged. -/
def openN (full acked : Nat) (has : Bool) : Nat := if has then full - min full acked else max full ((full + 1) % 18446744073709551616)

/-- How many bytes a packet number needs that is so far ahead. -/
def needN (w : Nat) : Nat := if w < 128 then 1 else if w < 32768 then 2 else if w < 8388608 then 3 else 4

theorem needN_1 {w : Nat} (h : w < 128) : needN w = 1 := if_pos h
theorem needN_2 {w : Nat} (h1 : ¬ w < 128) (h : w < 32768) : needN w = 2 := by rw [needN, if_neg h1, if_pos h]
theorem needN_3 {w : Nat} (h1 : ¬ w < 32768) (h : w < 8388608) : needN w = 3 := by rw [needN, if_neg (by omega), if_neg h1, if_pos h]
theorem needN_4 {w : Nat} (h1 : ¬ w < 8388608) : needN w = 4 := by rw [needN, if_neg (by omega), if_neg (by omega), if_neg h1]

end Go.Proofs.Ytmffnfamdioaiaa
