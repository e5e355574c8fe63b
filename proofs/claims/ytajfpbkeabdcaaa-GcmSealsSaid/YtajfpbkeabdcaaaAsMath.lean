/-
  Plain mathematics of layer 8: bytes, their sums, products and other ones. No program is named here.
-/
import Derived.Laws.BitsAllLaws
import Derived.Test.YtajfpbkeabdcaaaWords
import Derived.Test.YtajfpbkeabdcaaaShMath
namespace Go.Proofs.Ytajfpbkeabdcaaa
open Go.RowKit

theorem b_inj {x y : UInt8} (h : (x.toNat : Int) = (y.toNat : Int)) : x = y := UInt8.toNat_inj.1 (Int.ofNat_inj.1 h)
theorem b_eq (x y : UInt8) : ((x.toNat : Int) == (y.toNat : Int)) = decide (x = y) := by
  by_cases h : x = y
  · subst h; simp
  · rw [decide_eq_false h]
    simp only [beq_eq_false_iff_ne, ne_eq]
    exact fun e => h (b_inj e)
theorem b_xor (x y : UInt8) : bits .xor .u8 (x.toNat : Int) (y.toNat : Int) = ((x ^^^ y).toNat : Int) := by
  rw [u8_xor_nat _ _ x.toNat_lt y.toNat_lt, UInt8.toNat_xor]
theorem b_of {m n : Int} (h : m = n) : Ending.returned (.int .u8 m) = .returned (.int .u8 n) := by rw [h]

/-- A byte, multiplied by 2. -/
def tw (x : UInt8) : UInt8 := (x * 2) ^^^ ((x / 128) * 27)
theorem b_tw (x : UInt8) : bits .xor .u8 ((x.toNat : Int) * 2 % 256) ((x.toNat : Int) / 128 * 27) = ((tw x).toNat : Int) := by
  have hx := x.toNat_lt
  have e1 : (x.toNat : Int) * 2 % 256 = ((x * 2 : UInt8).toNat : Int) := by
    rw [UInt8.toNat_mul]; simp
  have e2 : (x.toNat : Int) / 128 * 27 = (((x / 128) * 27 : UInt8).toNat : Int) := by
    rw [UInt8.toNat_mul, UInt8.toNat_div]
    have : x.toNat / 128 * 27 < 256 := by omega
    simp
    omega
  rw [e1, e2, b_xor]
  rfl


set_option maxRecDepth 10000 in
def oT : List UInt8 := [99, 124, 119, 123, 242, 107, 111, 197, 48, 1, 103, 43, 254, 215, 171, 118, 202, 130, 201, 125, 250, 89, 71, 240, 173, 212, 162, 175, 156, 164, 114, 192, 183, 253, 147, 38, 54, 63, 247, 204, 52, 165, 229, 241, 113, 216, 49, 21, 4, 199, 35, 195, 24, 150, 5, 154, 7, 18, 128, 226, 235, 39, 178, 117, 9, 131, 44, 26, 27, 110, 90, 160, 82, 59, 214, 179, 41, 227, 47, 132, 83, 209, 0, 237, 32, 252, 177, 91, 106, 203, 190, 57, 74, 76, 88, 207, 208, 239, 170, 251, 67, 77, 51, 133, 69, 249, 2, 127, 80, 60, 159, 168, 81, 163, 64, 143, 146, 157, 56, 245, 188, 182, 218, 33, 16, 255, 243, 210, 205, 12, 19, 236, 95, 151, 68, 23, 196, 167, 126, 61, 100, 93, 25, 115, 96, 129, 79, 220, 34, 42, 144, 136, 70, 238, 184, 20, 222, 94, 11, 219, 224, 50, 58, 10, 73, 6, 36, 92, 194, 211, 172, 98, 145, 149, 228, 121, 231, 200, 55, 109, 141, 213, 78, 169, 108, 86, 244, 234, 101, 122, 174, 8, 186, 120, 37, 46, 28, 166, 180, 198, 232, 221, 116, 31, 75, 189, 139, 138, 112, 62, 181, 102, 72, 3, 246, 14, 97, 53, 87, 185, 134, 193, 29, 158, 225, 248, 152, 17, 105, 217, 142, 148, 155, 30, 135, 233, 206, 85, 40, 223, 140, 161, 137, 13, 191, 230, 66, 104, 65, 153, 45, 15, 176, 84, 187, 22]
theorem oT_len : oT.length = 256 := by decide +kernel
def sB (x : UInt8) : UInt8 := oT.getD x.toNat 0

/-- Two bytes, multiplied, as the document's own answer does it: a round, the rounds. -/
def tmO (out a b : UInt8) : UInt8 := if b % 2 = 1 then out ^^^ a else out
def tmA (a : UInt8) : UInt8 := if 128 ≤ a then (2 * a) ^^^ 27 else 2 * a
def tmAN (a : UInt8) : Nat → UInt8
  | 0 => a
  | k + 1 => tmA (tmAN a k)
def tmBN (b : UInt8) : Nat → UInt8
  | 0 => b
  | k + 1 => tmBN b k / 2
def tmON (a b : UInt8) : Nat → UInt8
  | 0 => 0
  | k + 1 => tmO (tmON a b k) (tmAN a k) (tmBN b k)
def tm (a b : UInt8) : UInt8 := tmON a b 8

/-- The power of 254, its rounds. -/
def pwX (b : UInt8) : Nat → UInt8
  | 0 => b
  | k + 1 => tm (pwX b k) (pwX b k)
def pwY (b : UInt8) : Nat → UInt8
  | 0 => 1
  | 1 => 1
  | k + 2 => tm (pwY b (k + 1)) (pwX b (k + 1))
/-- A byte, turned to the left; the five turns' sum. -/
def rl (y : UInt8) : UInt8 := 2 * y + y / 128
def rlN (y : UInt8) : Nat → UInt8
  | 0 => y
  | k + 1 => rl (rlN y k)
def rsN (y : UInt8) : Nat → UInt8
  | 0 => 99
  | k + 1 => rsN y k ^^^ rlN y k
def sR (b : UInt8) : UInt8 := rsN (pwY b 8) 5

theorem all256 (p : UInt8 → Prop) [DecidablePred p] (h : ∀ n : Fin 256, p (UInt8.ofNat n.val)) (x : UInt8) : p x := by
  have := h ⟨x.toNat, x.toNat_lt⟩
  simpa using this

theorem sR_sB (x : UInt8) : sR x = sB x := all256 (fun x => sR x = sB x) (by decide +kernel) x
theorem tm_2 (x : UInt8) : tm 2 x = tw x := all256 (fun x => tm 2 x = tw x) (by decide +kernel) x
theorem tm_2' (x : UInt8) : tm x 2 = tw x := all256 (fun x => tm x 2 = tw x) (by decide +kernel) x
theorem tm_3 (x : UInt8) : tm 3 x = tw x ^^^ x := all256 (fun x => tm 3 x = tw x ^^^ x) (by decide +kernel) x

/-- No two bytes have one other one. -/
def sI (y : UInt8) : UInt8 := UInt8.ofNat (oT.idxOf y)
theorem sI_sB (x : UInt8) : sI (sB x) = x := all256 (fun x => sI (sB x) = x) (by decide +kernel) x
theorem sB_inj {x y : UInt8} (h : sB x = sB y) : x = y := by rw [← sI_sB x, ← sI_sB y, h]

end Go.Proofs.Ytajfpbkeabdcaaa
