/-
  Plain mathematics of layer 6: words of 32 bits, and how the model's operations on numbers are theirs. No program is named here.
-/
import Derived.Laws.BitsAllLaws
import Derived.Test.YtblclinfcdalaaaDoorWords
namespace Go.Proofs.YtblclinfcdalaaaDoor
open Go.RowKit

/-- A fact that no step of a walk looks into. -/
structure Deep (p : Prop) : Prop where
  out : p

abbrev W32 := BitVec 32

/-- A word as an integer; its value. -/
def wi (x : W32) : Int := (x.toNat : Int)
def cw (x : W32) : Value := .int .u32 (wi x)

theorem wi_lt (x : W32) : wi x < 4294967296 := by have := x.isLt; unfold wi; omega
theorem wi_nn (x : W32) : 0 ≤ wi x := Int.natCast_nonneg _
theorem wi_inj {x y : W32} (h : wi x = wi y) : x = y := BitVec.eq_of_toNat_eq (Int.ofNat_inj.1 h)

theorem wi_add (x y : W32) : IntKind.u32.wrap (wi x + wi y) = wi (x + y) := by
  unfold wi; rw [IntKind.wrap_u32', BitVec.toNat_add]; omega
theorem wi_add' (x y : W32) : (wi x + wi y) % 4294967296 = wi (x + y) := by
  unfold wi; rw [BitVec.toNat_add]; omega
theorem wi_xor (x y : W32) : bits .xor .u32 (wi x) (wi y) = wi (x ^^^ y) := by
  unfold wi; rw [u32_xor_nat _ _ x.isLt y.isLt, BitVec.toNat_xor]
theorem wi_and (x y : W32) : bits .and .u32 (wi x) (wi y) = wi (x &&& y) := by
  unfold wi; rw [u32_and_nat _ _ x.isLt y.isLt, BitVec.toNat_and]
theorem wi_or (x y : W32) : bits .or .u32 (wi x) (wi y) = wi (x ||| y) := by
  unfold wi; rw [u32_or_nat _ _ x.isLt y.isLt, BitVec.toNat_or]
theorem wi_not (x : W32) : bits .xor .u32 4294967295 (wi x) = wi (~~~x) := by
  have h : (4294967295 : Int) = wi (BitVec.allOnes 32) := by decide
  rw [h, wi_xor]
  congr 1

/-- A word turned to the right; turned by three numbers of places. -/
def rr (x : W32) (p : Nat) : W32 := x.rotateRight p
def mix3 (x : W32) (i j k : Nat) : W32 := rr x i ^^^ rr x j ^^^ rr x k

theorem wi_rot (x : W32) (p q : Nat) (h1 : 1 ≤ p) (h2 : p ≤ 31) (hq : q = 32 - p) :
    bits .or .u32 (wi x * 2 ^ q % 4294967296) (wi x / 2 ^ (32 - q)) = wi (rr x p) := by
  have hx := x.isLt
  unfold wi rr
  have e1 : (x.toNat : Int) * 2 ^ q % 4294967296 = ((x.toNat * 2 ^ q % 4294967296 : Nat) : Int) := by
    rw [Int.natCast_emod, Int.natCast_mul, Int.natCast_pow]; rfl
  have e2 : (x.toNat : Int) / 2 ^ (32 - q) = ((x.toNat / 2 ^ p : Nat) : Int) := by
    rw [show 32 - q = p by omega, Int.natCast_ediv, Int.natCast_pow]; rfl
  rw [e1, e2, u32_or_nat _ _ (Nat.mod_lt _ (by decide)) (Nat.lt_of_le_of_lt (Nat.div_le_self _ _) hx)]
  congr 1
  rw [BitVec.rotateRight_def, BitVec.toNat_or, BitVec.toNat_shiftLeft, BitVec.toNat_ushiftRight, Nat.mod_eq_of_lt (by omega : p < 32), Nat.shiftRight_eq_div_pow, Nat.shiftLeft_eq, Nat.or_comm, hq]

/-- Shifted: noughts come in. -/
def sr (x : W32) (p : Nat) : W32 := x >>> p
theorem wi_shr (x : W32) (p : Nat) : wi x / 2 ^ p = wi (sr x p) := by
  unfold wi sr; rw [BitVec.toNat_ushiftRight, Nat.shiftRight_eq_div_pow, Int.natCast_ediv, Int.natCast_pow]; rfl

theorem cw_of {m n : Int} (h : m = n) : Ending.returned (.int .u32 m) = .returned (.int .u32 n) := by rw [h]

/-- A byte put behind a word's bytes. -/
def inB (x : W32) (b : UInt8) : W32 := x <<< 8 ||| BitVec.ofNat 32 b.toNat
theorem wi_inB (x : W32) (b : UInt8) : bits .or .u32 (wi x * 256 % 4294967296) (b.toNat : Int) = wi (inB x b) := by
  have hb := b.toNat_lt
  have e1 : wi x * (256 : Int) % (4294967296 : Int) = wi (x <<< 8) := by
    unfold wi
    rw [BitVec.toNat_shiftLeft, Nat.shiftLeft_eq]
    omega
  have e2 : (b.toNat : Int) = wi (BitVec.ofNat 32 b.toNat) := by
    unfold wi
    rw [BitVec.toNat_ofNat, Nat.mod_eq_of_lt (by omega)]
  rw [e1, e2, wi_or]
  rfl

end Go.Proofs.YtblclinfcdalaaaDoor
