/-
  Plain mathematics for the document's own words of a block. No program is named here.
-/
import Derived.Test.YtblclinfcdalaaaDoorShText
namespace Go.Proofs.YtblclinfcdalaaaDoor
open Go.RowKit
set_option linter.unusedVariables false

/-- A word behind r of its bytes. -/
def partW (bs : List UInt8) (j : Nat) : Nat → W32
  | 0 => 0
  | r + 1 => inB (partW bs j r) (bs.getD (4 * j + r) 0)

theorem ldW_at (bs : List UInt8) (j : Nat) (hj : j < 16) (k : Nat) (hk : k ≤ 64) : (ldW bs k).getD j 0 = partW bs j (min (k - 4 * j) 4) := by
  induction k with
  | zero =>
    rw [Nat.zero_sub, show min 0 4 = 0 from rfl, partW, ldW, List.getD_eq_getElem?_getD, List.getElem?_replicate]
    split <;> rfl
  | succ k ih =>
    have ih := ih (by omega)
    have hl := ldW_len bs k
    rw [ldW]
    by_cases h : k / 4 = j
    · subst h
      have e : (List.set (ldW bs k) (k / 4) (inB ((ldW bs k).getD (k / 4) 0) (bs.getD k 0))).getD (k / 4) 0 = inB ((ldW bs k).getD (k / 4) 0) (bs.getD k 0) := by
        have : k / 4 < (ldW bs k).length := by omega
        simp [List.getD, this]
      rw [e, ih]
      rw [show min (k + 1 - 4 * (k / 4)) 4 = min (k - 4 * (k / 4)) 4 + 1 by omega, partW, show 4 * (k / 4) + min (k - 4 * (k / 4)) 4 = k by omega]
    · have e : (List.set (ldW bs k) (k / 4) (inB ((ldW bs k).getD (k / 4) 0) (bs.getD k 0))).getD j 0 = (ldW bs k).getD j 0 := by
        simp [List.getD, h]
      rw [e, ih]
      congr 1
      omega

theorem mW_at (bs : List UInt8) (j : Nat) (hj : j < 16) : (mW bs).getD j 0 = inB (inB (inB (inB 0 (bs.getD (4 * j) 0)) (bs.getD (4 * j + 1) 0)) (bs.getD (4 * j + 2) 0)) (bs.getD (4 * j + 3) 0) := by
  have h := ldW_at bs j hj 64 (Nat.le_refl _)
  have e : (mW bs).getD j 0 = (ldW bs 64).getD j 0 := by
    unfold mW
    simp [List.getD, hj]
  rw [e, h, show min (64 - 4 * j) 4 = 4 by omega]
  rfl

theorem wi_inB_small (x : W32) (b : UInt8) (h : wi x < 16777216) : wi (inB x b) = wi x * 256 + (b.toNat : Int) := by
  have hb := b.toNat_lt
  unfold wi inB at *
  rw [BitVec.toNat_or, BitVec.toNat_shiftLeft, BitVec.toNat_ofNat, Nat.shiftLeft_eq, Nat.mod_eq_of_lt (by omega : x.toNat * 2 ^ 8 < 2 ^ 32), Nat.mod_eq_of_lt (by omega : b.toNat < 2 ^ 32)]
  rw [nat_join 8 (x.toNat * 2 ^ 8) b.toNat (Nat.mul_mod_left _ _) hb]
  omega

theorem wi_inB4 (b0 b1 b2 b3 : UInt8) : wi (inB (inB (inB (inB 0 b0) b1) b2) b3) = (((b0.toNat : Int) * 256 + (b1.toNat : Int)) * 256 + (b2.toNat : Int)) * 256 + (b3.toNat : Int) := by
  have h0 := b0.toNat_lt
  have h1 := b1.toNat_lt
  have h2 := b2.toNat_lt
  have z : wi 0 = 0 := rfl
  have e0 := wi_inB_small 0 b0 (by rw [z]; decide)
  have e1 := wi_inB_small (inB 0 b0) b1 (by rw [e0, z]; omega)
  have e2 := wi_inB_small (inB (inB 0 b0) b1) b2 (by rw [e1, e0, z]; omega)
  have e3 := wi_inB_small (inB (inB (inB 0 b0) b1) b2) b3 (by rw [e2, e1, e0, z]; omega)
  rw [e3, e2, e1, e0, z]
  omega

theorem wi_word4 (b0 b1 b2 b3 : UInt8) : IntKind.u32.wrap (IntKind.u32.wrap (IntKind.u32.wrap (IntKind.u32.wrap (IntKind.u32.wrap (IntKind.u32.wrap (IntKind.u32.wrap (b0.toNat : Int) * 256) + IntKind.u32.wrap (b1.toNat : Int)) * 256) + IntKind.u32.wrap (b2.toNat : Int)) * 256) + IntKind.u32.wrap (b3.toNat : Int)) = wi (inB (inB (inB (inB 0 b0) b1) b2) b3) := by
  have h0 := b0.toNat_lt
  have h1 := b1.toNat_lt
  have h2 := b2.toNat_lt
  have h3 := b3.toNat_lt
  rw [wi_inB4]
  simp only [IntKind.wrap_u32']
  omega

theorem take_one {α : Type} (l : List α) (n : Nat) (d : α) (h : n < l.length) : l.take (n + 1) = l.take n ++ [l.getD n d] := by
  rw [List.take_succ_eq_append_getElem h]
  simp [List.getD, h]

end Go.Proofs.YtblclinfcdalaaaDoor
