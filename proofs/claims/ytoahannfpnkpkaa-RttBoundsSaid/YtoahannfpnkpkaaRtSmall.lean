/-
  The small functions of layer 13.
-/
import Derived.Test.YtoahannfpnkpkaaWh
import Derived.Test.YtoahannfpnkpkaaRtMath
import Derived.Deep.RegionLaw
import Derived.Deep.Cut
import Derived.BigQuiet
import Derived.Deep.QuietTactic
import Derived.Test.YtoahannfpnkpkaaChecked
namespace Go.Proofs.Ytoahannfpnkpkaa
open Go.RowKit
set_option linter.unusedVariables false

theorem pow_cut (k : Nat) : mT / 2 ^ min k 64 = mT / 2 ^ k := by
  rcases Nat.lt_or_ge k 64 with h | h
  · rw [Nat.min_eq_left (by omega)]
  · rw [Nat.min_eq_right h]
    have h1 : 2 ^ 64 ≤ 2 ^ k := Nat.pow_le_pow_right (by omega) h
    rw [Nat.div_eq_of_lt (by unfold mT; omega), Nat.div_eq_of_lt (by unfold mT; omega)]
theorem pow_cast (k : Nat) : (1099511627776 : Int) / 2 ^ min k 64 = ((mT / 2 ^ k : Nat) : Int) := by
  rw [← pow_cut, Int.natCast_ediv, Int.natCast_pow]
  rfl

theorem doubled_any (w : World) (t k : Nat) (ht : t < 2 ^ 43) :
    Calls Try.prog 13 #[.int .u64 (t : Int), .int .u64 (k : Int)] w fun e w' => e = .returned (.int .u64 (dblN t k : Int)) ∧ w = w' := by
  go_enter Try.func13, Try.ntmps13
  go_wp2
  · rename_i h
    go_ret
    have h1 : mT / 2 ^ k < t := by
      rw [pow_cast] at h
      omega
    refine ⟨?_, rfl⟩
    unfold dblN
    rw [if_pos h1]
    rfl
  · rename_i h
    go_ret
    have h1 : t ≤ mT / 2 ^ k := by
      rw [pow_cast] at h
      omega
    refine ⟨congrArg (fun z => Ending.returned (Value.int IntKind.u64 z)) (?_ : (_ : Int) = _), rfl⟩
    have h2 : t * 2 ^ k ≤ mT := Nat.le_trans (Nat.mul_le_mul_right _ h1) (Nat.div_mul_le_self _ _)
    have h3 : (t : Int) * 2 ^ min k 64 = ((t * 2 ^ k : Nat) : Int) := by
      rcases Nat.lt_or_ge k 64 with hk | hk
      · rw [Nat.min_eq_left (by omega), Int.natCast_mul, Int.natCast_pow]
        rfl
      · have h4 : 2 ^ 64 ≤ 2 ^ k := Nat.pow_le_pow_right (by omega) hk
        have h5 : mT / 2 ^ k = 0 := Nat.div_eq_of_lt (by unfold mT; omega)
        obtain rfl : t = 0 := by omega
        simp
    have h6 : ((t * 2 ^ k : Nat) : Int) ≤ 1099511627776 := by unfold mT at h2; omega
    unfold dblN
    rw [if_neg (by omega), h3, IntKind.wrap_u64]
    omega

theorem apart_any (w : World) (a b : Nat) (ha : a ≤ 18446744073709551615) (hb : b ≤ 18446744073709551615) :
    Calls Try.prog 11 #[.int .u64 (a : Int), .int .u64 (b : Int)] w fun e w' => e = .returned (.int .u64 (apartN a b : Int)) ∧ w = w' := by
  go_enter Try.func11, Try.ntmps11
  go_wp2
  all_goals
    go_ret
    refine ⟨congrArg (fun z => Ending.returned (Value.int IntKind.u64 z)) (?_ : (_ : Int) = _), rfl⟩
    unfold apartN
    omega

theorem mean4_any (w : World) (o x : Nat) (ho : o ≤ 18446744073709551615) (hx : x ≤ 18446744073709551615) :
    Calls Try.prog 10 #[.int .u64 (o : Int), .int .u64 (x : Int), .int .u64 4] w fun e w' => e = .returned (.int .u64 (meanN o x 4 : Int)) ∧ Below w.heap.size w w' := by
  go_enter Try.func10, Try.ntmps10
  go_upto_region 1 with (fail)
  go_quiet (fail)
  go_wp2
  go_ret
  refine ⟨congrArg (fun z => Ending.returned (Value.int IntKind.u64 z)) (?_ : (_ : Int) = _), below_drewN (Below.refl _ _) _⟩
  unfold meanN
  omega

theorem mean8_any (w : World) (o x : Nat) (ho : o ≤ 18446744073709551615) (hx : x ≤ 18446744073709551615) :
    Calls Try.prog 10 #[.int .u64 (o : Int), .int .u64 (x : Int), .int .u64 8] w fun e w' => e = .returned (.int .u64 (meanN o x 8 : Int)) ∧ Below w.heap.size w w' := by
  go_enter Try.func10, Try.ntmps10
  go_upto_region 1 with (fail)
  go_quiet (fail)
  go_wp2
  go_ret
  refine ⟨congrArg (fun z => Ending.returned (Value.int IntKind.u64 z)) (?_ : (_ : Int) = _), below_drewN (Below.refl _ _) _⟩
  unfold meanN
  omega

/-- A way's cells. -/
def rRow (s : RS) : Array Value := #[.bool s.has, .int .u64 (s.la : Int), .int .u64 (s.mn : Int), .int .u64 (s.sm : Int), .int .u64 (s.va : Int)]

/-- The way lies in block g. -/
def RAt (w : World) (g : Nat) (s : RS) : Prop := Wh w g 28 (rRow s)

theorem RAt.lt {w : World} {g : Nat} {s : RS} (h : RAt w g s) : g < w.heap.size := Wh.lt h
theorem RAt.below {w w' : World} {g : Nat} {s : RS} (h : RAt w g s) (hb : Below w.heap.size w w') : RAt w' g s := Wh.below h hb (Wh.lt h)
theorem RAt.c0 {w : World} {g : Nat} {s : RS} (h : RAt w g s) : w.cell? ⟨g, 0, none⟩ = some (.bool s.has) := (Wh.cell h 0).trans rfl
theorem RAt.c1 {w : World} {g : Nat} {s : RS} (h : RAt w g s) : w.cell? ⟨g, 1, none⟩ = some (.int .u64 (s.la : Int)) := (Wh.cell h 1).trans rfl
theorem RAt.c2 {w : World} {g : Nat} {s : RS} (h : RAt w g s) : w.cell? ⟨g, 2, none⟩ = some (.int .u64 (s.mn : Int)) := (Wh.cell h 2).trans rfl
theorem RAt.c3 {w : World} {g : Nat} {s : RS} (h : RAt w g s) : w.cell? ⟨g, 3, none⟩ = some (.int .u64 (s.sm : Int)) := (Wh.cell h 3).trans rfl
theorem RAt.c4 {w : World} {g : Nat} {s : RS} (h : RAt w g s) : w.cell? ⟨g, 4, none⟩ = some (.int .u64 (s.va : Int)) := (Wh.cell h 4).trans rfl
theorem RAt.fz {w : World} {g : Nat} {s : RS} (h : RAt w g s) (i : Nat) : w.frozen? ⟨g, i, none⟩ = false := Wh.frozen h i

theorem rknown_nil (w : World) :
    Calls Try.prog 12 #[.pointer none] w fun e w' => e = .returned (.bool false) ∧ w = w' := by
  go_enter Try.func12, Try.ntmps12
  go_wp2
  go_ret
  exact ⟨rfl, rfl⟩
theorem rknown_any (w : World) (g : Nat) (s : RS) (h : RAt w g s) :
    Calls Try.prog 12 #[.pointer (some ⟨g, 0, none⟩)] w fun e w' => e = .returned (.bool s.has) ∧ w = w' := by
  have h0 := h.c0
  clear h
  go_enter Try.func12, Try.ntmps12
  go_wp2
  go_ret
  exact ⟨rfl, rfl⟩

end Go.Proofs.Ytoahannfpnkpkaa
