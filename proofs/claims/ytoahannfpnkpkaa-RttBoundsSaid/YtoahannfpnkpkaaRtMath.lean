/-
  Layer 13 in plain numbers: a way, a sample taken up, what is told of it. No program is named here.
-/
import Derived.Test.YtoahannfpnkpkaaWords
namespace Go.Proofs.Ytoahannfpnkpkaa

/-- The most ticks that are told apart. -/
def mT : Nat := 1099511627776

/-- A way. -/
structure RS where
  has : Bool
  la : Nat
  mn : Nat
  sm : Nat
  va : Nat

def RS.new : RS := ⟨false, 0, 0, 0, 0⟩

/-- Of n parts all but one are old. -/
def meanN (old next n : Nat) : Nat := ((n - 1) * old + next) / n
def apartN (a b : Nat) : Nat := max a b - min a b

theorem mean_is (old next : Nat) {n : Nat} (hn : 0 < n) : (n - 1) * (old / n) + next / n + ((n - 1) * (old % n) + next % n) / n = meanN old next n := by
  unfold meanN
  have h1 : (n - 1) * old + next = n * ((n - 1) * (old / n) + next / n) + ((n - 1) * (old % n) + next % n) := by
    have e1 := Nat.div_add_mod old n
    have e2 := Nat.div_add_mod next n
    calc (n - 1) * old + next = (n - 1) * (n * (old / n) + old % n) + (n * (next / n) + next % n) := by rw [e1, e2]
      _ = _ := by
        rw [Nat.mul_add, Nat.mul_add, ← Nat.mul_assoc, ← Nat.mul_assoc, Nat.mul_comm (n - 1) n]
        omega
  rw [h1, Nat.add_comm (n * _), Nat.add_mul_div_left _ _ hn, Nat.add_comm]

theorem mean4_le {a b m : Nat} (ha : a ≤ m) (hb : b ≤ m) : meanN a b 4 ≤ m := by unfold meanN; omega
theorem mean8_le {a b m : Nat} (ha : a ≤ m) (hb : b ≤ m) : meanN a b 8 ≤ m := by unfold meanN; omega
theorem apart_le {a b m : Nat} (ha : a ≤ m) (hb : b ≤ m) : apartN a b ≤ m := by unfold apartN; omega

/-- What is taken for a sample of x, of which the other side waited d. -/
def adjN (mn x d : Nat) : Nat := if mn + d ≤ x then x - d else x

/-- A sample taken up. -/
def sampS (s : RS) (l d : Nat) : RS :=
  if s.has then ⟨true, min l mT, min s.mn (min l mT), meanN s.sm (adjN (min s.mn (min l mT)) (min l mT) (min d mT)) 8, meanN s.va (apartN s.sm (adjN (min s.mn (min l mT)) (min l mT) (min d mT))) 4⟩
  else ⟨true, min l mT, min l mT, min l mT, min l mT / 2⟩

/-- Doubled so often. -/
def dblN (t k : Nat) : Nat := if mT / 2 ^ k < t then mT else t * 2 ^ k

/-- What is doubled. -/
def sumN (s : RS) (d : Nat) : Nat :=
  if s.has then min s.sm mT + max (4 * min s.va mT) 1000 + min d mT else 333000 + max (4 * 166500) 1000 + min d mT
def ptoN (s : RS) (d k : Nat) : Nat := dblN (sumN s d) k
def wayN (s : RS) : Nat := if s.has then max s.la s.sm else 333000
def lossN (s : RS) : Nat := max 1000 (wayN s + min (wayN s / 8) (18446744073709551615 - wayN s))

theorem dbl_le (t k : Nat) : dblN t k ≤ mT := by
  unfold dblN
  split
  · exact Nat.le_refl _
  · have h : t ≤ mT / 2 ^ k := by omega
    exact Nat.le_trans (Nat.mul_le_mul_right _ h) (Nat.div_mul_le_self _ _)
theorem dbl_iff (t k : Nat) : mT / 2 ^ k < t ↔ mT < t * 2 ^ k := by
  rw [Nat.div_lt_iff_lt_mul (Nat.two_pow_pos k)]
theorem dbl_min (t k : Nat) : dblN t k = min (t * 2 ^ k) mT := by
  unfold dblN
  by_cases h : mT / 2 ^ k < t
  · rw [if_pos h]
    rw [dbl_iff] at h
    omega
  · rw [if_neg h]
    rw [dbl_iff] at h
    omega
theorem dbl_rise (t k : Nat) : dblN t k ≤ dblN t (k + 1) ∧ dblN t (k + 1) ≤ 2 * dblN t k := by
  rw [dbl_min, dbl_min, Nat.pow_succ, ← Nat.mul_assoc]
  omega
theorem dbl_least {t m : Nat} (h : m ≤ t) (hm : m ≤ mT) (k : Nat) : m ≤ dblN t k := by
  rw [dbl_min]
  have h1 : 1 ≤ 2 ^ k := Nat.two_pow_pos k
  have h2 : t * 1 ≤ t * 2 ^ k := Nat.mul_le_mul_left _ h1
  omega
theorem sum_least (s : RS) (d : Nat) : 1000 ≤ sumN s d := by
  unfold sumN
  split <;> omega
theorem sum_top (s : RS) (d : Nat) : sumN s d < 2 ^ 43 := by
  unfold sumN mT
  split <;> omega

end Go.Proofs.Ytoahannfpnkpkaa
