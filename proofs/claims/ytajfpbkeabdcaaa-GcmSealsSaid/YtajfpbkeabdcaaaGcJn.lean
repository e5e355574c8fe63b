/-
  Two texts added byte by byte, in rounds; own bytes at an address.
-/
import Derived.Test.YtajfpbkeabdcaaaGcWord
import Derived.Test.YtajfpbkeabdcaaaOwn
import Derived.Test.YtajfpbkeabdcaaaProg
namespace Go.Proofs.Ytajfpbkeabdcaaa
open Go.RowKit

/-- Two texts added, behind k bytes. -/
def jnN (a b : List UInt8) : Nat → List UInt8
  | 0 => a
  | k + 1 => (jnN a b k).set k ((jnN a b k).getD k 0 ^^^ b.getD k 0)
theorem jnN_len (a b : List UInt8) (k : Nat) : (jnN a b k).length = a.length := by
  induction k with
  | zero => rfl
  | succ k ih => simp [jnN, ih]
theorem jnN_get (a b : List UInt8) (hl : a.length = b.length) (k : Nat) (hk : k ≤ a.length) (i : Nat) : (jnN a b k).getD i 0 = if i < k then a.getD i 0 ^^^ b.getD i 0 else a.getD i 0 := by
  induction k with
  | zero => simp [jnN]
  | succ k ih =>
    have h := ih (by omega)
    rw [jnN, List.getD_eq_getElem?_getD]
    by_cases hik : k = i
    · subst hik
      rw [List.getElem?_set_self (by rw [jnN_len]; omega), if_pos (by omega), Option.getD_some, h, if_neg (by omega)]
    · rw [List.getElem?_set_ne hik, ← List.getD_eq_getElem?_getD, h]
      by_cases h2 : i < k
      · rw [if_pos h2, if_pos (by omega)]
      · rw [if_neg h2, if_neg (by omega)]
theorem jn_all (a b : List UInt8) (hl : a.length = b.length) : jnN a b a.length = xoG a b := by
  apply List.ext_getElem (by rw [jnN_len]; simp [xoG]; omega)
  intro i h1 h2
  have h3 : i < a.length := by rw [jnN_len] at h1; exact h1
  have h := jnN_get a b hl a.length (Nat.le_refl _) i
  rw [if_pos h3, List.getD_eq_getElem?_getD, List.getElem?_eq_getElem h1, Option.getD_some] at h
  have h4 : (xoG a b)[i] = a[i] ^^^ b[i] := by unfold xoG; exact List.getElem_zipWith
  rw [h, h4, List.getD_eq_getElem?_getD, List.getElem?_eq_getElem h3, List.getD_eq_getElem?_getD, List.getElem?_eq_getElem (by omega)]
  rfl

/-- Own bytes at A, in a block from base on. -/
def ShG (w : World) (A : Option Addr) (base : Nat) (L : List UInt8) : Prop := L ≠ [] → ∃ g, A = some ⟨g, 0, none⟩ ∧ Pb w g 5 L ∧ base ≤ g
theorem ShG.sl {w : World} {A : Option Addr} {base : Nat} {L : List UInt8} (h : ShG w A base L) : Sl w w.heap.size A L := by
  intro hne
  obtain ⟨g, rfl, hp, _⟩ := h (by intro e; rw [e] at hne; simp at hne)
  exact hp.sl hne

end Go.Proofs.Ytajfpbkeabdcaaa
