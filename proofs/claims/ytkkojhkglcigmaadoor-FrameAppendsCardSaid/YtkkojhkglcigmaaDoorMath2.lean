/-
  What was written as a number's shortest bytes is read as that number: plain numbers and lists.
-/
import Derived.Test.YtkkojhkglcigmaaDoorMath
namespace Go.Proofs.YtkkojhkglcigmaaDoor

theorem val_be (N : Nat) : ∀ k a : Nat, val a (be N k) = a * 256 ^ k + N % 256 ^ k := by
  intro k
  induction k with
  | zero => intro a; simp [be, val, Nat.mod_one]
  | succ k ih =>
    intro a
    show val (256 * a + (UInt8.ofNat (N / 256 ^ k % 256)).toNat) (be N k) = _
    rw [ih, be_head, Nat.mod_pow_succ, Nat.add_mul, Nat.pow_succ, Nat.mul_comm (256 ^ k) 256, ← Nat.mul_assoc, Nat.mul_comm a 256, Nat.mul_comm (N / 256 ^ k % 256)]
    omega

theorem be_ne {N k : Nat} (h : 1 ≤ k) : be N k = UInt8.ofNat (N / 256 ^ (k - 1) % 256) :: be N (k - 1) := by
  obtain ⟨j, rfl⟩ : ∃ j, k = j + 1 := ⟨k - 1, by omega⟩
  rfl

theorem lg_pow {n : Nat} (h : n ≤ 4611686018427387903) : 2 ^ lg n = szN n := by
  rcases lg_cases h with ⟨h1, h2⟩ | ⟨h1, h2⟩ | ⟨h1, h2⟩ | ⟨h1, h2⟩ <;> rw [h1, h2]

/-- The head of a number's shortest bytes. -/
theorem enc_head {n : Nat} (h : n ≤ 4611686018427387903) : ∃ x : UInt8, enc n = x :: be n (szN n - 1) ∧ x.toNat % 64 = n / 256 ^ (szN n - 1) ∧ cls x = szN n := by
  have hp := szN_pos h
  have hlt := szN_lt h
  have hl3 : lg n ≤ 3 := by rcases lg_cases h with ⟨_, h2⟩ | ⟨_, h2⟩ | ⟨_, h2⟩ | ⟨_, h2⟩ <;> omega
  have hs : szN n = (szN n - 1) + 1 := by omega
  have h64 : n < 64 * 256 ^ (szN n - 1) := by
    rw [show 8 * szN n - 2 = 6 + 8 * (szN n - 1) by omega, Nat.pow_add, Nat.pow_mul] at hlt
    exact hlt
  have hc := be_class n (szN n - 1) (lg n) h64 hl3
  rw [← hs] at hc
  have hd : n / 256 ^ (szN n - 1) < 64 := by rw [Nat.div_lt_iff_lt_mul (Nat.pow_pos (by omega))]; exact h64
  rw [Nat.mod_eq_of_lt (show n / 256 ^ (szN n - 1) < 256 by omega)] at hc
  have ht : (UInt8.ofNat (n / 256 ^ (szN n - 1) + 64 * lg n)).toNat = n / 256 ^ (szN n - 1) + 64 * lg n := by
    rw [UInt8.toNat_ofNat', Nat.mod_eq_of_lt (by omega)]
  have key : ∀ q c : Nat, q < 64 → (q + 64 * c) % 64 = q ∧ (q + 64 * c) / 64 = c := by intro q c hq; omega
  refine ⟨_, hc.symm, by rw [ht]; exact (key _ _ hd).1, ?_⟩
  unfold cls
  rw [ht, (key _ _ hd).2]
  exact lg_pow h

/-- What was appended is taken as it was, whatever stands behind. -/
theorem tk_enc {n : Nat} (h : n ≤ 4611686018427387903) (r : List UInt8) : tk (enc n ++ r) = some (n, szN n) := by
  obtain ⟨x, he, hx, hc⟩ := enc_head h
  have hp := szN_pos h
  have hl : (be n (szN n - 1)).length = szN n - 1 := be_length _ _
  rw [he, List.cons_append, tk_long (by rw [List.length_append, hl]; omega), hc, hx, List.take_append_of_le_length (by omega), List.take_of_length_le (by omega), val_be]
  congr 2
  rw [Nat.mul_comm]
  exact Nat.div_add_mod n _

theorem encs_drop (l : List Nat) (k n : Nat) (h : l[k]? = some n) : encs (l.drop k) = enc n ++ encs (l.drop (k + 1)) := by
  obtain ⟨hk, he⟩ := List.getElem?_eq_some_iff.1 h
  rw [List.drop_eq_getElem_cons hk, he]
  rfl

/-- Cut short it is none. -/
theorem tk_cut {n : Nat} (h : n ≤ 4611686018427387903) (r : List UInt8) : tk ((enc n ++ r).take (szN n - 1)) = none := by
  obtain ⟨x, he, hx, hc⟩ := enc_head h
  have hp := szN_pos h
  have hl : (be n (szN n - 1)).length = szN n - 1 := be_length _ _
  by_cases h1 : szN n = 1
  · rw [h1]
    rfl
  · rw [he, List.cons_append, show szN n - 1 = (szN n - 2) + 1 by omega, List.take_succ_cons]
    refine tk_short ?_
    rw [List.length_take, List.length_append, hc]
    omega

/-- What is taken has no shorter bytes than it has. -/
theorem tk_shortest {l : List UInt8} {n k : Nat} (h : tk l = some (n, k)) : szN n ≤ k ∧ n ≤ 4611686018427387903 := by
  obtain ⟨x, t, rfl, rfl, hs, rfl⟩ := tk_some h
  have hv := val_lt (t.take (cls x - 1)) (x.toNat % 64) 64 (by omega)
  have ht : (t.take (cls x - 1)).length = cls x - 1 := by rw [List.length_take]; omega
  rw [ht] at hv
  generalize val (x.toNat % 64) (t.take (cls x - 1)) = n at *
  rcases cls_cases x with ⟨_, hc⟩ | ⟨_, hc⟩ | ⟨_, hc⟩ | ⟨_, hc⟩ <;> rw [hc] at hv ⊢
  · have h1 : n < 64 := hv
    exact ⟨by rw [szN_1 (by omega)]; omega, by omega⟩
  · have h1 : n < 16384 := hv
    refine ⟨?_, by omega⟩
    rcases szN_cases n with ⟨_, e⟩ | ⟨_, _, e⟩ | ⟨_, _, e⟩ | ⟨_, _, e⟩ | ⟨_, e⟩ <;> omega
  · have h1 : n < 1073741824 := hv
    refine ⟨?_, by omega⟩
    rcases szN_cases n with ⟨_, e⟩ | ⟨_, _, e⟩ | ⟨_, _, e⟩ | ⟨_, _, e⟩ | ⟨_, e⟩ <;> omega
  · have h1 : n < 4611686018427387904 := hv
    exact ⟨szN_le n, by omega⟩

end Go.Proofs.YtkkojhkglcigmaaDoor
