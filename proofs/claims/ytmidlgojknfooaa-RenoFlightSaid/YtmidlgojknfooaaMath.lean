/-
  Plain numbers and lists of bytes: no program is named here. A number's shortest bytes, and the number with which bytes begin, as the document's chapter 1 tells them.
-/
import Derived.Laws.BitsAllLaws
import Derived.Laws.BitsLemmas
import Derived.IntWalk
namespace Go.Proofs.Ytmidlgojknfooaa

/-- The number that bytes tell, the highest first, behind a number that was told before. -/
def val (a : Nat) (l : List UInt8) : Nat := l.foldl (fun n x => 256 * n + x.toNat) a

theorem val_nil (a : Nat) : val a [] = a := rfl
theorem val_cons (a : Nat) (x : UInt8) (l : List UInt8) : val a (x :: l) = val (256 * a + x.toNat) l := rfl
theorem val_append (a : Nat) (l m : List UInt8) : val a (l ++ m) = val (val a l) m := by simp [val, List.foldl_append]
theorem val_snoc (a : Nat) (l : List UInt8) (x : UInt8) : val a (l ++ [x]) = 256 * val a l + x.toNat := by rw [val_append]; rfl

theorem val_lt (l : List UInt8) : ∀ a m : Nat, a < m → val a l < m * 256 ^ l.length := by
  induction l with
  | nil => intro a m h; simpa [val] using h
  | cons x l ih =>
    intro a m h
    rw [val_cons, List.length_cons, Nat.pow_succ]
    have hx := x.toNat_lt
    have := ih (256 * a + x.toNat) (256 * m) (by omega)
    rw [Nat.mul_comm (256 ^ l.length) 256, ← Nat.mul_assoc, Nat.mul_comm m 256]
    exact this

theorem take_next (l : List UInt8) (k : Nat) (x : UInt8) (h : l[k]? = some x) : l.take (k + 1) = l.take k ++ [x] := by
  rw [List.take_add_one, h]; rfl

/-- How many bytes the first one tells. -/
def cls (x : UInt8) : Nat := 2 ^ (x.toNat / 64)

theorem cls_cases (x : UInt8) : (x.toNat / 64 = 0 ∧ cls x = 1) ∨ (x.toNat / 64 = 1 ∧ cls x = 2) ∨ (x.toNat / 64 = 2 ∧ cls x = 4) ∨ (x.toNat / 64 = 3 ∧ cls x = 8) := by
  have hx := x.toNat_lt
  have : x.toNat / 64 = 0 ∨ x.toNat / 64 = 1 ∨ x.toNat / 64 = 2 ∨ x.toNat / 64 = 3 := by omega
  unfold cls
  rcases this with h | h | h | h <;> rw [h] <;> simp

theorem cls_pos (x : UInt8) : 1 ≤ cls x := by rcases cls_cases x with h | h | h | h <;> omega
theorem cls_le (x : UInt8) : cls x ≤ 8 := by rcases cls_cases x with h | h | h | h <;> omega

/-- The number with which bytes begin, and how many bytes it has. -/
def tk : List UInt8 → Option (Nat × Nat)
  | [] => none
  | x :: t => if t.length + 1 < cls x then none else some (val (x.toNat % 64) (t.take (cls x - 1)), cls x)

theorem tk_nil : tk [] = none := rfl
theorem tk_short {x : UInt8} {t : List UInt8} (h : t.length + 1 < cls x) : tk (x :: t) = none := by simp [tk, h]
theorem tk_long {x : UInt8} {t : List UInt8} (h : cls x ≤ t.length + 1) : tk (x :: t) = some (val (x.toNat % 64) (t.take (cls x - 1)), cls x) := by
  simp [tk, show ¬ t.length + 1 < cls x by omega]

theorem tk_some {l : List UInt8} {n k : Nat} (h : tk l = some (n, k)) : ∃ x t, l = x :: t ∧ k = cls x ∧ cls x ≤ t.length + 1 ∧ n = val (x.toNat % 64) (t.take (cls x - 1)) := by
  cases l with
  | nil => cases h
  | cons x t =>
    by_cases hs : t.length + 1 < cls x
    · rw [tk_short hs] at h; cases h
    · rw [tk_long (by omega)] at h
      simp only [Option.some.injEq, Prod.mk.injEq] at h
      exact ⟨x, t, rfl, h.2.symm, by omega, h.1.symm⟩

theorem tk_none {x : UInt8} {t : List UInt8} (h : tk (x :: t) = none) : t.length + 1 < cls x := by
  by_cases hs : t.length + 1 < cls x
  · exact hs
  · rw [tk_long (by omega)] at h; cases h

/-- What is read in so many bytes is below 2 to the 62nd; step by step it never passes a number of 64 bits. -/
theorem val_step_lt (x : UInt8) (l : List UInt8) (h : l.length ≤ 7) : val (x.toNat % 64) l < 4611686018427387904 := by
  have h1 := val_lt l (x.toNat % 64) 64 (by omega)
  have h2 : 256 ^ l.length ≤ 256 ^ 7 := Nat.pow_le_pow_right (by omega) h
  have h3 : 64 * 256 ^ l.length ≤ 64 * 256 ^ 7 := Nat.mul_le_mul_left _ h2
  have h4 : (64 * 256 ^ 7 : Nat) = 4611686018427387904 := by decide
  omega

theorem val_step_lt6 (x : UInt8) (l : List UInt8) (h : l.length ≤ 6) : val (x.toNat % 64) l < 18014398509481984 := by
  have h1 := val_lt l (x.toNat % 64) 64 (by omega)
  have h2 : 256 ^ l.length ≤ 256 ^ 6 := Nat.pow_le_pow_right (by omega) h
  have h3 : 64 * 256 ^ l.length ≤ 64 * 256 ^ 6 := Nat.mul_le_mul_left _ h2
  have h4 : (64 * 256 ^ 6 : Nat) = 18014398509481984 := by decide
  omega

theorem or_low (a b : Nat) (ha : a % 256 = 0) (hb : b < 256) : a ||| b = a + b := by
  have hb8 : b < 2 ^ 8 := by omega
  have h := Nat.shiftLeft_add_eq_or_of_lt hb8 (a / 256)
  rw [Nat.shiftLeft_eq, show (2 : Nat) ^ 8 = 256 from rfl, Nat.div_mul_cancel (Nat.dvd_of_mod_eq_zero ha)] at h
  exact h.symm

/-- 'n<<8 | x' of numbers that have room. -/
theorem or_byte (v : Nat) (x : UInt8) (h : v < 18014398509481984) : bits .or .u64 ((v : Int) * 256) (x.toNat : Int) = ((256 * v + x.toNat : Nat) : Int) := by
  have hx := x.toNat_lt
  have e : (v : Int) * 256 = ((256 * v : Nat) : Int) := by omega
  rw [e, u64_or_nat (256 * v) x.toNat (by omega) (by omega), or_low _ _ (by omega) (by omega)]

/-- How many bytes a number's shortest ones are. -/
def szN (n : Nat) : Nat := if n ≤ 63 then 1 else if n ≤ 16383 then 2 else if n ≤ 1073741823 then 4 else if n ≤ 4611686018427387903 then 8 else 0

theorem szN_1 {n : Nat} (h : n ≤ 63) : szN n = 1 := if_pos h
theorem szN_2 {n : Nat} (h1 : ¬ n ≤ 63) (h : n ≤ 16383) : szN n = 2 := (if_neg h1).trans (if_pos h)
theorem szN_4 {n : Nat} (h1 : ¬ n ≤ 16383) (h : n ≤ 1073741823) : szN n = 4 := (if_neg (by omega)).trans ((if_neg h1).trans (if_pos h))
theorem szN_8 {n : Nat} (h1 : ¬ n ≤ 1073741823) (h : n ≤ 4611686018427387903) : szN n = 8 := (if_neg (by omega)).trans ((if_neg (by omega)).trans ((if_neg h1).trans (if_pos h)))
theorem szN_0 {n : Nat} (h : ¬ n ≤ 4611686018427387903) : szN n = 0 := (if_neg (by omega)).trans ((if_neg (by omega)).trans ((if_neg (by omega)).trans (if_neg h)))

theorem szN_cases (n : Nat) : (n ≤ 63 ∧ szN n = 1) ∨ (63 < n ∧ n ≤ 16383 ∧ szN n = 2) ∨ (16383 < n ∧ n ≤ 1073741823 ∧ szN n = 4) ∨ (1073741823 < n ∧ n ≤ 4611686018427387903 ∧ szN n = 8) ∨ (4611686018427387903 < n ∧ szN n = 0) := by
  by_cases h1 : n ≤ 63
  · exact .inl ⟨h1, szN_1 h1⟩
  by_cases h2 : n ≤ 16383
  · exact .inr (.inl ⟨by omega, h2, szN_2 h1 h2⟩)
  by_cases h3 : n ≤ 1073741823
  · exact .inr (.inr (.inl ⟨by omega, h3, szN_4 h2 h3⟩))
  by_cases h4 : n ≤ 4611686018427387903
  · exact .inr (.inr (.inr (.inl ⟨by omega, h4, szN_8 h3 h4⟩)))
  · exact .inr (.inr (.inr (.inr ⟨by omega, szN_0 h4⟩)))

/-- So many bytes of a number, the highest first. -/
def be (n : Nat) : Nat → List UInt8
  | 0 => []
  | k + 1 => UInt8.ofNat (n / 256 ^ k % 256) :: be n k

theorem be_length (n k : Nat) : (be n k).length = k := by
  induction k with
  | zero => rfl
  | succ k ih => simp [be, ih]

theorem be_head (n k : Nat) : (UInt8.ofNat (n / 256 ^ k % 256)).toNat = n / 256 ^ k % 256 := by
  rw [UInt8.toNat_ofNat']; omega

theorem be_add (n : Nat) : ∀ k m : Nat, be (n + m * 256 ^ k) k = be n k := by
  intro k
  induction k with
  | zero => intro m; rfl
  | succ k ih =>
    intro m
    have e : n + m * 256 ^ (k + 1) = n + 256 * m * 256 ^ k := by rw [Nat.pow_succ, Nat.mul_comm (256 ^ k) 256, ← Nat.mul_assoc, Nat.mul_comm m 256]
    have h2 := ih (256 * m)
    rw [← e] at h2
    have h3 : (n + m * 256 ^ (k + 1)) / 256 ^ k % 256 = n / 256 ^ k % 256 := by
      rw [e, Nat.add_mul_div_right _ _ (Nat.pow_pos (by omega))]
      omega
    show UInt8.ofNat ((n + m * 256 ^ (k + 1)) / 256 ^ k % 256) :: be (n + m * 256 ^ (k + 1)) k = UInt8.ofNat (n / 256 ^ k % 256) :: be n k
    rw [h2, h3]

/-- The head with the class added to it. -/
theorem be_class (n k c : Nat) (h : n < 64 * 256 ^ k) (hc : c ≤ 3) : UInt8.ofNat (n / 256 ^ k % 256 + 64 * c) :: be n k = be (n + c * 2 ^ (8 * (k + 1) - 2)) (k + 1) := by
  have e : c * 2 ^ (8 * (k + 1) - 2) = 64 * c * 256 ^ k := by
    rw [show 8 * (k + 1) - 2 = 6 + 8 * k by omega, Nat.pow_add, Nat.pow_mul, ← Nat.mul_assoc, Nat.mul_comm c]
  have hp : 0 < 256 ^ k := Nat.pow_pos (by omega)
  have hd : n / 256 ^ k < 64 := by rw [Nat.div_lt_iff_lt_mul hp]; exact h
  rw [e]
  show _ = UInt8.ofNat ((n + 64 * c * 256 ^ k) / 256 ^ k % 256) :: be (n + 64 * c * 256 ^ k) k
  rw [be_add, Nat.add_mul_div_right _ _ hp, Nat.mod_eq_of_lt (show n / 256 ^ k < 256 by omega), Nat.mod_eq_of_lt (show n / 256 ^ k + 64 * c < 256 by omega)]

theorem drop_set_cons {α : Type} (xs : List α) (q : Nat) (v : α) (h : q < xs.length) : (xs.set q v).drop q = v :: xs.drop (q + 1) := by
  rw [List.drop_eq_getElem_cons (by simpa using h), List.getElem_set_self, List.drop_set_of_lt (by omega)]

/-- The power of two that a number's size is. -/
def lg (n : Nat) : Nat := if n ≤ 63 then 0 else if n ≤ 16383 then 1 else if n ≤ 1073741823 then 2 else 3

theorem lg_cases {n : Nat} (h : n ≤ 4611686018427387903) : (szN n = 1 ∧ lg n = 0) ∨ (szN n = 2 ∧ lg n = 1) ∨ (szN n = 4 ∧ lg n = 2) ∨ (szN n = 8 ∧ lg n = 3) := by
  unfold lg
  rcases szN_cases n with ⟨h1, hs⟩ | ⟨h1, h2, hs⟩ | ⟨h1, h2, hs⟩ | ⟨h1, h2, hs⟩ | ⟨h1, hs⟩
  · exact .inl ⟨hs, if_pos h1⟩
  · exact .inr (.inl ⟨hs, (if_neg (by omega)).trans (if_pos h2)⟩)
  · exact .inr (.inr (.inl ⟨hs, (if_neg (by omega)).trans ((if_neg (by omega)).trans (if_pos h2))⟩))
  · exact .inr (.inr (.inr ⟨hs, (if_neg (by omega)).trans ((if_neg (by omega)).trans (if_neg (by omega)))⟩))
  · omega

theorem szN_lt {n : Nat} (h : n ≤ 4611686018427387903) : n < 2 ^ (8 * szN n - 2) := by
  rcases szN_cases n with ⟨h1, hs⟩ | ⟨h1, h2, hs⟩ | ⟨h1, h2, hs⟩ | ⟨h1, h2, hs⟩ | ⟨h1, hs⟩ <;> rw [hs]
  · show n < 64; omega
  · show n < 16384; omega
  · show n < 1073741824; omega
  · show n < 4611686018427387904; omega
  · omega

/-- A number and, in the highest two bits of its bytes, how many these are. -/
def encN (n : Nat) : Nat := n + lg n * 2 ^ (8 * szN n - 2)

/-- A number's shortest bytes. -/
def enc (n : Nat) : List UInt8 := be (encN n) (szN n)

theorem enc_length (n : Nat) : (enc n).length = szN n := be_length _ _

theorem or_size {n : Nat} (h : n ≤ 4611686018427387903) : bits .or .u64 (n : Int) (IntKind.u64.wrap ((lg n : Int) * 2 ^ (8 * szN n - 2))) = (encN n : Int) := by
  have hlt := szN_lt h
  have hj := Nat.shiftLeft_add_eq_or_of_lt hlt (lg n)
  rw [Nat.shiftLeft_eq] at hj
  have key : ∀ M : Nat, lg n * 2 ^ (8 * szN n - 2) = M → M < 18446744073709551616 → (lg n : Int) * 2 ^ (8 * szN n - 2) = (M : Int) → bits .or .u64 (n : Int) (IntKind.u64.wrap ((lg n : Int) * 2 ^ (8 * szN n - 2))) = (encN n : Int) := by
    intro M e1 e2 e3
    rw [e3, IntWalk.u64_in (M : Int) ⟨by omega, by omega⟩, u64_or_nat n M (by omega) e2, Nat.or_comm]
    rw [e1] at hj
    rw [← hj]
    unfold encN
    rw [e1, Nat.add_comm]
  rcases lg_cases h with ⟨hs, hl⟩ | ⟨hs, hl⟩ | ⟨hs, hl⟩ | ⟨hs, hl⟩
  · exact key 0 (by rw [hl]; omega) (by omega) (by rw [hl]; omega)
  · exact key 16384 (by rw [hs, hl]) (by omega) (by rw [hs, hl]; rfl)
  · exact key 2147483648 (by rw [hs, hl]) (by omega) (by rw [hs, hl]; rfl)
  · exact key 13835058055282163712 (by rw [hs, hl]) (by omega) (by rw [hs, hl]; rfl)

/-- How many bytes the shortest bytes of all numbers are. -/
def sumSz (l : List Nat) : Nat := (l.map szN).sum

theorem sumSz_snoc (l : List Nat) (n : Nat) : sumSz (l ++ [n]) = sumSz l + szN n := by simp [sumSz]

theorem szN_le (n : Nat) : szN n ≤ 8 := by
  rcases szN_cases n with ⟨h1, hs⟩ | ⟨h1, h2, hs⟩ | ⟨h1, h2, hs⟩ | ⟨h1, h2, hs⟩ | ⟨h1, hs⟩ <;> omega

theorem szN_pos {n : Nat} (h : n ≤ 4611686018427387903) : 1 ≤ szN n := by
  rcases szN_cases n with ⟨h1, hs⟩ | ⟨h1, h2, hs⟩ | ⟨h1, h2, hs⟩ | ⟨h1, h2, hs⟩ | ⟨h1, hs⟩ <;> omega

theorem sumSz_le (l : List Nat) : sumSz l ≤ 8 * l.length := by
  induction l with
  | nil => simp [sumSz]
  | cons n l ih =>
    have := szN_le n
    simp only [sumSz, List.map_cons, List.sum_cons, List.length_cons] at ih ⊢
    omega

/-- The shortest bytes of all numbers, in order. -/
def encs (l : List Nat) : List UInt8 := l.flatMap enc

theorem encs_snoc (l : List Nat) (n : Nat) : encs (l ++ [n]) = encs l ++ enc n := by simp [encs]

theorem encs_length (l : List Nat) : (encs l).length = sumSz l := by
  induction l with
  | nil => rfl
  | cons n l ih =>
    show (enc n ++ encs l).length = szN n + sumSz l
    rw [List.length_append, enc_length, ih]

theorem takeN_next (l : List Nat) (k n : Nat) (h : l[k]? = some n) : l.take (k + 1) = l.take k ++ [n] := by
  rw [List.take_add_one, h]; rfl

end Go.Proofs.Ytmidlgojknfooaa
