/-
  HMAC and HKDF as lists of bytes: the spec.
-/
import Derived.Test.YtblclinfcdalaaaDoorShConst
namespace Go.Proofs.YtblclinfcdalaaaDoor
set_option linter.unusedVariables false

/-- A key, or its sum. -/
def keyK (ks : List W32) (key : List UInt8) : List UInt8 := if 64 < key.length then sumK ks key else key
/-- A key's block. -/
def blockK (ks : List W32) (key : List UInt8) : List UInt8 := keyK ks key ++ List.replicate (64 - (keyK ks key).length) 0
def mixB (b : List UInt8) (o : UInt8) : List UInt8 := b.map (· ^^^ o)
/-- The MAC. -/
def macK (ks : List W32) (key text : List UInt8) : List UInt8 := sumK ks (mixB (blockK ks key) 92 ++ sumK ks (mixB (blockK ks key) 54 ++ text))
/-- T0 (nothing), T1, T2 .. -/
def tK (ks : List W32) (s info : List UInt8) : Nat → List UInt8
  | 0 => []
  | i + 1 => macK ks s (tK ks s info i ++ (info ++ [UInt8.ofNat (i + 1)]))
/-- T1 .. Ti, one behind the other. -/
def outK (ks : List W32) (s info : List UInt8) : Nat → List UInt8
  | 0 => []
  | i + 1 => outK ks s info i ++ tK ks s info (i + 1)
/-- What is expanded. -/
def expK (ks : List W32) (s info : List UInt8) (n : Nat) : List UInt8 := (outK ks s info ((n + 31) / 32)).take n
def expI (ks : List W32) (s info : List UInt8) (n : Int) : List UInt8 := if n < 1 ∨ 8160 < n then [] else expK ks s info n.toNat
/-- A label's info. -/
def labK (label ctx : List UInt8) (n : Nat) : List UInt8 := [UInt8.ofNat (n / 256), UInt8.ofNat n, UInt8.ofNat (6 + label.length), 116, 108, 115, 49, 51, 32] ++ (label ++ (UInt8.ofNat ctx.length :: ctx))
def labI (ks : List W32) (s label ctx : List UInt8) (n : Int) : List UInt8 := if n < 1 ∨ 8160 < n ∨ 249 < label.length ∨ 255 < ctx.length then [] else expK ks s (labK label ctx n.toNat) n.toNat

theorem sumK_32 (ks : List W32) (L : List UInt8) : (sumK ks L).length = 32 := bytesS_len _
theorem keyK_len (ks : List W32) (key : List UInt8) : (keyK ks key).length ≤ 64 := by
  unfold keyK; split
  · rw [sumK_32]; omega
  · omega
theorem blockK_len (ks : List W32) (key : List UInt8) : (blockK ks key).length = 64 := by
  unfold blockK; rw [List.length_append, List.length_replicate]; have := keyK_len ks key; omega
theorem mixB_len (b : List UInt8) (o : UInt8) : (mixB b o).length = b.length := List.length_map ..
theorem macK_len (ks : List W32) (key text : List UInt8) : (macK ks key text).length = 32 := sumK_32 _ _
theorem tK_len (ks : List W32) (s info : List UInt8) (i : Nat) : (tK ks s info (i + 1)).length = 32 := macK_len _ _ _
theorem tK_le (ks : List W32) (s info : List UInt8) (i : Nat) : (tK ks s info i).length ≤ 32 := by
  cases i with
  | zero => simp [tK]
  | succ i => rw [tK_len]; omega
theorem outK_len (ks : List W32) (s info : List UInt8) (i : Nat) : (outK ks s info i).length = 32 * i := by
  induction i with
  | zero => rfl
  | succ i ih => rw [outK, List.length_append, ih, tK_len]; omega
theorem expK_len (ks : List W32) (s info : List UInt8) (n : Nat) : (expK ks s info n).length = n := by
  unfold expK; rw [List.length_take, outK_len]; omega
theorem outK_pre (ks : List W32) (s info : List UInt8) (i j : Nat) (h : i ≤ j) : (outK ks s info j).take (32 * i) = outK ks s info i := by
  induction j with
  | zero => obtain rfl : i = 0 := by omega
            rfl
  | succ j ih =>
    rcases Nat.lt_or_ge j i with hj | hj
    · obtain rfl : i = j + 1 := by omega
      rw [← outK_len ks s info (j + 1), List.take_length]
    · rw [outK, List.take_append_of_le_length (by rw [outK_len]; omega), ih hj]
theorem outK_take (ks : List W32) (s info : List UInt8) (n i : Nat) (h : n ≤ 32 * i) : (outK ks s info i).take n = expK ks s info n := by
  have hi : (n + 31) / 32 ≤ i := by omega
  unfold expK
  rw [← outK_pre ks s info _ i hi, List.take_take, Nat.min_eq_left (by omega)]
/-- Fewer bytes are the first ones of more. -/
theorem expK_first (ks : List W32) (s info : List UInt8) (n m : Nat) (h : n ≤ m) : (expK ks s info m).take n = expK ks s info n := by
  rw [expK, List.take_take, Nat.min_eq_left h, outK_take _ _ _ _ _ (by omega)]
/-- What is out behind i blocks, cut to n bytes. -/
theorem exp_step (ks : List W32) (s info : List UInt8) (n i : Nat) (h : 32 * i < n) :
    (outK ks s info (i + 1)).take n = (outK ks s info i).take n ++ (tK ks s info (i + 1)).take (min 32 (n - 32 * i)) := by
  rw [outK, List.take_append, outK_len]
  congr 1
  rcases Nat.le_total 32 (n - 32 * i) with h1 | h1
  · rw [Nat.min_eq_left h1, List.take_of_length_le (by rw [tK_len]; exact h1), List.take_of_length_le (by rw [tK_len]; omega)]
  · rw [Nat.min_eq_right h1]

/-- A key of more than 64 bytes is as its sum. -/
theorem keyK_sum (ks : List W32) (key : List UInt8) (h : 64 < key.length) : blockK ks (sumK ks key) = blockK ks key := by
  have h1 : keyK ks (sumK ks key) = sumK ks key := if_neg (by rw [sumK_32]; omega)
  have h2 : keyK ks key = sumK ks key := if_pos h
  unfold blockK
  rw [h1, h2]
theorem macK_sum (ks : List W32) (key text : List UInt8) (h : 64 < key.length) : macK ks (sumK ks key) text = macK ks key text := by
  unfold macK
  rw [keyK_sum ks key h]
/-- One of fewer as with a nought behind. -/
theorem blockK_zero (ks : List W32) (key : List UInt8) (h : key.length < 64) : blockK ks (key ++ [0]) = blockK ks key := by
  have h1 : keyK ks (key ++ [0]) = key ++ [0] := if_neg (by rw [List.length_append, List.length_singleton]; omega)
  have h2 : keyK ks key = key := if_neg (by omega)
  unfold blockK
  rw [h1, h2, List.length_append, List.length_singleton, List.append_assoc]
  congr 1
  obtain ⟨k, hk⟩ : ∃ k, 64 - key.length = k + 1 := ⟨63 - key.length, by omega⟩
  rw [hk, show 64 - (key.length + 1) = k by omega, List.replicate_succ]
  rfl
theorem macK_zero (ks : List W32) (key text : List UInt8) (h : key.length < 64) : macK ks (key ++ [0]) text = macK ks key text := by
  unfold macK
  rw [blockK_zero ks key h]
/-- A block's bytes one by one. -/
theorem blockK_at (ks : List W32) (key : List UInt8) (i : Nat) (h : i < 64) : (blockK ks key).getD i 0 = (keyK ks key).getD i 0 := by
  unfold blockK
  rw [List.getD_eq_getElem?_getD, List.getD_eq_getElem?_getD, List.getElem?_append]
  split
  · rfl
  · rename_i h1
    rw [List.getElem?_replicate, if_pos (by omega), List.getElem?_eq_none (by omega)]
    rfl

theorem mac_hi : macK kW (List.replicate 20 11) [72, 105, 32, 84, 104, 101, 114, 101] = [176, 52, 76, 97, 216, 219, 56, 83, 92, 168, 175, 206, 175, 11, 241, 43, 136, 29, 194, 0, 201, 131, 61, 167, 38, 233, 55, 108, 46, 50, 207, 247] := by decide +kernel
def exSalt : List UInt8 := [0, 1, 2, 3, 4, 5, 6, 7, 8, 9, 10, 11, 12]
def exInfo : List UInt8 := [240, 241, 242, 243, 244, 245, 246, 247, 248, 249]
def exSecret : List UInt8 := [7, 119, 9, 54, 44, 46, 50, 223, 13, 220, 63, 13, 196, 123, 186, 99, 144, 182, 199, 59, 181, 15, 156, 49, 34, 236, 132, 74, 215, 194, 179, 229]
theorem ext_ex : macK kW exSalt (List.replicate 22 11) = exSecret := by decide +kernel
theorem exp_ex : expK kW exSecret exInfo 42 = [60, 178, 95, 37, 250, 172, 213, 122, 144, 67, 79, 100, 208, 54, 47, 42, 45, 45, 10, 144, 207, 26, 90, 76, 93, 176, 45, 86, 236, 196, 197, 191, 52, 0, 114, 8, 213, 184, 135, 24, 88, 101] := by decide +kernel
end Go.Proofs.YtblclinfcdalaaaDoor
