/-
  Blocks as lists of 16 bytes and as polynomials: sums, times x, products. Plain mathematics; no program is named here.
-/
import Derived.Test.YtajfpbkeabdcaaaGcMath
namespace Go.Proofs.Ytajfpbkeabdcaaa

/-- A list of bytes as a number, the first byte the highest. -/
def nvG : List UInt8 → Nat
  | [] => 0
  | x :: l => 2 ^ (8 * l.length) * x.toNat + nvG l
theorem nvG_lt : ∀ l : List UInt8, nvG l < 2 ^ (8 * l.length)
  | [] => by simp [nvG]
  | x :: l => by
    have h := nvG_lt l
    have hx := x.toNat_lt
    rw [nvG, List.length_cons, Nat.mul_add, Nat.pow_add]
    have : 2 ^ (8 * l.length) * x.toNat + 2 ^ (8 * l.length) ≤ 2 ^ (8 * l.length) * 2 ^ (8 * 1) := by
      rw [← Nat.mul_succ]
      exact Nat.mul_le_mul_left _ (Nat.succ_le_of_lt (by simpa using hx))
    omega
theorem nvG_bit : ∀ (l : List UInt8) (k : Nat) (x : UInt8) (t : Nat), l[k]? = some x → t < 8 → (nvG l).testBit (8 * (l.length - 1 - k) + t) = x.toNat.testBit t
  | [], k, x, t, h, _ => by simp at h
  | y :: l, 0, x, t, h, ht => by
    obtain rfl : y = x := by simpa using h
    rw [nvG, Nat.testBit_two_pow_mul_add _ (nvG_lt l), if_neg (by simp)]
    congr 1
    simp
  | y :: l, k + 1, x, t, h, ht => by
    have hk : l[k]? = some x := by simpa using h
    have hlt : k < l.length := (List.getElem?_eq_some_iff.1 hk).1
    rw [nvG, Nat.testBit_two_pow_mul_add _ (nvG_lt l), if_pos (by simp only [List.length_cons]; omega), ← nvG_bit l k x t hk ht]
    congr 1
    simp only [List.length_cons]
    omega
/-- A block. -/
def bkG (l : List UInt8) : W128 := BitVec.ofNat 128 (nvG l)
/-- Of a block of bytes, the bit of x^i. -/
def btG (l : List UInt8) (i : Nat) : Bool := (l.getD (i / 8) 0).toNat.testBit (7 - i % 8)
theorem bk_bit {l : List UInt8} (hl : l.length = 16) (i : Nat) (hi : i < 128) : (bkG l).getLsbD (127 - i) = btG l i := by
  have hk : i / 8 < l.length := by omega
  have hx : l[i / 8]? = some l[i / 8] := List.getElem?_eq_getElem hk
  unfold bkG btG
  rw [BitVec.getLsbD_ofNat, decide_eq_true (by omega), Bool.true_and, List.getD_eq_getElem?_getD, hx, Option.getD_some, ← nvG_bit l (i / 8) _ (7 - i % 8) hx (by omega)]
  congr 1
  omega
theorem bk_ext {l : List UInt8} (hl : l.length = 16) {v : W128} (h : ∀ i, i < 128 → btG l i = v.getLsbD (127 - i)) : bkG l = v := by
  apply BitVec.eq_of_getLsbD_eq
  intro j hj
  have e := h (127 - j) (by omega)
  rw [← bk_bit hl (127 - j) (by omega)] at e
  have e2 : 127 - (127 - j) = j := by omega
  rwa [e2] at e
theorem bk_inj {l m : List UInt8} (hl : l.length = 16) (hm : m.length = 16) (h : bkG l = bkG m) : l = m := by
  apply List.ext_getElem (by omega)
  intro k hk hk2
  have hb : ∀ t, t < 8 → l[k].toNat.testBit t = m[k].toNat.testBit t := fun t ht => by
    have e : (bkG l).getLsbD (127 - (8 * k + (7 - t))) = (bkG m).getLsbD (127 - (8 * k + (7 - t))) := by rw [h]
    rw [bk_bit hl _ (by omega), bk_bit hm _ (by omega)] at e
    unfold btG at e
    have a1 : (8 * k + (7 - t)) / 8 = k := by omega
    have a2 : 7 - (8 * k + (7 - t)) % 8 = t := by omega
    rw [a1, a2, List.getD_eq_getElem?_getD, List.getD_eq_getElem?_getD, List.getElem?_eq_getElem hk, List.getElem?_eq_getElem hk2] at e
    exact e
  have big : ∀ (x : UInt8) (t : Nat), ¬ t < 8 → x.toNat.testBit t = false := fun x t ht =>
    Nat.testBit_lt_two_pow (Nat.lt_of_lt_of_le x.toNat_lt (Nat.pow_le_pow_right (by omega) (by omega)))
  have hn : l[k].toNat = m[k].toNat := Nat.eq_of_testBit_eq fun t => by
    by_cases ht : t < 8
    · exact hb t ht
    · rw [big _ t ht, big _ t ht]
  exact UInt8.toNat_inj.1 hn
/-- The sum of two blocks. -/
def xoG (a b : List UInt8) : List UInt8 := List.zipWith (· ^^^ ·) a b
theorem xo_len {a b : List UInt8} (ha : a.length = 16) (hb : b.length = 16) : (xoG a b).length = 16 := by simp [xoG, ha, hb]
theorem bk_xor {a b : List UInt8} (ha : a.length = 16) (hb : b.length = 16) : bkG (xoG a b) = bkG a ^^^ bkG b := by
  refine bk_ext (xo_len ha hb) fun i hi => ?_
  rw [BitVec.getLsbD_xor, bk_bit ha i hi, bk_bit hb i hi]
  unfold btG xoG
  have h1 : i / 8 < a.length := by omega
  have h2 : i / 8 < b.length := by omega
  rw [List.getD_eq_getElem?_getD, List.getD_eq_getElem?_getD, List.getD_eq_getElem?_getD, List.getElem?_zipWith, List.getElem?_eq_getElem h1, List.getElem?_eq_getElem h2]
  simp [UInt8.toNat_xor, Nat.testBit_xor]
/-- Times x, byte by byte: the k-th byte, ahead of what comes back. -/
def shG (l : List UInt8) (k : Nat) : UInt8 := UInt8.ofNat ((l.getD k 0).toNat / 2 + 128 * (if k = 0 then 0 else (l.getD (k - 1) 0).toNat % 2))
def shL (l : List UInt8) : List UInt8 := (List.range 16).map (shG l)
def xL (l : List UInt8) : List UInt8 := if (l.getD 15 0).toNat % 2 = 1 then (shL l).set 0 (shG l 0 ^^^ 225) else shL l
theorem xL_len (l : List UInt8) : (xL l).length = 16 := by unfold xL shL; split <;> simp
theorem half_bit : ∀ (x : Fin 256) (c : Fin 2) (t : Fin 8), ((x.val / 2 + 128 * c.val) % 256).testBit t.val = if t.val = 7 then decide (c.val = 1) else x.val.testBit (t.val + 1) := by decide +kernel
theorem sh_bit (l : List UInt8) (k t : Nat) (ht : t < 8) : (shG l k).toNat.testBit t = if t = 7 then (decide (k ≠ 0) && (l.getD (k - 1) 0).toNat.testBit 0) else (l.getD k 0).toNat.testBit (t + 1) := by
  unfold shG
  rw [UInt8.toNat_ofNat']
  by_cases hk : k = 0
  · have h := half_bit ⟨(l.getD k 0).toNat, UInt8.toNat_lt _⟩ 0 ⟨t, ht⟩
    simp only [hk] at h ⊢
    simpa using h
  · have h := half_bit ⟨(l.getD k 0).toNat, UInt8.toNat_lt _⟩ ⟨(l.getD (k - 1) 0).toNat % 2, by omega⟩ ⟨t, ht⟩
    simp only [if_neg hk] at h ⊢
    rw [show (2 : Nat) ^ 8 = 256 from rfl, h, Nat.testBit_zero]
    simp [hk]
theorem e1_bits : ∀ i : Nat, i < 128 → (0xE1000000000000000000000000000000#128).getLsbD (127 - i) = (decide (i < 8) && (225 : Nat).testBit (7 - i)) := by decide +kernel
theorem bk_x {l : List UInt8} (hl : l.length = 16) : bkG (xL l) = xG (bkG l) := by
  refine bk_ext (xL_len l) fun i hi => ?_
  unfold xG
  have hodd : (bkG l).getLsbD 0 = decide ((l.getD 15 0).toNat % 2 = 1) := by
    have e := bk_bit hl 127 (by omega)
    rw [show 127 - 127 = 0 from rfl] at e
    rw [e]
    unfold btG
    rw [show 127 / 8 = 15 from rfl, show 7 - 127 % 8 = 0 from rfl, Nat.testBit_zero]
  rw [BitVec.getLsbD_xor, BitVec.getLsbD_ushiftRight, hodd]
  have hsh : btG (shL l) i = (bkG l).getLsbD (1 + (127 - i)) := by
    have hk : i / 8 < 16 := by omega
    unfold btG shL
    rw [List.getD_eq_getElem?_getD, List.getElem?_map, List.getElem?_range hk, Option.map_some, Option.getD_some, sh_bit l (i / 8) _ (by omega)]
    by_cases h0 : i = 0
    · subst h0
      rw [if_pos rfl]
      simp
    · have e : 1 + (127 - i) = 127 - (i - 1) := by omega
      rw [e, bk_bit hl (i - 1) (by omega)]
      unfold btG
      by_cases h8 : i % 8 = 0
      · have e1 : (i - 1) / 8 = i / 8 - 1 := by omega
        have e2 : 7 - (i - 1) % 8 = 0 := by omega
        have e3 : i / 8 ≠ 0 := by omega
        rw [if_pos (by omega), e1, e2, decide_eq_true e3, Bool.true_and]
      · have e1 : (i - 1) / 8 = i / 8 := by omega
        have e2 : 7 - (i - 1) % 8 = 7 - i % 8 + 1 := by omega
        rw [if_neg (by omega), e1, e2]
  unfold xL
  by_cases ho : (l.getD 15 0).toNat % 2 = 1
  · rw [if_pos ho, decide_eq_true ho, if_pos rfl, ← hsh, e1_bits i hi]
    unfold btG
    by_cases h8 : i < 8
    · have e0 : i / 8 = 0 := by omega
      have e1 : i % 8 = i := by omega
      have e2 : (shL l)[0]? = some (shG l 0) := by simp [shL]
      rw [e0, e1, List.getD_eq_getElem?_getD, List.getD_eq_getElem?_getD, e2, decide_eq_true h8, Bool.true_and, List.getElem?_set_self (by simp [shL]), Option.getD_some, Option.getD_some, UInt8.toNat_xor, Nat.testBit_xor]
      rfl
    · rw [decide_eq_false h8, Bool.false_and, Bool.xor_false, List.getD_eq_getElem?_getD, List.getD_eq_getElem?_getD, List.getElem?_set_ne (by omega)]
  · rw [if_neg ho, decide_eq_false ho, if_neg (by simp), ← hsh]
    simp
/-- The product's rounds: what is summed up, what is added next. -/
def vN (b : List UInt8) : Nat → List UInt8
  | 0 => b
  | n + 1 => xL (vN b n)
def oN (a b : List UInt8) : Nat → List UInt8
  | 0 => List.replicate 16 0
  | n + 1 => if btG a n then xoG (oN a b n) (vN b n) else oN a b n
def tmL (a b : List UInt8) : List UInt8 := oN a b 128
theorem vN_len {b : List UInt8} (hb : b.length = 16) (n : Nat) : (vN b n).length = 16 := by
  cases n with
  | zero => exact hb
  | succ n => exact xL_len _
theorem oN_len {a b : List UInt8} (hb : b.length = 16) (n : Nat) : (oN a b n).length = 16 := by
  induction n with
  | zero => simp [oN]
  | succ n ih =>
    rw [oN]
    split
    · exact xo_len ih (vN_len hb n)
    · exact ih
theorem bk_vN {b : List UInt8} (hb : b.length = 16) (n : Nat) : bkG (vN b n) = pwG n (bkG b) := by
  induction n with
  | zero => rfl
  | succ n ih => rw [vN, bk_x (vN_len hb n), ih]; rfl
theorem bk_zero : bkG (List.replicate 16 0) = 0#128 := by decide +kernel
theorem bk_oN {a b : List UInt8} (ha : a.length = 16) (hb : b.length = 16) (n : Nat) (hn : n ≤ 128) : bkG (oN a b n) = sumG (bkG a) n (bkG b) := by
  induction n with
  | zero => exact bk_zero
  | succ n ih =>
    rw [oN, sumG, bk_bit ha n (by omega)]
    cases btG a n
    · rw [if_neg (by simp), if_neg (by simp), ih (by omega), BitVec.xor_zero]
    · rw [if_pos rfl, if_pos rfl, bk_xor (oN_len hb n) (vN_len hb n), ih (by omega), bk_vN hb]
theorem bk_tm {a b : List UInt8} (ha : a.length = 16) (hb : b.length = 16) : bkG (tmL a b) = tmG (bkG a) (bkG b) := bk_oN ha hb 128 (Nat.le_refl _)
theorem tm_len {a b : List UInt8} (hb : b.length = 16) : (tmL a b).length = 16 := oN_len hb 128
theorem tmL_comm {a b : List UInt8} (ha : a.length = 16) (hb : b.length = 16) : tmL a b = tmL b a :=
  bk_inj (tm_len hb) (tm_len ha) (by rw [bk_tm ha hb, bk_tm hb ha, tm_comm])

end Go.Proofs.Ytajfpbkeabdcaaa
