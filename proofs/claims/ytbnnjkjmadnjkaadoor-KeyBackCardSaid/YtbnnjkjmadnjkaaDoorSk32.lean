/-
  Blocks multiplied as polynomials over 0 and 1, modulo x^128 + x^7 + x^2 + x + 1 (the first bit is that of x^0): a commutative ring in which no power of what is not 0 is 0. Plain mathematics; no program is named here.
  Blocks as lists of 16 bytes and as polynomials: sums, times x, products. Plain mathematics; no program is named here.
-/
import Derived.Test.YtbnnjkjmadnjkaaDoorSk0
namespace Go.Proofs.YtbnnjkjmadnjkaaDoor
section
abbrev W128 := BitVec 128
/-- Times x. -/
def xG (v : W128) : W128 := (v >>> 1) ^^^ (if v.getLsbD 0 then 0xE1000000000000000000000000000000#128 else 0#128)
def oneG : W128 := 0x80000000000000000000000000000000#128
/-- Times x, n times. -/
def pwG : Nat → W128 → W128
  | 0, b => b
  | n + 1, b => xG (pwG n b)
/-- The sum of the first n multiples. -/
def sumG (a : W128) : Nat → W128 → W128
  | 0, _ => 0#128
  | n + 1, b => sumG a n b ^^^ (if a.getLsbD (127 - n) then pwG n b else 0#128)
def tmG (a b : W128) : W128 := sumG a 128 b

theorem xor_midG (a b c d : W128) : (a ^^^ b) ^^^ (c ^^^ d) = (a ^^^ c) ^^^ (b ^^^ d) := by
  rw [BitVec.xor_assoc, ← BitVec.xor_assoc b, BitVec.xor_comm b c, BitVec.xor_assoc c, ← BitVec.xor_assoc a]
theorem xG_add (u v : W128) : xG (u ^^^ v) = xG u ^^^ xG v := by
  unfold xG
  rw [BitVec.ushiftRight_xor_distrib, BitVec.getLsbD_xor, xor_midG]
  congr 1
  cases u.getLsbD 0 <;> cases v.getLsbD 0 <;> simp
theorem xG_zero : xG 0#128 = 0#128 := by decide
theorem pwG_add (n : Nat) (u v : W128) : pwG n (u ^^^ v) = pwG n u ^^^ pwG n v := by
  induction n with
  | zero => rfl
  | succ n ih => rw [pwG, ih, xG_add]; rfl
theorem pwG_zero (n : Nat) : pwG n 0#128 = 0#128 := by
  induction n with
  | zero => rfl
  | succ n ih => rw [pwG, ih, xG_zero]
theorem pwG_x (n : Nat) (b : W128) : pwG n (xG b) = xG (pwG n b) := by
  induction n with
  | zero => rfl
  | succ n ih => rw [pwG, ih]; rfl

/-- What keeps sums and times x. -/
structure LinG (f : W128 → W128) : Prop where
  add : ∀ u v, f (u ^^^ v) = f u ^^^ f v
  x : ∀ v, f (xG v) = xG (f v)
theorem zero_of_add {f : W128 → W128} (h : ∀ u v, f (u ^^^ v) = f u ^^^ f v) : f 0#128 = 0#128 := by
  have e := h 0#128 0#128
  rw [BitVec.xor_self, BitVec.xor_self] at e
  exact e
theorem LinG.pw {f : W128 → W128} (h : LinG f) (n : Nat) (b : W128) : f (pwG n b) = pwG n (f b) := by
  induction n with
  | zero => rfl
  | succ n ih => rw [pwG, h.x, ih]; rfl
theorem LinG.sum {f : W128 → W128} (h : LinG f) (a : W128) (n : Nat) (b : W128) : f (sumG a n b) = sumG a n (f b) := by
  induction n with
  | zero => exact zero_of_add h.add
  | succ n ih =>
    rw [sumG, h.add, ih, sumG]
    congr 1
    cases a.getLsbD (127 - n)
    · exact zero_of_add h.add
    · exact h.pw n b
theorem LinG.tm {f : W128 → W128} (h : LinG f) (a b : W128) : f (tmG a b) = tmG a (f b) := h.sum a 128 b
theorem pw_oneG : ∀ n : Nat, n < 128 → pwG n oneG = BitVec.twoPow 128 (127 - n) := by decide +kernel
theorem sum_oneG (v : W128) (n : Nat) (hn : n ≤ 128) (j : Nat) (hj : j < 128) : (sumG v n oneG).getLsbD j = (decide (127 - j < n) && v.getLsbD j) := by
  induction n with
  | zero => simp [sumG]
  | succ n ih =>
    rw [sumG, BitVec.getLsbD_xor, ih (by omega), pw_oneG n (by omega)]
    by_cases h : 127 - n = j
    · have e : 127 - j = n := by omega
      subst h
      rw [e]
      cases v.getLsbD (127 - n) <;> simp [BitVec.getLsbD_twoPow] <;> omega
    · have e : (if v.getLsbD (127 - n) then BitVec.twoPow 128 (127 - n) else 0#128).getLsbD j = false := by
        cases v.getLsbD (127 - n) <;> simp [BitVec.getLsbD_twoPow]
        omega
      have e2 : decide (127 - j < n + 1) = decide (127 - j < n) := by rw [decide_eq_decide]; omega
      rw [e, e2, Bool.xor_false]
theorem tm_one (v : W128) : tmG v oneG = v := by
  apply BitVec.eq_of_getLsbD_eq
  intro j hj
  unfold tmG
  rw [sum_oneG v 128 (by omega) j hj, decide_eq_true (by omega), Bool.true_and]
/-- What keeps sums and times x is a multiple. -/
theorem LinG.is {f : W128 → W128} (h : LinG f) (v : W128) : f v = tmG v (f oneG) := by
  rw [← h.tm, tm_one]
theorem sum_lin (a : W128) (n : Nat) : LinG (sumG a n) := by
  induction n with
  | zero => exact ⟨fun _ _ => by simp [sumG], fun _ => by simp [sumG, xG_zero]⟩
  | succ n ih =>
    refine ⟨fun u v => ?_, fun v => ?_⟩
    · rw [sumG, sumG, sumG, ih.add, xor_midG]
      congr 1
      cases a.getLsbD (127 - n)
      · simp
      · exact pwG_add n u v
    · rw [sumG, sumG, ih.x, xG_add]
      congr 1
      cases a.getLsbD (127 - n)
      · simp [xG_zero]
      · exact pwG_x n v
theorem tm_lin (a : W128) : LinG (tmG a) := sum_lin a 128
theorem tm_comm (a b : W128) : tmG a b = tmG b a := by
  have h := (tm_lin a).is b
  rwa [tm_one] at h
theorem tm_linL (b : W128) : LinG (fun a => tmG a b) := by
  have h := tm_lin b
  exact ⟨fun u v => by rw [tm_comm, h.add, tm_comm b u, tm_comm b v], fun v => by rw [tm_comm, h.x, tm_comm b v]⟩
theorem one_tm (v : W128) : tmG oneG v = v := by rw [tm_comm, tm_one]
theorem tm_assoc (a b c : W128) : tmG (tmG a b) c = tmG a (tmG b c) := by
  have h : LinG (fun a => tmG (tmG a b) c) := ⟨fun u v => by rw [(tm_linL b).add, (tm_linL c).add], fun v => by rw [(tm_linL b).x, (tm_linL c).x]⟩
  have e := h.is a
  rwa [one_tm] at e
theorem tm_zero (a : W128) : tmG a 0#128 = 0#128 := zero_of_add (tm_lin a).add
theorem zero_tm (a : W128) : tmG 0#128 a = 0#128 := by rw [tm_comm, tm_zero]

/-! Squares: none but 0 is squared to 0. -/
def sqG (v : W128) : W128 := tmG v v
theorem sq_add (u v : W128) : sqG (u ^^^ v) = sqG u ^^^ sqG v := by
  unfold sqG
  rw [(tm_lin _).add, (tm_linL u).add, (tm_linL v).add, tm_comm v u, xor_midG, BitVec.xor_comm (tmG u v) (tmG v v), xor_midG, BitVec.xor_self, BitVec.xor_zero]
theorem sq_x (v : W128) : sqG (xG v) = xG (xG (sqG v)) := by
  unfold sqG
  rw [(tm_lin _).x, (tm_linL v).x]
/-- The roots of the powers of x. -/
def rtG : Nat → W128
  | 0 => oneG
  | 1 => 0x25b6db6db6db6db64924924924924924#128
  | n + 2 => xG (rtG n)
def rootN (v : W128) : Nat → W128
  | 0 => 0#128
  | n + 1 => rootN v n ^^^ (if v.getLsbD (127 - n) then rtG n else 0#128)
def rootG (v : W128) : W128 := rootN v 128
theorem rootN_add (u v : W128) (n : Nat) : rootN (u ^^^ v) n = rootN u n ^^^ rootN v n := by
  induction n with
  | zero => simp [rootN]
  | succ n ih =>
    rw [rootN, rootN, rootN, ih, xor_midG]
    congr 1
    rw [BitVec.getLsbD_xor]
    cases u.getLsbD (127 - n) <;> cases v.getLsbD (127 - n) <;> simp
theorem root_add (u v : W128) : rootG (u ^^^ v) = rootG u ^^^ rootG v := rootN_add u v 128
/-- What keeps sums is told by what it does to the bits. -/
theorem add_ext {f g : W128 → W128} (hf : ∀ u v, f (u ^^^ v) = f u ^^^ f v) (hg : ∀ u v, g (u ^^^ v) = g u ^^^ g v) (h : ∀ n, n < 128 → f (pwG n oneG) = g (pwG n oneG)) (v : W128) : f v = g v := by
  have key : ∀ n, n ≤ 128 → f (sumG v n oneG) = g (sumG v n oneG) := by
    intro n hn
    induction n with
    | zero => rw [sumG, zero_of_add hf, zero_of_add hg]
    | succ n ih =>
      rw [sumG, hf, hg, ih (by omega)]
      congr 1
      cases v.getLsbD (127 - n)
      · rw [if_neg (by simp), zero_of_add hf, zero_of_add hg]
      · rw [if_pos rfl, h n (by omega)]
  have e := key 128 (Nat.le_refl _)
  have t : sumG v 128 oneG = v := tm_one v
  rwa [t] at e
theorem root_bits : ∀ n : Nat, n < 128 → rootG (xG (xG (BitVec.twoPow 128 (127 - n)))) = xG (rootG (BitVec.twoPow 128 (127 - n))) := by decide +kernel
theorem root_xx (v : W128) : rootG (xG (xG v)) = xG (rootG v) :=
  add_ext (f := fun v => rootG (xG (xG v))) (g := fun v => xG (rootG v)) (fun u v => by rw [xG_add, xG_add, root_add]) (fun u v => by rw [root_add, xG_add]) (fun n hn => by
    show rootG (xG (xG (pwG n oneG))) = xG (rootG (pwG n oneG))
    rw [pw_oneG n hn]
    exact root_bits n hn) v
theorem root_one : rootG oneG = oneG := by decide +kernel
theorem root_sq (v : W128) : rootG (sqG v) = v := by
  have h : LinG (fun v => rootG (sqG v)) := ⟨fun u v => by rw [sq_add, root_add], fun v => by rw [sq_x, root_xx]⟩
  have e := h.is v
  have o : rootG (sqG oneG) = oneG := by
    unfold sqG
    rw [tm_one, root_one]
  simp only [o, tm_one] at e
  exact e
theorem sq_zero {v : W128} (h : sqG v = 0#128) : v = 0#128 := by
  rw [← root_sq v, h]
  exact zero_of_add root_add

/-! Powers: none of what is not 0 is 0. -/
def powG (h : W128) : Nat → W128
  | 0 => oneG
  | n + 1 => tmG (powG h n) h
theorem pow_addG (h : W128) (m n : Nat) : powG h (m + n) = tmG (powG h m) (powG h n) := by
  induction n with
  | zero => rw [Nat.add_zero, powG, tm_one]
  | succ n ih => rw [← Nat.add_assoc, powG, ih, tm_assoc]; rfl
theorem one_neG : oneG ≠ 0#128 := by decide
theorem pow_zeroG {h : W128} : ∀ n, powG h n = 0#128 → h = 0#128 := by
  intro n
  induction n using Nat.strongRecOn with
  | _ n ih =>
    intro hp
    match n, hp with
    | 0, hp => exact absurd hp one_neG
    | 1, hp =>
      rw [powG, powG, one_tm] at hp
      exact hp
    | n + 2, hp =>
      have hq : powG h ((n + 3) / 2 + (n + 3) / 2) = 0#128 := by
        rcases Nat.mod_two_eq_zero_or_one n with e | e
        · have : (n + 3) / 2 + (n + 3) / 2 = n + 2 := by omega
          rw [this]; exact hp
        · have : (n + 3) / 2 + (n + 3) / 2 = n + 2 + 1 := by omega
          rw [this, powG, hp, zero_tm]
      rw [pow_addG] at hq
      exact ih ((n + 3) / 2) (by omega) (sq_zero hq)
set_option maxRecDepth 10000 in
/-- A bit alone, times a power. -/
theorem bit_pow {h : W128} (hh : h ≠ 0#128) (i n : Nat) : tmG (pwG i oneG) (powG h n) ≠ 0#128 := by
  intro e
  have e2 : pwG i (powG h n) = 0#128 := by
    have := (tm_linL (powG h n)).pw i oneG
    simp only [one_tm] at this
    rw [← this]
    exact e
  have key : ∀ i (v : W128), pwG i v = 0#128 → v = 0#128 := by
    intro i
    induction i with
    | zero => exact fun v h => h
    | succ i ih =>
      intro v h
      refine ih v ?_
      rw [pwG] at h
      have hinv : tmG 0xC2000000000000000000000000000001#128 (xG (pwG i v)) = pwG i v := by
        rw [(tm_lin _).x, ← (tm_linL (pwG i v)).x]
        have c : xG 0xC2000000000000000000000000000001#128 = oneG := by decide
        rw [c, one_tm]
      rw [← hinv, h, tm_zero]
  exact hh (pow_zeroG n (key i _ e2))

/-! The hash of blocks. -/
def hashG (h : W128) (l : List W128) : W128 := l.foldl (fun y b => tmG (y ^^^ b) h) 0#128
theorem fold_addG (h : W128) : ∀ (l m : List W128) (y z : W128), l.length = m.length →
    (List.zipWith (· ^^^ ·) l m).foldl (fun y b => tmG (y ^^^ b) h) (y ^^^ z) = l.foldl (fun y b => tmG (y ^^^ b) h) y ^^^ m.foldl (fun y b => tmG (y ^^^ b) h) z
  | [], [], y, z, _ => rfl
  | a :: l, b :: m, y, z, hl => by
    rw [List.zipWith_cons_cons, List.foldl_cons, List.foldl_cons, List.foldl_cons, xor_midG, (tm_linL h).add]
    exact fold_addG h l m _ _ (by simpa using hl)
set_option maxRecDepth 10000 in
theorem hash_add (h : W128) (l m : List W128) (hl : l.length = m.length) : hashG h (List.zipWith (· ^^^ ·) l m) = hashG h l ^^^ hashG h m := by
  have e := fold_addG h l m 0#128 0#128 hl
  rwa [BitVec.xor_self] at e
theorem fold_zeros (h : W128) (n : Nat) (y : W128) : (List.replicate n 0#128).foldl (fun y b => tmG (y ^^^ b) h) y = tmG y (powG h n) := by
  induction n generalizing y with
  | zero => rw [powG, tm_one]; rfl
  | succ n ih =>
    rw [List.replicate_succ, List.foldl_cons, ih, BitVec.xor_zero, tm_assoc]
    rw [powG, tm_comm (powG h n) h]
set_option maxRecDepth 10000 in
/-- Texts that differ in one bit of one block have unlike hashes. -/
theorem hash_bit {h : W128} (hh : h ≠ 0#128) (l m : List W128) (x : W128) (i : Nat) : hashG h (l ++ (x ^^^ pwG i oneG) :: m) ≠ hashG h (l ++ x :: m) := by
  intro e
  have hd : hashG h (List.replicate l.length 0#128 ++ pwG i oneG :: List.replicate m.length 0#128) = 0#128 := by
    have z : List.zipWith (· ^^^ ·) (l ++ (x ^^^ pwG i oneG) :: m) (l ++ x :: m) = List.replicate l.length 0#128 ++ pwG i oneG :: List.replicate m.length 0#128 := by
      have self : ∀ l : List W128, List.zipWith (· ^^^ ·) l l = List.replicate l.length 0#128 := by
        intro l
        induction l with
        | nil => rfl
        | cons a l ih => rw [List.zipWith_cons_cons, ih, BitVec.xor_self]; rfl
      rw [List.zipWith_append rfl, self, List.zipWith_cons_cons, self, BitVec.xor_comm x, BitVec.xor_assoc, BitVec.xor_self, BitVec.xor_zero]
    rw [← z, hash_add h _ _ (by simp), e, BitVec.xor_self]
  unfold hashG at hd
  rw [List.foldl_append, fold_zeros, zero_tm, List.foldl_cons, fold_zeros, BitVec.zero_xor, tm_assoc] at hd
  exact bit_pow hh i (1 + m.length) (by rw [pow_addG]; simpa [powG, one_tm] using hd)
end

section
/-- A list of bytes as a number, the first byte the highest. -/
def nvG : List UInt8 → Nat
  | [] => 0
  | x :: l => 2 ^ (8 * l.length) * x.toNat + nvG l
theorem nvG_lt : ∀ l : List UInt8, nvG l < 2 ^ (8 * l.length)
  | [] => by simp [nvG]
  | x :: l => by
    have h := nvG_lt l
    have hx := x.toNat_lt
    rw [nvG, List.length_cons, Nat.mul_add, Nat.pow_add]
    have : 2 ^ (8 * l.length) * x.toNat + 2 ^ (8 * l.length) ≤ 2 ^ (8 * l.length) * 2 ^ (8 * 1) := by
      rw [← Nat.mul_succ]
      exact Nat.mul_le_mul_left _ (Nat.succ_le_of_lt (by simpa using hx))
    omega
theorem nvG_bit : ∀ (l : List UInt8) (k : Nat) (x : UInt8) (t : Nat), l[k]? = some x → t < 8 → (nvG l).testBit (8 * (l.length - 1 - k) + t) = x.toNat.testBit t
  | [], k, x, t, h, _ => by simp at h
  | y :: l, 0, x, t, h, ht => by
    obtain rfl : y = x := by simpa using h
    rw [nvG, Nat.testBit_two_pow_mul_add _ (nvG_lt l), if_neg (by simp)]
    congr 1
    simp
  | y :: l, k + 1, x, t, h, ht => by
    have hk : l[k]? = some x := by simpa using h
    have hlt : k < l.length := (List.getElem?_eq_some_iff.1 hk).1
    rw [nvG, Nat.testBit_two_pow_mul_add _ (nvG_lt l), if_pos (by simp only [List.length_cons]; omega), ← nvG_bit l k x t hk ht]
    congr 1
    simp only [List.length_cons]
    omega
/-- A block. -/
def bkG (l : List UInt8) : W128 := BitVec.ofNat 128 (nvG l)
/-- Of a block of bytes, the bit of x^i. -/
def btG (l : List UInt8) (i : Nat) : Bool := (l.getD (i / 8) 0).toNat.testBit (7 - i % 8)
theorem bk_bit {l : List UInt8} (hl : l.length = 16) (i : Nat) (hi : i < 128) : (bkG l).getLsbD (127 - i) = btG l i := by
  have hk : i / 8 < l.length := by omega
  have hx : l[i / 8]? = some l[i / 8] := List.getElem?_eq_getElem hk
  unfold bkG btG
  rw [BitVec.getLsbD_ofNat, decide_eq_true (by omega), Bool.true_and, List.getD_eq_getElem?_getD, hx, Option.getD_some, ← nvG_bit l (i / 8) _ (7 - i % 8) hx (by omega)]
  congr 1
  omega
theorem bk_ext {l : List UInt8} (hl : l.length = 16) {v : W128} (h : ∀ i, i < 128 → btG l i = v.getLsbD (127 - i)) : bkG l = v := by
  apply BitVec.eq_of_getLsbD_eq
  intro j hj
  have e := h (127 - j) (by omega)
  rw [← bk_bit hl (127 - j) (by omega)] at e
  have e2 : 127 - (127 - j) = j := by omega
  rwa [e2] at e
theorem bk_inj {l m : List UInt8} (hl : l.length = 16) (hm : m.length = 16) (h : bkG l = bkG m) : l = m := by
  apply List.ext_getElem (by omega)
  intro k hk hk2
  have hb : ∀ t, t < 8 → l[k].toNat.testBit t = m[k].toNat.testBit t := fun t ht => by
    have e : (bkG l).getLsbD (127 - (8 * k + (7 - t))) = (bkG m).getLsbD (127 - (8 * k + (7 - t))) := by rw [h]
    rw [bk_bit hl _ (by omega), bk_bit hm _ (by omega)] at e
    unfold btG at e
    have a1 : (8 * k + (7 - t)) / 8 = k := by omega
    have a2 : 7 - (8 * k + (7 - t)) % 8 = t := by omega
    rw [a1, a2, List.getD_eq_getElem?_getD, List.getD_eq_getElem?_getD, List.getElem?_eq_getElem hk, List.getElem?_eq_getElem hk2] at e
    exact e
  have big : ∀ (x : UInt8) (t : Nat), ¬ t < 8 → x.toNat.testBit t = false := fun x t ht =>
    Nat.testBit_lt_two_pow (Nat.lt_of_lt_of_le x.toNat_lt (Nat.pow_le_pow_right (by omega) (by omega)))
  have hn : l[k].toNat = m[k].toNat := Nat.eq_of_testBit_eq fun t => by
    by_cases ht : t < 8
    · exact hb t ht
    · rw [big _ t ht, big _ t ht]
  exact UInt8.toNat_inj.1 hn
/-- The sum of two blocks. -/
def xoG (a b : List UInt8) : List UInt8 := List.zipWith (· ^^^ ·) a b
theorem xo_len {a b : List UInt8} (ha : a.length = 16) (hb : b.length = 16) : (xoG a b).length = 16 := by simp [xoG, ha, hb]
theorem bk_xor {a b : List UInt8} (ha : a.length = 16) (hb : b.length = 16) : bkG (xoG a b) = bkG a ^^^ bkG b := by
  refine bk_ext (xo_len ha hb) fun i hi => ?_
  rw [BitVec.getLsbD_xor, bk_bit ha i hi, bk_bit hb i hi]
  unfold btG xoG
  have h1 : i / 8 < a.length := by omega
  have h2 : i / 8 < b.length := by omega
  rw [List.getD_eq_getElem?_getD, List.getD_eq_getElem?_getD, List.getD_eq_getElem?_getD, List.getElem?_zipWith, List.getElem?_eq_getElem h1, List.getElem?_eq_getElem h2]
  simp [UInt8.toNat_xor, Nat.testBit_xor]
/-- Times x, byte by byte: the k-th byte, ahead of what comes back. -/
def shG (l : List UInt8) (k : Nat) : UInt8 := UInt8.ofNat ((l.getD k 0).toNat / 2 + 128 * (if k = 0 then 0 else (l.getD (k - 1) 0).toNat % 2))
def shL (l : List UInt8) : List UInt8 := (List.range 16).map (shG l)
def xL (l : List UInt8) : List UInt8 := if (l.getD 15 0).toNat % 2 = 1 then (shL l).set 0 (shG l 0 ^^^ 225) else shL l
theorem xL_len (l : List UInt8) : (xL l).length = 16 := by unfold xL shL; split <;> simp
theorem half_bit : ∀ (x : Fin 256) (c : Fin 2) (t : Fin 8), ((x.val / 2 + 128 * c.val) % 256).testBit t.val = if t.val = 7 then decide (c.val = 1) else x.val.testBit (t.val + 1) := by decide +kernel
theorem sh_bit (l : List UInt8) (k t : Nat) (ht : t < 8) : (shG l k).toNat.testBit t = if t = 7 then (decide (k ≠ 0) && (l.getD (k - 1) 0).toNat.testBit 0) else (l.getD k 0).toNat.testBit (t + 1) := by
  unfold shG
  rw [UInt8.toNat_ofNat']
  by_cases hk : k = 0
  · have h := half_bit ⟨(l.getD k 0).toNat, UInt8.toNat_lt _⟩ 0 ⟨t, ht⟩
    simp only [hk] at h ⊢
    simpa using h
  · have h := half_bit ⟨(l.getD k 0).toNat, UInt8.toNat_lt _⟩ ⟨(l.getD (k - 1) 0).toNat % 2, by omega⟩ ⟨t, ht⟩
    simp only [if_neg hk] at h ⊢
    rw [show (2 : Nat) ^ 8 = 256 from rfl, h, Nat.testBit_zero]
    simp [hk]
theorem e1_bits : ∀ i : Nat, i < 128 → (0xE1000000000000000000000000000000#128).getLsbD (127 - i) = (decide (i < 8) && (225 : Nat).testBit (7 - i)) := by decide +kernel
theorem bk_x {l : List UInt8} (hl : l.length = 16) : bkG (xL l) = xG (bkG l) := by
  refine bk_ext (xL_len l) fun i hi => ?_
  unfold xG
  have hodd : (bkG l).getLsbD 0 = decide ((l.getD 15 0).toNat % 2 = 1) := by
    have e := bk_bit hl 127 (by omega)
    rw [show 127 - 127 = 0 from rfl] at e
    rw [e]
    unfold btG
    rw [show 127 / 8 = 15 from rfl, show 7 - 127 % 8 = 0 from rfl, Nat.testBit_zero]
  rw [BitVec.getLsbD_xor, BitVec.getLsbD_ushiftRight, hodd]
  have hsh : btG (shL l) i = (bkG l).getLsbD (1 + (127 - i)) := by
    have hk : i / 8 < 16 := by omega
    unfold btG shL
    rw [List.getD_eq_getElem?_getD, List.getElem?_map, List.getElem?_range hk, Option.map_some, Option.getD_some, sh_bit l (i / 8) _ (by omega)]
    by_cases h0 : i = 0
    · subst h0
      rw [if_pos rfl]
      simp
    · have e : 1 + (127 - i) = 127 - (i - 1) := by omega
      rw [e, bk_bit hl (i - 1) (by omega)]
      unfold btG
      by_cases h8 : i % 8 = 0
      · have e1 : (i - 1) / 8 = i / 8 - 1 := by omega
        have e2 : 7 - (i - 1) % 8 = 0 := by omega
        have e3 : i / 8 ≠ 0 := by omega
        rw [if_pos (by omega), e1, e2, decide_eq_true e3, Bool.true_and]
      · have e1 : (i - 1) / 8 = i / 8 := by omega
        have e2 : 7 - (i - 1) % 8 = 7 - i % 8 + 1 := by omega
        rw [if_neg (by omega), e1, e2]
  unfold xL
  by_cases ho : (l.getD 15 0).toNat % 2 = 1
  · rw [if_pos ho, decide_eq_true ho, if_pos rfl, ← hsh, e1_bits i hi]
    unfold btG
    by_cases h8 : i < 8
    · have e0 : i / 8 = 0 := by omega
      have e1 : i % 8 = i := by omega
      have e2 : (shL l)[0]? = some (shG l 0) := by simp [shL]
      rw [e0, e1, List.getD_eq_getElem?_getD, List.getD_eq_getElem?_getD, e2, decide_eq_true h8, Bool.true_and, List.getElem?_set_self (by simp [shL]), Option.getD_some, Option.getD_some, UInt8.toNat_xor, Nat.testBit_xor]
      rfl
    · rw [decide_eq_false h8, Bool.false_and, Bool.xor_false, List.getD_eq_getElem?_getD, List.getD_eq_getElem?_getD, List.getElem?_set_ne (by omega)]
  · rw [if_neg ho, decide_eq_false ho, if_neg (by simp), ← hsh]
    simp
/-- The product's rounds: what is summed up, what is added next. -/
def vN (b : List UInt8) : Nat → List UInt8
  | 0 => b
  | n + 1 => xL (vN b n)
def oN (a b : List UInt8) : Nat → List UInt8
  | 0 => List.replicate 16 0
  | n + 1 => if btG a n then xoG (oN a b n) (vN b n) else oN a b n
def tmL (a b : List UInt8) : List UInt8 := oN a b 128
theorem vN_len {b : List UInt8} (hb : b.length = 16) (n : Nat) : (vN b n).length = 16 := by
  cases n with
  | zero => exact hb
  | succ n => exact xL_len _
theorem oN_len {a b : List UInt8} (hb : b.length = 16) (n : Nat) : (oN a b n).length = 16 := by
  induction n with
  | zero => simp [oN]
  | succ n ih =>
    rw [oN]
    split
    · exact xo_len ih (vN_len hb n)
    · exact ih
theorem bk_vN {b : List UInt8} (hb : b.length = 16) (n : Nat) : bkG (vN b n) = pwG n (bkG b) := by
  induction n with
  | zero => rfl
  | succ n ih => rw [vN, bk_x (vN_len hb n), ih]; rfl
theorem bk_zero : bkG (List.replicate 16 0) = 0#128 := by decide +kernel
theorem bk_oN {a b : List UInt8} (ha : a.length = 16) (hb : b.length = 16) (n : Nat) (hn : n ≤ 128) : bkG (oN a b n) = sumG (bkG a) n (bkG b) := by
  induction n with
  | zero => exact bk_zero
  | succ n ih =>
    rw [oN, sumG, bk_bit ha n (by omega)]
    cases btG a n
    · rw [if_neg (by simp), if_neg (by simp), ih (by omega), BitVec.xor_zero]
    · rw [if_pos rfl, if_pos rfl, bk_xor (oN_len hb n) (vN_len hb n), ih (by omega), bk_vN hb]
theorem bk_tm {a b : List UInt8} (ha : a.length = 16) (hb : b.length = 16) : bkG (tmL a b) = tmG (bkG a) (bkG b) := bk_oN ha hb 128 (Nat.le_refl _)
theorem tm_len {a b : List UInt8} (hb : b.length = 16) : (tmL a b).length = 16 := oN_len hb 128
theorem tmL_comm {a b : List UInt8} (ha : a.length = 16) (hb : b.length = 16) : tmL a b = tmL b a :=
  bk_inj (tm_len hb) (tm_len ha) (by rw [bk_tm ha hb, bk_tm hb ha, tm_comm])
end
end Go.Proofs.YtbnnjkjmadnjkaaDoor
