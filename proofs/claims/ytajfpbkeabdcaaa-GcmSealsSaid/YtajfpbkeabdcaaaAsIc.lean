/-
  Plain mathematics of layer 8: blocks written out; under one key no two blocks are sealed to one. No operation of a walk is named here.
  Plain mathematics of layer 8: the document's own columns are the round keys. No operation of a walk is named here.
-/
import Derived.Test.YtajfpbkeabdcaaaAsSeal
namespace Go.Proofs.Ytajfpbkeabdcaaa

section
open Go.RowKit
set_option linter.unusedVariables false
set_option linter.unusedSimpArgs false

def twV (v : BitVec 8) : BitVec 8 := v <<< 1 ^^^ (bif v.msb then 27#8 else 0#8)
theorem tw_twV (x : UInt8) : (tw x).toBitVec = twV x.toBitVec := all256 (fun x => (tw x).toBitVec = twV x.toBitVec) (by decide +kernel) x
theorem v_left (x y z : BitVec 8) : x ^^^ (y ^^^ z) = y ^^^ (x ^^^ z) := by rw [← BitVec.xor_assoc, BitVec.xor_comm x y, BitVec.xor_assoc]
theorem tw_xor (x y : UInt8) : tw (x ^^^ y) = tw x ^^^ tw y := by
  apply UInt8.toBitVec_inj.1
  rw [tw_twV, UInt8.toBitVec_xor, UInt8.toBitVec_xor, tw_twV, tw_twV, twV, twV, twV, BitVec.shiftLeft_xor_distrib, BitVec.msb_xor]
  cases x.toBitVec.msb <;> cases y.toBitVec.msb <;> simp [BitVec.xor_assoc, BitVec.xor_comm, v_left]
theorem xor_left (x y z : UInt8) : x ^^^ (y ^^^ z) = y ^^^ (x ^^^ z) := by rw [← UInt8.xor_assoc, UInt8.xor_comm x y, UInt8.xor_assoc]
theorem xor_back (x y : UInt8) : x ^^^ (x ^^^ y) = y := by rw [← UInt8.xor_assoc, UInt8.xor_self, UInt8.zero_xor]
theorem mx_sq (a b c d : UInt8) : mxB (mxB a b c d) (mxB b c d a) (mxB c d a b) (mxB d a b c) = a ^^^ tw (tw a) ^^^ tw (tw c) := by
  simp only [mxB, tw_xor]
  generalize tw (tw a) = a2
  generalize tw (tw b) = b2
  generalize tw (tw c) = c2
  generalize tw (tw d) = d2
  generalize tw a = a1
  generalize tw b = b1
  generalize tw c = c1
  generalize tw d = d1
  simp only [UInt8.xor_assoc]
  simp only [UInt8.xor_comm, xor_left, xor_back, UInt8.xor_self, UInt8.xor_zero, UInt8.zero_xor]
/-- A column mixed four times is itself. -/
theorem mx_inj {a b c d a' b' c' d' : UInt8} (h1 : mxB a b c d = mxB a' b' c' d') (h2 : mxB b c d a = mxB b' c' d' a') (h3 : mxB c d a b = mxB c' d' a' b') (h4 : mxB d a b c = mxB d' a' b' c') :
    a = a' ∧ c = c' := by
  have s1 := mx_sq a b c d
  have s3 := mx_sq c d a b
  rw [h1, h2, h3, h4, mx_sq a' b' c' d'] at s1
  rw [h1, h2, h3, h4, mx_sq c' d' a' b'] at s3
  have e : a ^^^ c = a' ^^^ c' := by
    have h : (a' ^^^ tw (tw a') ^^^ tw (tw c')) ^^^ (c' ^^^ tw (tw c') ^^^ tw (tw a')) = (a ^^^ tw (tw a) ^^^ tw (tw c)) ^^^ (c ^^^ tw (tw c) ^^^ tw (tw a)) := by rw [s1, s3]
    generalize tw (tw a) = a2 at h
    generalize tw (tw c) = c2 at h
    generalize tw (tw a') = a3 at h
    generalize tw (tw c') = c3 at h
    simp only [UInt8.xor_assoc] at h
    simp only [UInt8.xor_comm, xor_left, xor_back, UInt8.xor_self, UInt8.xor_zero, UInt8.zero_xor] at h
    rw [UInt8.xor_comm a c, UInt8.xor_comm a' c']
    first | exact h.symm | (rw [UInt8.xor_comm c a, UInt8.xor_comm c' a']; exact h.symm)
  have e2 : tw (tw a) ^^^ tw (tw c) = tw (tw a') ^^^ tw (tw c') := by rw [← tw_xor, ← tw_xor, e, tw_xor, tw_xor]
  constructor
  · rw [UInt8.xor_assoc, UInt8.xor_assoc, e2] at s1
    have := congrArg (fun z => z ^^^ (tw (tw a') ^^^ tw (tw c'))) s1
    simpa only [UInt8.xor_assoc, UInt8.xor_self, UInt8.xor_zero] using this.symm
  · rw [UInt8.xor_assoc, UInt8.xor_assoc, UInt8.xor_comm (tw (tw c)), UInt8.xor_comm (tw (tw c')), e2] at s3
    have := congrArg (fun z => z ^^^ (tw (tw a') ^^^ tw (tw c'))) s3
    simpa only [UInt8.xor_assoc, UInt8.xor_self, UInt8.xor_zero] using this.symm

theorem list16 {l : List UInt8} (h : l.length = 16) : ∃ x0 x1 x2 x3 x4 x5 x6 x7 x8 x9 x10 x11 x12 x13 x14 x15, l = [x0, x1, x2, x3, x4, x5, x6, x7, x8, x9, x10, x11, x12, x13, x14, x15] := by
  match l, h with
  | [x0, x1, x2, x3, x4, x5, x6, x7, x8, x9, x10, x11, x12, x13, x14, x15], _ => exact ⟨_, _, _, _, _, _, _, _, _, _, _, _, _, _, _, _, rfl⟩
theorem xor_can {x y z : UInt8} (h : x ^^^ z = y ^^^ z) : x = y := by
  have := congrArg (· ^^^ z) h
  simpa only [UInt8.xor_assoc, UInt8.xor_self, UInt8.xor_zero] using this

theorem addL16 (x0 x1 x2 x3 x4 x5 x6 x7 x8 x9 x10 x11 x12 x13 x14 x15 z0 z1 z2 z3 z4 z5 z6 z7 z8 z9 z10 z11 z12 z13 z14 z15 : UInt8) : addL [x0, x1, x2, x3, x4, x5, x6, x7, x8, x9, x10, x11, x12, x13, x14, x15] [z0, z1, z2, z3, z4, z5, z6, z7, z8, z9, z10, z11, z12, z13, z14, z15] = [x0 ^^^ z0, x1 ^^^ z1, x2 ^^^ z2, x3 ^^^ z3, x4 ^^^ z4, x5 ^^^ z5, x6 ^^^ z6, x7 ^^^ z7, x8 ^^^ z8, x9 ^^^ z9, x10 ^^^ z10, x11 ^^^ z11, x12 ^^^ z12, x13 ^^^ z13, x14 ^^^ z14, x15 ^^^ z15] := by kernel_rfl
theorem mvL16 (x0 x1 x2 x3 x4 x5 x6 x7 x8 x9 x10 x11 x12 x13 x14 x15 : UInt8) : mvL [x0, x1, x2, x3, x4, x5, x6, x7, x8, x9, x10, x11, x12, x13, x14, x15] = [sB x0, sB x5, sB x10, sB x15, sB x4, sB x9, sB x14, sB x3, sB x8, sB x13, sB x2, sB x7, sB x12, sB x1, sB x6, sB x11] := by kernel_rfl
theorem mxL16 (x0 x1 x2 x3 x4 x5 x6 x7 x8 x9 x10 x11 x12 x13 x14 x15 : UInt8) : mxL [x0, x1, x2, x3, x4, x5, x6, x7, x8, x9, x10, x11, x12, x13, x14, x15] = [mxB x0 x1 x2 x3, mxB x1 x2 x3 x0, mxB x2 x3 x0 x1, mxB x3 x0 x1 x2, mxB x4 x5 x6 x7, mxB x5 x6 x7 x4, mxB x6 x7 x4 x5, mxB x7 x4 x5 x6, mxB x8 x9 x10 x11, mxB x9 x10 x11 x8, mxB x10 x11 x8 x9, mxB x11 x8 x9 x10, mxB x12 x13 x14 x15, mxB x13 x14 x15 x12, mxB x14 x15 x12 x13, mxB x15 x12 x13 x14] := by kernel_rfl

theorem addL_inj {l l' m : List UInt8} (h1 : l.length = 16) (h2 : l'.length = 16) (h3 : m.length = 16) (h : addL l m = addL l' m) : l = l' := by
  obtain ⟨x0, x1, x2, x3, x4, x5, x6, x7, x8, x9, x10, x11, x12, x13, x14, x15, rfl⟩ := list16 h1
  obtain ⟨y0, y1, y2, y3, y4, y5, y6, y7, y8, y9, y10, y11, y12, y13, y14, y15, rfl⟩ := list16 h2
  obtain ⟨z0, z1, z2, z3, z4, z5, z6, z7, z8, z9, z10, z11, z12, z13, z14, z15, rfl⟩ := list16 h3
  rw [addL16, addL16] at h
  simp only [List.cons.injEq, and_true] at h
  obtain ⟨e0, e1, e2, e3, e4, e5, e6, e7, e8, e9, e10, e11, e12, e13, e14, e15⟩ := h
  rw [xor_can e0, xor_can e1, xor_can e2, xor_can e3, xor_can e4, xor_can e5, xor_can e6, xor_can e7, xor_can e8, xor_can e9, xor_can e10, xor_can e11, xor_can e12, xor_can e13, xor_can e14, xor_can e15]
theorem mvL_inj {l l' : List UInt8} (h1 : l.length = 16) (h2 : l'.length = 16) (h : mvL l = mvL l') : l = l' := by
  obtain ⟨x0, x1, x2, x3, x4, x5, x6, x7, x8, x9, x10, x11, x12, x13, x14, x15, rfl⟩ := list16 h1
  obtain ⟨y0, y1, y2, y3, y4, y5, y6, y7, y8, y9, y10, y11, y12, y13, y14, y15, rfl⟩ := list16 h2
  rw [mvL16, mvL16] at h
  simp only [List.cons.injEq, and_true] at h
  obtain ⟨e0, e5, e10, e15, e4, e9, e14, e3, e8, e13, e2, e7, e12, e1, e6, e11⟩ := h
  rw [sB_inj e0, sB_inj e1, sB_inj e2, sB_inj e3, sB_inj e4, sB_inj e5, sB_inj e6, sB_inj e7, sB_inj e8, sB_inj e9, sB_inj e10, sB_inj e11, sB_inj e12, sB_inj e13, sB_inj e14, sB_inj e15]
theorem mxL_inj {l l' : List UInt8} (h1 : l.length = 16) (h2 : l'.length = 16) (h : mxL l = mxL l') : l = l' := by
  obtain ⟨x0, x1, x2, x3, x4, x5, x6, x7, x8, x9, x10, x11, x12, x13, x14, x15, rfl⟩ := list16 h1
  obtain ⟨y0, y1, y2, y3, y4, y5, y6, y7, y8, y9, y10, y11, y12, y13, y14, y15, rfl⟩ := list16 h2
  rw [mxL16, mxL16] at h
  simp only [List.cons.injEq, and_true] at h
  obtain ⟨e0, e1, e2, e3, e4, e5, e6, e7, e8, e9, e10, e11, e12, e13, e14, e15⟩ := h
  obtain ⟨rfl, rfl⟩ := mx_inj e0 e1 e2 e3
  obtain ⟨rfl, rfl⟩ := mx_inj e1 e2 e3 e0
  obtain ⟨rfl, rfl⟩ := mx_inj e4 e5 e6 e7
  obtain ⟨rfl, rfl⟩ := mx_inj e5 e6 e7 e4
  obtain ⟨rfl, rfl⟩ := mx_inj e8 e9 e10 e11
  obtain ⟨rfl, rfl⟩ := mx_inj e9 e10 e11 e8
  obtain ⟨rfl, rfl⟩ := mx_inj e12 e13 e14 e15
  obtain ⟨rfl, rfl⟩ := mx_inj e13 e14 e15 e12
  rfl

theorem rdS_inj {ks : List (List UInt8)} (hk : B11 ks) {l l' : List UInt8} (h1 : l.length = 16) (h2 : l'.length = 16) (k : Nat) (hk9 : k ≤ 9) (h : rdS ks l k = rdS ks l' k) : l = l' := by
  induction k with
  | zero => exact addL_inj h1 h2 (hk.at_ (by omega)) h
  | succ k ih => exact ih (by omega) (mvL_inj (rdS_len ks h1 k) (rdS_len ks h2 k) (mxL_inj (mvL_len _) (mvL_len _) (addL_inj (mxL_len (mvL_len _)) (mxL_len (mvL_len _)) (hk.at_ (by omega)) h)))
theorem seL_inj {ks : List (List UInt8)} (hk : B11 ks) {l l' : List UInt8} (h1 : l.length = 16) (h2 : l'.length = 16) (h : seL ks l = seL ks l') : l = l' :=
  rdS_inj hk h1 h2 9 (Nat.le_refl _) (mvL_inj (rdS_len ks h1 9) (rdS_len ks h2 9) (addL_inj (mvL_len _) (mvL_len _) (hk.at_ (by omega)) h))
end

section
open Go.RowKit
set_option linter.unusedVariables false

/-- A column that came, as the next one takes it. -/
def tC (l : List UInt8) (c : UInt8) (b : Bool) : List UInt8 := if b then [sB (l.getD 1 0) ^^^ c, sB (l.getD 2 0), sB (l.getD 3 0), sB (l.getD 0 0)] else l
def inC (L : List UInt8) (p : Nat) (t : List UInt8) : Nat → List UInt8
  | 0 => []
  | j + 1 => inC L p t j ++ [L.getD (p + j) 0 ^^^ t.getD j 0]
theorem inC_len (L : List UInt8) (p : Nat) (t : List UInt8) (j : Nat) : (inC L p t j).length = j := by
  induction j with
  | zero => rfl
  | succ j ih => simp [inC, ih]
/-- The columns, behind n more than the key's. -/
def clN (key : List UInt8) : Nat → List UInt8
  | 0 => key
  | n + 1 => clN key n ++ inC (clN key n) (4 * n) (tC (((clN key n).drop (4 * n + 12)).take 4) (cN ((n + 3) / 4)) (n % 4 == 0)) 4
theorem clN_len {key : List UInt8} (h : key.length = 16) (n : Nat) : (clN key n).length = 4 * n + 16 := by
  induction n with
  | zero => exact h
  | succ n ih => simp [clN, ih, inC_len]; omega
theorem cC_yes {n : Nat} (h : n % 4 = 0) : tw (cN ((n + 3) / 4)) = cN ((n + 1 + 3) / 4) := by
  rw [show (n + 1 + 3) / 4 = (n + 3) / 4 + 1 by omega, cN]
theorem cC_no {n : Nat} (h : n % 4 ≠ 0) : cN ((n + 3) / 4) = cN ((n + 1 + 3) / 4) := by
  rw [show (n + 1 + 3) / 4 = (n + 3) / 4 by omega]

def colK (k : List UInt8) (c : UInt8) (b : Bool) : List UInt8 := inC k 0 (tC ((k.drop 12).take 4) c b) 4
theorem inC_pre (pre k : List UInt8) (p : Nat) (t : List UInt8) (hp : pre.length = p) (hk : k.length = 16) (j : Nat) (hj : j ≤ 4) : inC (pre ++ k) p t j = inC k 0 t j := by
  induction j with
  | zero => rfl
  | succ j ih =>
    rw [inC, inC, ih (by omega)]
    congr 3
    rw [List.getD, List.getD, List.getElem?_append_right (by omega), show p + j - pre.length = 0 + j by omega]
theorem cl_step {key pre k : List UInt8} {n : Nat} (h : clN key n = pre ++ k) (hp : pre.length = 4 * n) (hk : k.length = 16) :
    clN key (n + 1) = (pre ++ k.take 4) ++ (k.drop 4 ++ colK k (cN ((n + 3) / 4)) (n % 4 == 0)) := by
  rw [clN, h, inC_pre pre k (4 * n) _ hp hk 4 (by omega), List.drop_append, List.drop_eq_nil_of_le (by omega), List.nil_append, show 4 * n + 12 - pre.length = 12 by omega, colK]
  rw [List.append_assoc, List.append_assoc, ← List.append_assoc (k.take 4), List.take_append_drop]
/-- Four columns. -/
def kS (k : List UInt8) (c : UInt8) (b : Bool) : List UInt8 := k.drop 4 ++ colK k c b
theorem kS_len {k : List UInt8} (h : k.length = 16) (c : UInt8) (b : Bool) : (kS k c b).length = 16 := by
  simp [kS, colK, inC_len, h]
/-- The next key, by its first column. -/
def nkF (x4 x5 x6 x7 x8 x9 x10 x11 x12 x13 x14 x15 a0 a1 a2 a3 : UInt8) : List UInt8 := [a0, a1, a2, a3, x4 ^^^ a0, x5 ^^^ a1, x6 ^^^ a2, x7 ^^^ a3, x8 ^^^ (x4 ^^^ a0), x9 ^^^ (x5 ^^^ a1), x10 ^^^ (x6 ^^^ a2), x11 ^^^ (x7 ^^^ a3), x12 ^^^ (x8 ^^^ (x4 ^^^ a0)), x13 ^^^ (x9 ^^^ (x5 ^^^ a1)), x14 ^^^ (x10 ^^^ (x6 ^^^ a2)), x15 ^^^ (x11 ^^^ (x7 ^^^ a3))]
theorem nkL16 (x0 x1 x2 x3 x4 x5 x6 x7 x8 x9 x10 x11 x12 x13 x14 x15 c : UInt8) : nkL [x0, x1, x2, x3, x4, x5, x6, x7, x8, x9, x10, x11, x12, x13, x14, x15] c = nkF x4 x5 x6 x7 x8 x9 x10 x11 x12 x13 x14 x15 ((x0 ^^^ sB x13) ^^^ c) (x1 ^^^ sB x14) (x2 ^^^ sB x15) (x3 ^^^ sB x12) := by kernel_rfl
theorem kS16 (x0 x1 x2 x3 x4 x5 x6 x7 x8 x9 x10 x11 x12 x13 x14 x15 c d : UInt8) : kS (kS (kS (kS [x0, x1, x2, x3, x4, x5, x6, x7, x8, x9, x10, x11, x12, x13, x14, x15] c true) d false) d false) d false = nkF x4 x5 x6 x7 x8 x9 x10 x11 x12 x13 x14 x15 (x0 ^^^ (sB x13 ^^^ c)) (x1 ^^^ sB x14) (x2 ^^^ sB x15) (x3 ^^^ sB x12) := by kernel_rfl
theorem kS4 {k : List UInt8} (h : k.length = 16) (c d e f : UInt8) (hd : e = d) (hf : f = d) : kS (kS (kS (kS k c true) d false) e false) f false = nkL k c := by
  subst hd
  subst hf
  obtain ⟨x0, x1, x2, x3, x4, x5, x6, x7, x8, x9, x10, x11, x12, x13, x14, x15, rfl⟩ := list16 h
  rw [kS16, nkL16, UInt8.xor_assoc]

/-- The keys, one behind the other. -/
def kyN (key : List UInt8) : Nat → List UInt8
  | 0 => key
  | r + 1 => nkL (kyN key r) (cN r)
theorem kyN_len {key : List UInt8} (h : key.length = 16) (r : Nat) : (kyN key r).length = 16 := by
  induction r with
  | zero => exact h
  | succ r ih => exact nkL_len ih _
theorem ksL_ky (key : List UInt8) : ksL key = [kyN key 0, kyN key 1, kyN key 2, kyN key 3, kyN key 4, kyN key 5, kyN key 6, kyN key 7, kyN key 8, kyN key 9, kyN key 10] := by kernel_rfl
theorem kP16 (x0 x1 x2 x3 x4 x5 x6 x7 x8 x9 x10 x11 x12 x13 x14 x15 c d e : UInt8) : [x0, x1, x2, x3, x4, x5, x6, x7, x8, x9, x10, x11, x12, x13, x14, x15].take 4 ++ ((kS [x0, x1, x2, x3, x4, x5, x6, x7, x8, x9, x10, x11, x12, x13, x14, x15] c true).take 4 ++ ((kS (kS [x0, x1, x2, x3, x4, x5, x6, x7, x8, x9, x10, x11, x12, x13, x14, x15] c true) d false).take 4 ++ (kS (kS (kS [x0, x1, x2, x3, x4, x5, x6, x7, x8, x9, x10, x11, x12, x13, x14, x15] c true) d false) e false).take 4)) = [x0, x1, x2, x3, x4, x5, x6, x7, x8, x9, x10, x11, x12, x13, x14, x15] := by kernel_rfl
theorem kP {k : List UInt8} (h : k.length = 16) (c d e : UInt8) : k.take 4 ++ ((kS k c true).take 4 ++ ((kS (kS k c true) d false).take 4 ++ (kS (kS (kS k c true) d false) e false).take 4)) = k := by
  obtain ⟨x0, x1, x2, x3, x4, x5, x6, x7, x8, x9, x10, x11, x12, x13, x14, x15, rfl⟩ := list16 h
  exact kP16 x0 x1 x2 x3 x4 x5 x6 x7 x8 x9 x10 x11 x12 x13 x14 x15 c d e
theorem cl_step' {key pre k : List UInt8} {n : Nat} (c : UInt8) (b : Bool) (h : clN key n = pre ++ k) (hp : pre.length = 4 * n) (hk : k.length = 16) (hc : cN ((n + 3) / 4) = c) (hb : (n % 4 == 0) = b) :
    clN key (n + 1) = (pre ++ k.take 4) ++ kS k c b ∧ (pre ++ k.take 4).length = 4 * (n + 1) := by
  subst hc
  subst hb
  exact ⟨cl_step h hp hk, by rw [List.length_append, List.length_take, hp, hk]; omega⟩
theorem cl_four {key pre k : List UInt8} {n r : Nat} (hn : n = 4 * r) (h : clN key n = pre ++ k) (hp : pre.length = 4 * n) (hk : k.length = 16) : clN key (n + 1 + 1 + 1 + 1) = pre ++ (k ++ nkL k (cN r)) := by
  obtain ⟨h1, p1⟩ := cl_step' (cN r) true h hp hk (by rw [show (n + 3) / 4 = r by omega]) (by simp; omega)
  obtain ⟨h2, p2⟩ := cl_step' (cN (r + 1)) false h1 p1 (kS_len hk _ _) (by rw [show (n + 1 + 3) / 4 = r + 1 by omega]) (by simp; omega)
  obtain ⟨h3, p3⟩ := cl_step' (cN (r + 1)) false h2 p2 (kS_len (kS_len hk _ _) _ _) (by rw [show (n + 1 + 1 + 3) / 4 = r + 1 by omega]) (by simp; omega)
  obtain ⟨h4, p4⟩ := cl_step' (cN (r + 1)) false h3 p3 (kS_len (kS_len (kS_len hk _ _) _ _) _ _) (by rw [show (n + 1 + 1 + 1 + 3) / 4 = r + 1 by omega]) (by simp; omega)
  have hks := kS4 hk (cN r) (cN (r + 1)) (cN (r + 1)) (cN (r + 1)) rfl rfl
  have hp4 := kP hk (cN r) (cN (r + 1)) (cN (r + 1))
  rw [hks] at h4
  rw [h4]
  have := congrArg (fun z => pre ++ (z ++ nkL k (cN r))) hp4
  simpa only [List.append_assoc] using this
theorem cl_keys {key : List UInt8} (h : key.length = 16) (r : Nat) : ∃ pre, clN key (4 * r) = pre ++ kyN key r ∧ pre.length = 16 * r ∧ pre = ((List.range r).map (kyN key)).flatten := by
  induction r with
  | zero => exact ⟨[], rfl, rfl, rfl⟩
  | succ r ih =>
    obtain ⟨pre, h0, hp, he⟩ := ih
    have hk := kyN_len h r
    have h4 := cl_four rfl h0 (by omega) hk
    refine ⟨pre ++ kyN key r, ?_, by rw [List.length_append, hp, hk]; omega, ?_⟩
    · rw [show 4 * (r + 1) = 4 * r + 1 + 1 + 1 + 1 by omega, h4, kyN, List.append_assoc]
    · rw [List.range_succ, List.map_append, List.flatten_append, he]
      simp
/-- The document's own columns are the round keys. -/
theorem cl_ks {key : List UInt8} (h : key.length = 16) : clN key 40 = (ksL key).flatten := by
  obtain ⟨pre, h1, _, h2⟩ := cl_keys h 10
  rw [show (40 : Nat) = 4 * 10 from rfl, h1, h2, ksL_ky]
  simp [List.range_succ]
end

end Go.Proofs.Ytajfpbkeabdcaaa
