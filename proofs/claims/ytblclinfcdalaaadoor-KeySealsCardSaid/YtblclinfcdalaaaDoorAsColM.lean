/-
  Plain mathematics of layer 8: the document's own columns are the round keys. No operation of a walk is named here.
-/
import Derived.Test.YtblclinfcdalaaaDoorSb39
namespace Go.Proofs.YtblclinfcdalaaaDoor
open Go.RowKit
set_option linter.unusedVariables false

/-- A column that came, as the next one takes it. -/
def tC (l : List UInt8) (c : UInt8) (b : Bool) : List UInt8 := if b then [sB (l.getD 1 0) ^^^ c, sB (l.getD 2 0), sB (l.getD 3 0), sB (l.getD 0 0)] else l
def inC (L : List UInt8) (p : Nat) (t : List UInt8) : Nat → List UInt8
  | 0 => []
  | j + 1 => inC L p t j ++ [L.getD (p + j) 0 ^^^ t.getD j 0]
theorem inC_len (L : List UInt8) (p : Nat) (t : List UInt8) (j : Nat) : (inC L p t j).length = j := by
  induction j with
  | zero => rfl
  | succ j ih => simp [inC, ih]
/-- The columns, behind n more than the key's. -/
def clN (key : List UInt8) : Nat → List UInt8
  | 0 => key
  | n + 1 => clN key n ++ inC (clN key n) (4 * n) (tC (((clN key n).drop (4 * n + 12)).take 4) (cN ((n + 3) / 4)) (n % 4 == 0)) 4
theorem clN_len {key : List UInt8} (h : key.length = 16) (n : Nat) : (clN key n).length = 4 * n + 16 := by
  induction n with
  | zero => exact h
  | succ n ih => simp [clN, ih, inC_len]; omega
theorem cC_yes {n : Nat} (h : n % 4 = 0) : tw (cN ((n + 3) / 4)) = cN ((n + 1 + 3) / 4) := by
  rw [show (n + 1 + 3) / 4 = (n + 3) / 4 + 1 by omega, cN]
theorem cC_no {n : Nat} (h : n % 4 ≠ 0) : cN ((n + 3) / 4) = cN ((n + 1 + 3) / 4) := by
  rw [show (n + 1 + 3) / 4 = (n + 3) / 4 by omega]

def colK (k : List UInt8) (c : UInt8) (b : Bool) : List UInt8 := inC k 0 (tC ((k.drop 12).take 4) c b) 4
theorem inC_pre (pre k : List UInt8) (p : Nat) (t : List UInt8) (hp : pre.length = p) (hk : k.length = 16) (j : Nat) (hj : j ≤ 4) : inC (pre ++ k) p t j = inC k 0 t j := by
  induction j with
  | zero => rfl
  | succ j ih =>
    rw [inC, inC, ih (by omega)]
    congr 3
    rw [List.getD, List.getD, List.getElem?_append_right (by omega), show p + j - pre.length = 0 + j by omega]
theorem cl_step {key pre k : List UInt8} {n : Nat} (h : clN key n = pre ++ k) (hp : pre.length = 4 * n) (hk : k.length = 16) :
    clN key (n + 1) = (pre ++ k.take 4) ++ (k.drop 4 ++ colK k (cN ((n + 3) / 4)) (n % 4 == 0)) := by
  rw [clN, h, inC_pre pre k (4 * n) _ hp hk 4 (by omega), List.drop_append, List.drop_eq_nil_of_le (by omega), List.nil_append, show 4 * n + 12 - pre.length = 12 by omega, colK]
  rw [List.append_assoc, List.append_assoc, ← List.append_assoc (k.take 4), List.take_append_drop]
/-- Four columns. -/
def kS (k : List UInt8) (c : UInt8) (b : Bool) : List UInt8 := k.drop 4 ++ colK k c b
theorem kS_len {k : List UInt8} (h : k.length = 16) (c : UInt8) (b : Bool) : (kS k c b).length = 16 := by
  simp [kS, colK, inC_len, h]
/-- The next key, by its first column. -/
def nkF (x4 x5 x6 x7 x8 x9 x10 x11 x12 x13 x14 x15 a0 a1 a2 a3 : UInt8) : List UInt8 := [a0, a1, a2, a3, x4 ^^^ a0, x5 ^^^ a1, x6 ^^^ a2, x7 ^^^ a3, x8 ^^^ (x4 ^^^ a0), x9 ^^^ (x5 ^^^ a1), x10 ^^^ (x6 ^^^ a2), x11 ^^^ (x7 ^^^ a3), x12 ^^^ (x8 ^^^ (x4 ^^^ a0)), x13 ^^^ (x9 ^^^ (x5 ^^^ a1)), x14 ^^^ (x10 ^^^ (x6 ^^^ a2)), x15 ^^^ (x11 ^^^ (x7 ^^^ a3))]
theorem nkL16 (x0 x1 x2 x3 x4 x5 x6 x7 x8 x9 x10 x11 x12 x13 x14 x15 c : UInt8) : nkL [x0, x1, x2, x3, x4, x5, x6, x7, x8, x9, x10, x11, x12, x13, x14, x15] c = nkF x4 x5 x6 x7 x8 x9 x10 x11 x12 x13 x14 x15 ((x0 ^^^ sB x13) ^^^ c) (x1 ^^^ sB x14) (x2 ^^^ sB x15) (x3 ^^^ sB x12) := by kernel_rfl
theorem kS16 (x0 x1 x2 x3 x4 x5 x6 x7 x8 x9 x10 x11 x12 x13 x14 x15 c d : UInt8) : kS (kS (kS (kS [x0, x1, x2, x3, x4, x5, x6, x7, x8, x9, x10, x11, x12, x13, x14, x15] c true) d false) d false) d false = nkF x4 x5 x6 x7 x8 x9 x10 x11 x12 x13 x14 x15 (x0 ^^^ (sB x13 ^^^ c)) (x1 ^^^ sB x14) (x2 ^^^ sB x15) (x3 ^^^ sB x12) := by kernel_rfl
theorem kS4 {k : List UInt8} (h : k.length = 16) (c d e f : UInt8) (hd : e = d) (hf : f = d) : kS (kS (kS (kS k c true) d false) e false) f false = nkL k c := by
  subst hd
  subst hf
  obtain ⟨x0, x1, x2, x3, x4, x5, x6, x7, x8, x9, x10, x11, x12, x13, x14, x15, rfl⟩ := list16 h
  rw [kS16, nkL16, UInt8.xor_assoc]

/-- The keys, one behind the other. -/
def kyN (key : List UInt8) : Nat → List UInt8
  | 0 => key
  | r + 1 => nkL (kyN key r) (cN r)
theorem kyN_len {key : List UInt8} (h : key.length = 16) (r : Nat) : (kyN key r).length = 16 := by
  induction r with
  | zero => exact h
  | succ r ih => exact nkL_len ih _
theorem ksL_ky (key : List UInt8) : ksL key = [kyN key 0, kyN key 1, kyN key 2, kyN key 3, kyN key 4, kyN key 5, kyN key 6, kyN key 7, kyN key 8, kyN key 9, kyN key 10] := by kernel_rfl
theorem kP16 (x0 x1 x2 x3 x4 x5 x6 x7 x8 x9 x10 x11 x12 x13 x14 x15 c d e : UInt8) : [x0, x1, x2, x3, x4, x5, x6, x7, x8, x9, x10, x11, x12, x13, x14, x15].take 4 ++ ((kS [x0, x1, x2, x3, x4, x5, x6, x7, x8, x9, x10, x11, x12, x13, x14, x15] c true).take 4 ++ ((kS (kS [x0, x1, x2, x3, x4, x5, x6, x7, x8, x9, x10, x11, x12, x13, x14, x15] c true) d false).take 4 ++ (kS (kS (kS [x0, x1, x2, x3, x4, x5, x6, x7, x8, x9, x10, x11, x12, x13, x14, x15] c true) d false) e false).take 4)) = [x0, x1, x2, x3, x4, x5, x6, x7, x8, x9, x10, x11, x12, x13, x14, x15] := by kernel_rfl
theorem kP {k : List UInt8} (h : k.length = 16) (c d e : UInt8) : k.take 4 ++ ((kS k c true).take 4 ++ ((kS (kS k c true) d false).take 4 ++ (kS (kS (kS k c true) d false) e false).take 4)) = k := by
  obtain ⟨x0, x1, x2, x3, x4, x5, x6, x7, x8, x9, x10, x11, x12, x13, x14, x15, rfl⟩ := list16 h
  exact kP16 x0 x1 x2 x3 x4 x5 x6 x7 x8 x9 x10 x11 x12 x13 x14 x15 c d e
theorem cl_step' {key pre k : List UInt8} {n : Nat} (c : UInt8) (b : Bool) (h : clN key n = pre ++ k) (hp : pre.length = 4 * n) (hk : k.length = 16) (hc : cN ((n + 3) / 4) = c) (hb : (n % 4 == 0) = b) :
    clN key (n + 1) = (pre ++ k.take 4) ++ kS k c b ∧ (pre ++ k.take 4).length = 4 * (n + 1) := by
  subst hc
  subst hb
  exact ⟨cl_step h hp hk, by rw [List.length_append, List.length_take, hp, hk]; omega⟩
theorem cl_four {key pre k : List UInt8} {n r : Nat} (hn : n = 4 * r) (h : clN key n = pre ++ k) (hp : pre.length = 4 * n) (hk : k.length = 16) : clN key (n + 1 + 1 + 1 + 1) = pre ++ (k ++ nkL k (cN r)) := by
  obtain ⟨h1, p1⟩ := cl_step' (cN r) true h hp hk (by rw [show (n + 3) / 4 = r by omega]) (by simp; omega)
  obtain ⟨h2, p2⟩ := cl_step' (cN (r + 1)) false h1 p1 (kS_len hk _ _) (by rw [show (n + 1 + 3) / 4 = r + 1 by omega]) (by simp; omega)
  obtain ⟨h3, p3⟩ := cl_step' (cN (r + 1)) false h2 p2 (kS_len (kS_len hk _ _) _ _) (by rw [show (n + 1 + 1 + 3) / 4 = r + 1 by omega]) (by simp; omega)
  obtain ⟨h4, p4⟩ := cl_step' (cN (r + 1)) false h3 p3 (kS_len (kS_len (kS_len hk _ _) _ _) _ _) (by rw [show (n + 1 + 1 + 1 + 3) / 4 = r + 1 by omega]) (by simp; omega)
  have hks := kS4 hk (cN r) (cN (r + 1)) (cN (r + 1)) (cN (r + 1)) rfl rfl
  have hp4 := kP hk (cN r) (cN (r + 1)) (cN (r + 1))
  rw [hks] at h4
  rw [h4]
  have := congrArg (fun z => pre ++ (z ++ nkL k (cN r))) hp4
  simpa only [List.append_assoc] using this
theorem cl_keys {key : List UInt8} (h : key.length = 16) (r : Nat) : ∃ pre, clN key (4 * r) = pre ++ kyN key r ∧ pre.length = 16 * r ∧ pre = ((List.range r).map (kyN key)).flatten := by
  induction r with
  | zero => exact ⟨[], rfl, rfl, rfl⟩
  | succ r ih =>
    obtain ⟨pre, h0, hp, he⟩ := ih
    have hk := kyN_len h r
    have h4 := cl_four rfl h0 (by omega) hk
    refine ⟨pre ++ kyN key r, ?_, by rw [List.length_append, hp, hk]; omega, ?_⟩
    · rw [show 4 * (r + 1) = 4 * r + 1 + 1 + 1 + 1 by omega, h4, kyN, List.append_assoc]
    · rw [List.range_succ, List.map_append, List.flatten_append, he]
      simp
/-- The document's own columns are the round keys. -/
theorem cl_ks {key : List UInt8} (h : key.length = 16) : clN key 40 = (ksL key).flatten := by
  obtain ⟨pre, h1, _, h2⟩ := cl_keys h 10
  rw [show (40 : Nat) = 4 * 10 from rfl, h1, h2, ksL_ky]
  simp [List.range_succ]
end Go.Proofs.YtblclinfcdalaaaDoor
