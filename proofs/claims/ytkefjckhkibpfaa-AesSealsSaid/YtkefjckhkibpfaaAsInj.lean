/-
  Plain mathematics of layer 8: blocks written out; under one key no two blocks are sealed to one. No operation of a walk is named here.
-/
import Derived.Test.YtkefjckhkibpfaaAsSeal
namespace Go.Proofs.Ytkefjckhkibpfaa
open Go.RowKit
set_option linter.unusedVariables false
set_option linter.unusedSimpArgs false

def twV (v : BitVec 8) : BitVec 8 := v <<< 1 ^^^ (bif v.msb then 27#8 else 0#8)
theorem tw_twV (x : UInt8) : (tw x).toBitVec = twV x.toBitVec := all256 (fun x => (tw x).toBitVec = twV x.toBitVec) (by decide +kernel) x
theorem v_left (x y z : BitVec 8) : x ^^^ (y ^^^ z) = y ^^^ (x ^^^ z) := by rw [← BitVec.xor_assoc, BitVec.xor_comm x y, BitVec.xor_assoc]
theorem tw_xor (x y : UInt8) : tw (x ^^^ y) = tw x ^^^ tw y := by
  apply UInt8.toBitVec_inj.1
  rw [tw_twV, UInt8.toBitVec_xor, UInt8.toBitVec_xor, tw_twV, tw_twV, twV, twV, twV, BitVec.shiftLeft_xor_distrib, BitVec.msb_xor]
  cases x.toBitVec.msb <;> cases y.toBitVec.msb <;> simp [BitVec.xor_assoc, BitVec.xor_comm, v_left]
theorem xor_left (x y z : UInt8) : x ^^^ (y ^^^ z) = y ^^^ (x ^^^ z) := by rw [← UInt8.xor_assoc, UInt8.xor_comm x y, UInt8.xor_assoc]
theorem xor_back (x y : UInt8) : x ^^^ (x ^^^ y) = y := by rw [← UInt8.xor_assoc, UInt8.xor_self, UInt8.zero_xor]
theorem mx_sq (a b c d : UInt8) : mxB (mxB a b c d) (mxB b c d a) (mxB c d a b) (mxB d a b c) = a ^^^ tw (tw a) ^^^ tw (tw c) := by
  simp only [mxB, tw_xor]
  generalize tw (tw a) = a2
  generalize tw (tw b) = b2
  generalize tw (tw c) = c2
  generalize tw (tw d) = d2
  generalize tw a = a1
  generalize tw b = b1
  generalize tw c = c1
  generalize tw d = d1
  simp only [UInt8.xor_assoc]
  simp only [UInt8.xor_comm, xor_left, xor_back, UInt8.xor_self, UInt8.xor_zero, UInt8.zero_xor]
/-- A column mixed four times is itself. -/
theorem mx_inj {a b c d a' b' c' d' : UInt8} (h1 : mxB a b c d = mxB a' b' c' d') (h2 : mxB b c d a = mxB b' c' d' a') (h3 : mxB c d a b = mxB c' d' a' b') (h4 : mxB d a b c = mxB d' a' b' c') :
    a = a' ∧ c = c' := by
  have s1 := mx_sq a b c d
  have s3 := mx_sq c d a b
  rw [h1, h2, h3, h4, mx_sq a' b' c' d'] at s1
  rw [h1, h2, h3, h4, mx_sq c' d' a' b'] at s3
  have e : a ^^^ c = a' ^^^ c' := by
    have h : (a' ^^^ tw (tw a') ^^^ tw (tw c')) ^^^ (c' ^^^ tw (tw c') ^^^ tw (tw a')) = (a ^^^ tw (tw a) ^^^ tw (tw c)) ^^^ (c ^^^ tw (tw c) ^^^ tw (tw a)) := by rw [s1, s3]
    generalize tw (tw a) = a2 at h
    generalize tw (tw c) = c2 at h
    generalize tw (tw a') = a3 at h
    generalize tw (tw c') = c3 at h
    simp only [UInt8.xor_assoc] at h
    simp only [UInt8.xor_comm, xor_left, xor_back, UInt8.xor_self, UInt8.xor_zero, UInt8.zero_xor] at h
    rw [UInt8.xor_comm a c, UInt8.xor_comm a' c']
    first | exact h.symm | (rw [UInt8.xor_comm c a, UInt8.xor_comm c' a']; exact h.symm)
  have e2 : tw (tw a) ^^^ tw (tw c) = tw (tw a') ^^^ tw (tw c') := by rw [← tw_xor, ← tw_xor, e, tw_xor, tw_xor]
  constructor
  · rw [UInt8.xor_assoc, UInt8.xor_assoc, e2] at s1
    have := congrArg (fun z => z ^^^ (tw (tw a') ^^^ tw (tw c'))) s1
    simpa only [UInt8.xor_assoc, UInt8.xor_self, UInt8.xor_zero] using this.symm
  · rw [UInt8.xor_assoc, UInt8.xor_assoc, UInt8.xor_comm (tw (tw c)), UInt8.xor_comm (tw (tw c')), e2] at s3
    have := congrArg (fun z => z ^^^ (tw (tw a') ^^^ tw (tw c'))) s3
    simpa only [UInt8.xor_assoc, UInt8.xor_self, UInt8.xor_zero] using this.symm

theorem list16 {l : List UInt8} (h : l.length = 16) : ∃ x0 x1 x2 x3 x4 x5 x6 x7 x8 x9 x10 x11 x12 x13 x14 x15, l = [x0, x1, x2, x3, x4, x5, x6, x7, x8, x9, x10, x11, x12, x13, x14, x15] := by
  match l, h with
  | [x0, x1, x2, x3, x4, x5, x6, x7, x8, x9, x10, x11, x12, x13, x14, x15], _ => exact ⟨_, _, _, _, _, _, _, _, _, _, _, _, _, _, _, _, rfl⟩
theorem xor_can {x y z : UInt8} (h : x ^^^ z = y ^^^ z) : x = y := by
  have := congrArg (· ^^^ z) h
  simpa only [UInt8.xor_assoc, UInt8.xor_self, UInt8.xor_zero] using this

theorem addL16 (x0 x1 x2 x3 x4 x5 x6 x7 x8 x9 x10 x11 x12 x13 x14 x15 z0 z1 z2 z3 z4 z5 z6 z7 z8 z9 z10 z11 z12 z13 z14 z15 : UInt8) : addL [x0, x1, x2, x3, x4, x5, x6, x7, x8, x9, x10, x11, x12, x13, x14, x15] [z0, z1, z2, z3, z4, z5, z6, z7, z8, z9, z10, z11, z12, z13, z14, z15] = [x0 ^^^ z0, x1 ^^^ z1, x2 ^^^ z2, x3 ^^^ z3, x4 ^^^ z4, x5 ^^^ z5, x6 ^^^ z6, x7 ^^^ z7, x8 ^^^ z8, x9 ^^^ z9, x10 ^^^ z10, x11 ^^^ z11, x12 ^^^ z12, x13 ^^^ z13, x14 ^^^ z14, x15 ^^^ z15] := by kernel_rfl
theorem mvL16 (x0 x1 x2 x3 x4 x5 x6 x7 x8 x9 x10 x11 x12 x13 x14 x15 : UInt8) : mvL [x0, x1, x2, x3, x4, x5, x6, x7, x8, x9, x10, x11, x12, x13, x14, x15] = [sB x0, sB x5, sB x10, sB x15, sB x4, sB x9, sB x14, sB x3, sB x8, sB x13, sB x2, sB x7, sB x12, sB x1, sB x6, sB x11] := by kernel_rfl
theorem mxL16 (x0 x1 x2 x3 x4 x5 x6 x7 x8 x9 x10 x11 x12 x13 x14 x15 : UInt8) : mxL [x0, x1, x2, x3, x4, x5, x6, x7, x8, x9, x10, x11, x12, x13, x14, x15] = [mxB x0 x1 x2 x3, mxB x1 x2 x3 x0, mxB x2 x3 x0 x1, mxB x3 x0 x1 x2, mxB x4 x5 x6 x7, mxB x5 x6 x7 x4, mxB x6 x7 x4 x5, mxB x7 x4 x5 x6, mxB x8 x9 x10 x11, mxB x9 x10 x11 x8, mxB x10 x11 x8 x9, mxB x11 x8 x9 x10, mxB x12 x13 x14 x15, mxB x13 x14 x15 x12, mxB x14 x15 x12 x13, mxB x15 x12 x13 x14] := by kernel_rfl

theorem addL_inj {l l' m : List UInt8} (h1 : l.length = 16) (h2 : l'.length = 16) (h3 : m.length = 16) (h : addL l m = addL l' m) : l = l' := by
  obtain ⟨x0, x1, x2, x3, x4, x5, x6, x7, x8, x9, x10, x11, x12, x13, x14, x15, rfl⟩ := list16 h1
  obtain ⟨y0, y1, y2, y3, y4, y5, y6, y7, y8, y9, y10, y11, y12, y13, y14, y15, rfl⟩ := list16 h2
  obtain ⟨z0, z1, z2, z3, z4, z5, z6, z7, z8, z9, z10, z11, z12, z13, z14, z15, rfl⟩ := list16 h3
  rw [addL16, addL16] at h
  simp only [List.cons.injEq, and_true] at h
  obtain ⟨e0, e1, e2, e3, e4, e5, e6, e7, e8, e9, e10, e11, e12, e13, e14, e15⟩ := h
  rw [xor_can e0, xor_can e1, xor_can e2, xor_can e3, xor_can e4, xor_can e5, xor_can e6, xor_can e7, xor_can e8, xor_can e9, xor_can e10, xor_can e11, xor_can e12, xor_can e13, xor_can e14, xor_can e15]
theorem mvL_inj {l l' : List UInt8} (h1 : l.length = 16) (h2 : l'.length = 16) (h : mvL l = mvL l') : l = l' := by
  obtain ⟨x0, x1, x2, x3, x4, x5, x6, x7, x8, x9, x10, x11, x12, x13, x14, x15, rfl⟩ := list16 h1
  obtain ⟨y0, y1, y2, y3, y4, y5, y6, y7, y8, y9, y10, y11, y12, y13, y14, y15, rfl⟩ := list16 h2
  rw [mvL16, mvL16] at h
  simp only [List.cons.injEq, and_true] at h
  obtain ⟨e0, e5, e10, e15, e4, e9, e14, e3, e8, e13, e2, e7, e12, e1, e6, e11⟩ := h
  rw [sB_inj e0, sB_inj e1, sB_inj e2, sB_inj e3, sB_inj e4, sB_inj e5, sB_inj e6, sB_inj e7, sB_inj e8, sB_inj e9, sB_inj e10, sB_inj e11, sB_inj e12, sB_inj e13, sB_inj e14, sB_inj e15]
theorem mxL_inj {l l' : List UInt8} (h1 : l.length = 16) (h2 : l'.length = 16) (h : mxL l = mxL l') : l = l' := by
  obtain ⟨x0, x1, x2, x3, x4, x5, x6, x7, x8, x9, x10, x11, x12, x13, x14, x15, rfl⟩ := list16 h1
  obtain ⟨y0, y1, y2, y3, y4, y5, y6, y7, y8, y9, y10, y11, y12, y13, y14, y15, rfl⟩ := list16 h2
  rw [mxL16, mxL16] at h
  simp only [List.cons.injEq, and_true] at h
  obtain ⟨e0, e1, e2, e3, e4, e5, e6, e7, e8, e9, e10, e11, e12, e13, e14, e15⟩ := h
  obtain ⟨rfl, rfl⟩ := mx_inj e0 e1 e2 e3
  obtain ⟨rfl, rfl⟩ := mx_inj e1 e2 e3 e0
  obtain ⟨rfl, rfl⟩ := mx_inj e4 e5 e6 e7
  obtain ⟨rfl, rfl⟩ := mx_inj e5 e6 e7 e4
  obtain ⟨rfl, rfl⟩ := mx_inj e8 e9 e10 e11
  obtain ⟨rfl, rfl⟩ := mx_inj e9 e10 e11 e8
  obtain ⟨rfl, rfl⟩ := mx_inj e12 e13 e14 e15
  obtain ⟨rfl, rfl⟩ := mx_inj e13 e14 e15 e12
  rfl

theorem rdS_inj {ks : List (List UInt8)} (hk : B11 ks) {l l' : List UInt8} (h1 : l.length = 16) (h2 : l'.length = 16) (k : Nat) (hk9 : k ≤ 9) (h : rdS ks l k = rdS ks l' k) : l = l' := by
  induction k with
  | zero => exact addL_inj h1 h2 (hk.at_ (by omega)) h
  | succ k ih => exact ih (by omega) (mvL_inj (rdS_len ks h1 k) (rdS_len ks h2 k) (mxL_inj (mvL_len _) (mvL_len _) (addL_inj (mxL_len (mvL_len _)) (mxL_len (mvL_len _)) (hk.at_ (by omega)) h)))
theorem seL_inj {ks : List (List UInt8)} (hk : B11 ks) {l l' : List UInt8} (h1 : l.length = 16) (h2 : l'.length = 16) (h : seL ks l = seL ks l') : l = l' :=
  rdS_inj hk h1 h2 9 (Nat.le_refl _) (mvL_inj (rdS_len ks h1 9) (rdS_len ks h2 9) (addL_inj (mvL_len _) (mvL_len _) (hk.at_ (by omega)) h))
end Go.Proofs.Ytkefjckhkibpfaa
