/-
  What was sealed is opened as it was; one bit changed, and it is not: plain mathematics over gcm's specification.
-/
import Derived.Test.YtajfpbkeabdcaaaGcOpen
namespace Go.Proofs.Ytajfpbkeabdcaaa
open Go.RowKit

/-- The blocks of bytes. -/
def cksG (b : List UInt8) : List W128 := (List.range ((b.length + 15) / 16)).map fun j => bkG (ckG b j)
theorem fdN_fold (f s : W128) (b : List UInt8) (j : Nat) : fdN f s b j = ((List.range j).map fun i => bkG (ckG b i)).foldl (fun y b => tmG (y ^^^ b) f) s := by
  induction j with
  | zero => rfl
  | succ j ih => rw [fdN, ih, List.range_succ, List.map_append, List.foldl_append]; rfl
theorem fdW_fold (f s : W128) (b : List UInt8) : fdW f s b = (cksG b).foldl (fun y b => tmG (y ^^^ b) f) s := fdN_fold f s b _
/-- One bit changed is one bit of one block. -/
theorem cks_set (b : List UInt8) (p t : Nat) (hp : p < b.length) (ht : t < 8) : ∃ L x i M, cksG b = L ++ x :: M ∧ cksG (b.set p (b.getD p 0 ^^^ UInt8.ofNat (2 ^ t))) = L ++ (x ^^^ pwG i oneG) :: M := by
  obtain ⟨q, hq⟩ : ∃ q, (b.length + 15) / 16 = p / 16 + (q + 1) := ⟨(b.length + 15) / 16 - p / 16 - 1, by omega⟩
  have hr : List.range ((b.length + 15) / 16) = List.range (p / 16) ++ (p / 16) :: (List.range q).map (fun i => p / 16 + 1 + i) := by
    rw [hq, List.range_add, List.range_succ_eq_map, List.map_cons, List.map_map]
    congr 1
    congr 1
    apply List.map_congr_left
    intro i _
    show p / 16 + (i + 1) = _
    omega
  refine ⟨(List.range (p / 16)).map (fun i => bkG (ckG b i)), bkG (ckG b (p / 16)), 8 * (p % 16) + (7 - t), ((List.range q).map (fun i => p / 16 + 1 + i)).map (fun i => bkG (ckG b i)), ?_, ?_⟩
  · rw [cksG, hr, List.map_append, List.map_cons]
  · have a1 : (List.range (p / 16)).map (fun i => bkG (ckG (b.set p (b.getD p 0 ^^^ UInt8.ofNat (2 ^ t))) i)) = (List.range (p / 16)).map (fun i => bkG (ckG b i)) := by
      apply List.map_congr_left
      intro i hi
      have : i < p / 16 := by simpa using hi
      rw [ck_set b p t i hp, if_neg (by omega)]
    have a2 : ((List.range q).map (fun i => p / 16 + 1 + i)).map (fun i => bkG (ckG (b.set p (b.getD p 0 ^^^ UInt8.ofNat (2 ^ t))) i)) = ((List.range q).map (fun i => p / 16 + 1 + i)).map (fun i => bkG (ckG b i)) := by
      apply List.map_congr_left
      intro i hi
      obtain ⟨j, _, rfl⟩ := List.mem_map.1 hi
      rw [ck_set b p t _ hp, if_neg (by omega)]
    rw [cksG, List.length_set, hr, List.map_append, List.map_cons, a1, a2, ck_set b p t _ hp, if_pos rfl, bk_xor (ck_len _ _) (un_len _ _), un_bk (p % 16) (by omega) t ht]
/-- A tag's polynomial is the hash of all blocks. -/
theorem tgW_hash (ks : List (List UInt8)) (nn l m : List UInt8) : tgW ks nn l m = hashG (kyG ks) (cksG l ++ (cksG m ++ [lnW (8 * l.length) (8 * m.length)])) := by
  rw [tgW, fdW_fold, fdW_fold, hashG, List.foldl_append, List.foldl_append]
  rfl
theorem tg_ne {ks : List (List UInt8)} {nn l m l' m' : List UInt8} (h : tgW ks nn l m ≠ tgW ks nn l' m') : tgL ks nn l m ≠ tgL ks nn l' m' := by
  intro e
  have e2 := bl_inj e
  apply h
  have := congrArg (fun v => v ^^^ bkG (stG ks nn 1)) e2
  simp only [BitVec.xor_assoc, BitVec.xor_self, BitVec.xor_zero] at this
  exact this
theorem tg_text {ks : List (List UInt8)} (hk : kyG ks ≠ 0#128) (nn l m : List UInt8) (p t : Nat) (hp : p < m.length) (ht : t < 8) : tgL ks nn l (m.set p (m.getD p 0 ^^^ UInt8.ofNat (2 ^ t))) ≠ tgL ks nn l m := by
  apply tg_ne
  obtain ⟨L, x, i, M, h1, h2⟩ := cks_set m p t hp ht
  rw [tgW_hash, tgW_hash, h1, h2, List.length_set, List.append_assoc, List.append_assoc, ← List.append_assoc, ← List.append_assoc (cksG l), List.cons_append, List.cons_append]
  exact hash_bit hk _ _ _ _
theorem tg_aad {ks : List (List UInt8)} (hk : kyG ks ≠ 0#128) (nn l m : List UInt8) (p t : Nat) (hp : p < l.length) (ht : t < 8) : tgL ks nn (l.set p (l.getD p 0 ^^^ UInt8.ofNat (2 ^ t))) m ≠ tgL ks nn l m := by
  apply tg_ne
  obtain ⟨L, x, i, M, h1, h2⟩ := cks_set l p t hp ht
  rw [tgW_hash, tgW_hash, h1, h2, List.length_set, List.append_assoc, List.append_assoc, List.cons_append, List.cons_append]
  exact hash_bit hk _ _ _ _

/-- Turned twice: nothing. -/
theorem tu_tu (ks : List (List UInt8)) (nn l : List UInt8) : tuL ks nn (tuL ks nn l) = l := by
  apply List.ext_getElem (by rw [tu_len, tu_len])
  intro i h1 h2
  have h3 : i < (tuL ks nn l).length := by rw [tu_len]; exact h2
  have e : (tuL ks nn l).getD i 0 = l.getD i 0 ^^^ (stG ks nn (2 + i / 16)).getD (i % 16) 0 := by
    rw [List.getD_eq_getElem?_getD, tuL, List.getElem?_map, List.getElem?_range h2]
    rfl
  have e2 : (tuL ks nn (tuL ks nn l))[i] = (tuL ks nn l).getD i 0 ^^^ (stG ks nn (2 + i / 16)).getD (i % 16) 0 := by
    rw [← Option.some.injEq, ← List.getElem?_eq_getElem, tuL, List.getElem?_map, List.getElem?_range h3]
    rfl
  rw [e2, e, UInt8.xor_assoc, UInt8.xor_self, UInt8.xor_zero, List.getD_eq_getElem?_getD, List.getElem?_eq_getElem h2]
  rfl
theorem seal_take (key nn l m : List UInt8) : (sealK key nn l m).take ((sealK key nn l m).length - 16) = tuL (ksL key) nn m := by
  rw [sealK_len, sealK, List.take_append_of_le_length (by rw [tu_len]; omega), List.take_of_length_le (by rw [tu_len]; omega)]
theorem seal_drop (key nn l m : List UInt8) : (sealK key nn l m).drop ((sealK key nn l m).length - 16) = tgL (ksL key) nn l (tuL (ksL key) nn m) := by
  rw [sealK_len, sealK, List.drop_append, List.drop_eq_nil_of_le (by rw [tu_len]; omega), tu_len]
  simp
theorem seal_ok (key nn l m : List UInt8) : OkG key nn l (sealK key nn l m) := ⟨by rw [sealK_len]; omega, by rw [seal_take, seal_drop]⟩
theorem seal_tx (key nn l m : List UInt8) : txK key nn (sealK key nn l m) = m := by rw [txK, seal_take, tu_tu]
theorem xor_bit_ne (x : UInt8) (t : Nat) (ht : t < 8) : x ^^^ UInt8.ofNat (2 ^ t) ≠ x := by
  intro e
  have e2 : UInt8.ofNat (2 ^ t) = 0 := by
    have := congrArg (fun y => x ^^^ y) e
    simpa [← UInt8.xor_assoc] using this
  have : ∀ t : Nat, t < 8 → UInt8.ofNat (2 ^ t) ≠ 0 := by decide
  exact this t ht e2
/-- A bit changed, of what was sealed: it is not opened. -/
theorem bad_seal {key : List UInt8} (hk : kyG (ksL key) ≠ 0#128) (nn l m : List UInt8) (p t : Nat) (hp : p < (sealK key nn l m).length) (ht : t < 8) :
    ¬ OkG key nn l ((sealK key nn l m).set p ((sealK key nn l m).getD p 0 ^^^ UInt8.ofNat (2 ^ t))) := by
  intro h
  have h2 := h.2
  rw [List.length_set, List.take_set, List.drop_set, seal_take, seal_drop] at h2
  have hlen : (sealK key nn l m).length - 16 = m.length := by rw [sealK_len]; omega
  rw [hlen] at h2
  by_cases hpm : p < m.length
  · rw [if_pos hpm] at h2
    have e : (sealK key nn l m).getD p 0 = (tuL (ksL key) nn m).getD p 0 := by
      rw [sealK, List.getD_eq_getElem?_getD, List.getElem?_append_left (by rw [tu_len]; exact hpm)]
      rfl
    rw [e] at h2
    exact tg_text hk nn l (tuL (ksL key) nn m) p t (by rw [tu_len]; exact hpm) ht h2
  · rw [if_neg hpm, List.set_eq_of_length_le (by rw [tu_len]; omega)] at h2
    have hq : p - m.length < (tgL (ksL key) nn l (tuL (ksL key) nn m)).length := by rw [tg_len]; rw [sealK_len] at hp; omega
    have e : (sealK key nn l m).getD p 0 = (tgL (ksL key) nn l (tuL (ksL key) nn m)).getD (p - m.length) 0 := by
      rw [sealK, List.getD_eq_getElem?_getD, List.getElem?_append_right (by rw [tu_len]; omega), tu_len]
      rfl
    rw [e] at h2
    have h3 := congrArg (fun l => l[p - m.length]?) h2
    simp only [List.getElem?_set_self hq, List.getElem?_eq_getElem hq, Option.some.injEq] at h3
    rw [List.getD_eq_getElem?_getD, List.getElem?_eq_getElem hq, Option.getD_some] at h3
    exact xor_bit_ne _ t ht h3.symm
/-- A bit changed, of the aad. -/
theorem bad_aad {key : List UInt8} (hk : kyG (ksL key) ≠ 0#128) (nn l m : List UInt8) (p t : Nat) (hp : p < l.length) (ht : t < 8) :
    ¬ OkG key nn (l.set p (l.getD p 0 ^^^ UInt8.ofNat (2 ^ t))) (sealK key nn l m) := by
  intro h
  have h2 := h.2
  rw [seal_take, seal_drop] at h2
  exact tg_aad hk nn l (tuL (ksL key) nn m) p t hp ht h2
theorem ky_ne {key : List UInt8} (h : seL (ksL key) (List.replicate 16 0) ≠ List.replicate 16 0) : kyG (ksL key) ≠ 0#128 := fun e => h (bk_inj (seL_len _ _) rfl (e.trans bk_zero.symm))

/-! The document's examples, reckoned. -/
def ex0 : List UInt8 := [0x58, 0xe2, 0xfc, 0xce, 0xfa, 0x7e, 0x30, 0x61, 0x36, 0x7f, 0x1d, 0x57, 0xa4, 0xe7, 0x45, 0x5a]
def ex1 : List UInt8 := [0x03, 0x88, 0xda, 0xce, 0x60, 0xb6, 0xa3, 0x92, 0xf3, 0x28, 0xc2, 0xb9, 0x71, 0xb2, 0xfe, 0x78, 0xab, 0x6e, 0x47, 0xd4, 0x2c, 0xec, 0x13, 0xbd, 0xf5, 0x3a, 0x67, 0xb2, 0x12, 0x57, 0xbd, 0xdf]
theorem ex_0 : sealK (List.replicate 16 0) (List.replicate 12 0) [] [] = ex0 := by decide +kernel
theorem ex_1 : sealK (List.replicate 16 0) (List.replicate 12 0) [] (List.replicate 16 0) = ex1 := by decide +kernel
theorem ex_no : ¬ OkG (List.replicate 16 0) (List.replicate 12 0) [] (ex1.drop 1) := by
  intro h
  have : tgL (ksL (List.replicate 16 0)) (List.replicate 12 0) [] ((ex1.drop 1).take ((ex1.drop 1).length - 16)) ≠ (ex1.drop 1).drop ((ex1.drop 1).length - 16) := by decide +kernel
  exact this h.2
theorem ex_short : ¬ OkG (List.replicate 16 0) (List.replicate 12 0) [] (ex1.take 15) := fun h => by
  have := h.1
  simp [ex1] at this
end Go.Proofs.Ytajfpbkeabdcaaa
