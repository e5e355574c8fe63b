/-
  The hash of bytes, sixteen at a time: a sum's hash is the hashes' sum; where one bit is changed it is another. Plain mathematics; no program is named here.
-/
import Derived.Test.YtajfpbkeabdcaaaGcMath2
namespace Go.Proofs.Ytajfpbkeabdcaaa

/-- The j-th sixteen bytes, noughts behind the last ones. -/
def ckG (b : List UInt8) (j : Nat) : List UInt8 := (List.range 16).map fun k => b.getD (16 * j + k) 0
theorem ck_len (b : List UInt8) (j : Nat) : (ckG b j).length = 16 := by simp [ckG]
/-- The hash, behind j blocks. -/
def hsN (h b : List UInt8) : Nat → List UInt8
  | 0 => List.replicate 16 0
  | j + 1 => tmL (xoG (hsN h b j) (ckG b j)) h
def hashL (h b : List UInt8) : List UInt8 := hsN h b ((b.length + 15) / 16)
theorem hsN_len {h : List UInt8} (hh : h.length = 16) (b : List UInt8) (j : Nat) : (hsN h b j).length = 16 := by
  cases j with
  | zero => simp [hsN]
  | succ j => exact tm_len hh
theorem bk_hsN {h : List UInt8} (hh : h.length = 16) (b : List UInt8) (j : Nat) : bkG (hsN h b j) = hashG (bkG h) ((List.range j).map fun i => bkG (ckG b i)) := by
  induction j with
  | zero => exact bk_zero
  | succ j ih =>
    rw [hsN, bk_tm (xo_len (hsN_len hh b j) (ck_len b j)) hh, bk_xor (hsN_len hh b j) (ck_len b j), ih, List.range_succ, List.map_append]
    unfold hashG
    rw [List.foldl_append]
    rfl
theorem hsN_xor {h : List UInt8} (hh : h.length = 16) (a b : List UInt8) (hl : a.length = b.length) (j : Nat) : hsN h (xoG a b) j = xoG (hsN h a j) (hsN h b j) := by
  have hck : ∀ i, ckG (xoG a b) i = xoG (ckG a i) (ckG b i) := fun i => by
    unfold ckG xoG
    apply List.ext_getElem (by simp)
    intro k h1 h2
    simp only [List.getElem_map, List.getElem_range, List.getElem_zipWith, List.getD_eq_getElem?_getD, List.getElem?_zipWith]
    by_cases hk : 16 * i + k < a.length
    · have hk2 : 16 * i + k < b.length := by omega
      rw [List.getElem?_eq_getElem hk, List.getElem?_eq_getElem hk2]
      rfl
    · rw [List.getElem?_eq_none (by omega), List.getElem?_eq_none (by omega)]
      rfl
  refine bk_inj (hsN_len hh _ j) (xo_len (hsN_len hh a j) (hsN_len hh b j)) ?_
  rw [bk_xor (hsN_len hh a j) (hsN_len hh b j), bk_hsN hh, bk_hsN hh, bk_hsN hh, ← hash_add _ _ _ (by simp), List.zipWith_map_left, List.zipWith_map_right]
  congr 1
  apply List.ext_getElem (by simp)
  intro k h1 h2
  simp only [List.getElem_map, List.getElem_range, List.getElem_zipWith]
  rw [hck, bk_xor (ck_len a k) (ck_len b k)]
theorem hash_xor {h : List UInt8} (hh : h.length = 16) (a b : List UInt8) (hl : a.length = b.length) : hashL h (xoG a b) = xoG (hashL h a) (hashL h b) := by
  have e : (xoG a b).length = a.length := by simp [xoG, hl]
  unfold hashL
  rw [e, hsN_xor hh a b hl, hl]
/-- A block with one bit alone. -/
def unG (k t : Nat) : List UInt8 := (List.replicate 16 (0 : UInt8)).set k (UInt8.ofNat (2 ^ t))
theorem un_bk : ∀ k : Nat, k < 16 → ∀ t : Nat, t < 8 → bkG (unG k t) = pwG (8 * k + (7 - t)) oneG := by decide +kernel
theorem un_len (k t : Nat) : (unG k t).length = 16 := by simp [unG]
theorem ck_set (b : List UInt8) (p t i : Nat) (hp : p < b.length) : ckG (b.set p (b.getD p 0 ^^^ UInt8.ofNat (2 ^ t))) i = if i = p / 16 then xoG (ckG b i) (unG (p % 16) t) else ckG b i := by
  split
  · next h =>
    subst h
    unfold ckG xoG unG
    apply List.ext_getElem (by simp)
    intro k h1 h2
    have hk : k < 16 := by simpa using h1
    simp only [List.getElem_map, List.getElem_range, List.getElem_zipWith, List.getD_eq_getElem?_getD, List.getElem_set, List.getElem_replicate]
    by_cases e : p % 16 = k
    · have e2 : 16 * (p / 16) + k = p := by omega
      rw [e2, if_pos e, List.getElem?_set_self hp]
      rfl
    · rw [if_neg e, List.getElem?_set_ne (by omega)]
      simp
  · next h =>
    unfold ckG
    apply List.map_congr_left
    intro k hk
    have hk : k < 16 := by simpa using hk
    simp only [List.getD_eq_getElem?_getD]
    rw [List.getElem?_set_ne (by omega)]
/-- One bit changed: another hash, under a block that is not 0. -/
theorem hash_set {h : List UInt8} (hh : h.length = 16) (h0 : bkG h ≠ 0#128) (b : List UInt8) (p t : Nat) (hp : p < b.length) (ht : t < 8) : hashL h (b.set p (b.getD p 0 ^^^ UInt8.ofNat (2 ^ t))) ≠ hashL h b := by
  intro e
  have e2 := congrArg bkG e
  unfold hashL at e2
  rw [List.length_set, bk_hsN hh, bk_hsN hh] at e2
  obtain ⟨q, hq⟩ : ∃ q, (b.length + 15) / 16 = p / 16 + (q + 1) := ⟨(b.length + 15) / 16 - p / 16 - 1, by omega⟩
  have hr : List.range ((b.length + 15) / 16) = List.range (p / 16) ++ (p / 16) :: (List.range q).map (fun i => p / 16 + 1 + i) := by
    rw [hq, List.range_add, List.range_succ_eq_map, List.map_cons, List.map_map]
    congr 1
    congr 1
    apply List.map_congr_left
    intro i _
    show p / 16 + (i + 1) = _
    omega
  rw [hr, List.map_append, List.map_append, List.map_cons, List.map_cons, ck_set b p t _ hp, if_pos rfl, bk_xor (ck_len _ _) (un_len _ _), un_bk (p % 16) (by omega) t ht] at e2
  have a1 : (List.range (p / 16)).map (fun i => bkG (ckG (b.set p (b.getD p 0 ^^^ UInt8.ofNat (2 ^ t))) i)) = (List.range (p / 16)).map (fun i => bkG (ckG b i)) := by
    apply List.map_congr_left
    intro i hi
    have : i < p / 16 := by simpa using hi
    rw [ck_set b p t i hp, if_neg (by omega)]
  have a2 : ((List.range q).map (fun i => p / 16 + 1 + i)).map (fun i => bkG (ckG (b.set p (b.getD p 0 ^^^ UInt8.ofNat (2 ^ t))) i)) = ((List.range q).map (fun i => p / 16 + 1 + i)).map (fun i => bkG (ckG b i)) := by
    apply List.map_congr_left
    intro i hi
    obtain ⟨j, _, rfl⟩ := List.mem_map.1 hi
    rw [ck_set b p t _ hp, if_neg (by omega)]
  rw [a1, a2] at e2
  exact hash_bit h0 _ _ _ _ e2

end Go.Proofs.Ytajfpbkeabdcaaa
