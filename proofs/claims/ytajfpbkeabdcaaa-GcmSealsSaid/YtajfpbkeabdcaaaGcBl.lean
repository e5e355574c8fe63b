/-
  gcm.polynomial.block: a polynomial's block.
-/
import Derived.Test.YtajfpbkeabdcaaaGcOf
namespace Go.Proofs.Ytajfpbkeabdcaaa
open Go.RowKit
set_option linter.unusedVariables false

/-- A word's byte above s bits. -/
def byW (x : W64) (s : Nat) : UInt8 := UInt8.ofNat (x.toNat / 2 ^ s % 256)
def blK (v : W128) : Nat → List UInt8
  | 0 => List.replicate 16 0
  | k + 1 => ((blK v k).set k (byW (loG v) (56 - 8 * k))).set (8 + k) (byW (hiG v) (56 - 8 * k))
theorem blK_len (v : W128) (k : Nat) : (blK v k).length = 16 := by
  induction k with
  | zero => rfl
  | succ k ih => simp [blK, ih]
theorem byW_bit (x : W64) (s t : Nat) (ht : t < 8) : (byW x s).toNat.testBit t = x.getLsbD (s + t) := by
  unfold byW
  have e : (UInt8.ofNat (x.toNat / 2 ^ s % 256)).toNat = x.toNat / 2 ^ s % 2 ^ 8 := by simp
  rw [e, Nat.testBit_mod_two_pow, decide_eq_true ht, Bool.true_and, Nat.testBit_div_two_pow, BitVec.getLsbD, Nat.add_comm]
theorem wq_byW (x : W64) (s : Nat) : wq x / 2 ^ s % (256 : Int) = ((byW x s).toNat : Int) := by
  unfold byW wq
  have e : (UInt8.ofNat (x.toNat / 2 ^ s % 256)).toNat = x.toNat / 2 ^ s % 256 := by simp
  rw [e, Int.natCast_emod, Int.natCast_ediv, Int.natCast_pow]
  rfl
theorem u8_ext {x y : UInt8} (h : ∀ t, t < 8 → x.toNat.testBit t = y.toNat.testBit t) : x = y := by
  have big : ∀ (x : UInt8) (t : Nat), ¬ t < 8 → x.toNat.testBit t = false := fun x t ht =>
    Nat.testBit_lt_two_pow (Nat.lt_of_lt_of_le x.toNat_lt (Nat.pow_le_pow_right (by omega) (by omega)))
  refine UInt8.toNat_inj.1 (Nat.eq_of_testBit_eq fun t => ?_)
  by_cases ht : t < 8
  · exact h t ht
  · rw [big _ t ht, big _ t ht]
theorem byW_lo (v : W128) (k : Nat) (hk : k < 8) : byW (loG v) (56 - 8 * k) = byG v k := u8_ext fun t ht => by
  rw [byW_bit _ _ _ ht, by_bit _ _ _ ht, lo_bit _ _ (by omega)]
  congr 1
  omega
theorem byW_hi (v : W128) (k : Nat) (hk : k < 8) : byW (hiG v) (56 - 8 * k) = byG v (8 + k) := u8_ext fun t ht => by
  rw [byW_bit _ _ _ ht, by_bit _ _ _ ht, hi_bit _ _ (by omega)]
  congr 1
  omega
theorem blK_get (v : W128) (k : Nat) (hk : k ≤ 8) (i : Nat) (hi : i < 16) : (blK v k)[i]? = some (if i < k ∨ (8 ≤ i ∧ i < 8 + k) then byG v i else 0) := by
  induction k with
  | zero => rw [if_neg (by omega), blK, List.getElem?_replicate, if_pos hi]
  | succ k ih =>
    have hl := blK_len v k
    rw [blK, byW_lo v k (by omega), byW_hi v k (by omega)]
    by_cases h1 : 8 + k = i
    · subst h1
      rw [List.getElem?_set_self (by rw [List.length_set]; omega), if_pos (by omega)]
    · rw [List.getElem?_set_ne h1]
      by_cases h2 : k = i
      · subst h2
        rw [List.getElem?_set_self (by omega), if_pos (by omega)]
      · rw [List.getElem?_set_ne h2, ih (by omega)]
        congr 1
        by_cases h3 : i < k ∨ (8 ≤ i ∧ i < 8 + k)
        · rw [if_pos h3, if_pos (by omega)]
        · rw [if_neg h3, if_neg (by omega)]
theorem blK_all (v : W128) : blK v 8 = blG v := by
  apply List.ext_getElem?
  intro i
  by_cases hi : i < 16
  · rw [blK_get v 8 (Nat.le_refl _) i hi, if_pos (by omega), blG, List.getElem?_map, List.getElem?_range hi]
    rfl
  · rw [List.getElem?_eq_none (by rw [blK_len]; omega), List.getElem?_eq_none (by rw [bl_len]; omega)]

set_option maxRecDepth 100000 in
set_option maxHeartbeats 400000 in
theorem block_any (v : W128) (w : World) :
    Calls Try.prog 24 #[.agg (pRow v)] w fun e w' => e = .returned (.agg (aRow (blG v))) ∧ Below w.heap.size w w' := by
  go_enter Try.func24, Try.ntmps24
  go_wp2
  rw [zeros16]
  obtain ⟨hbe, h1, h2, h3⟩ := made3 w (pRow v) (aRow (List.replicate 16 0)) (aRow (List.replicate 16 0)) 48 22 22
  generalize ((w.alloc (.cells (pRow v) 48)).alloc (.cells (aRow (List.replicate 16 0)) 22)).alloc (.cells (aRow (List.replicate 16 0)) 22) = W at *
  obtain ⟨a, ha⟩ : ∃ a, a = w.heap.size := ⟨_, rfl⟩
  rw [← ha] at h1 h2 h3 ⊢
  obtain ⟨r, hr⟩ : ∃ b', b' = a + 1 := ⟨_, rfl⟩
  rw [← hr] at h2 h3 ⊢
  obtain ⟨n, hn⟩ : ∃ b', b' = r + 1 := ⟨_, rfl⟩
  rw [← hn] at h3 ⊢
  have han : a < n := by omega
  have hrn : r < n := by omega
  have har : a ≤ r := by omega
  have HA := Lib.hid ha
  have HBE := Lib.hid hbe
  have H1 := Lib.hid h1
  have H2 := Lib.hid h2
  have H3 := Lib.hid h3
  clear ha hr hn hbe h1 h2 h3
  obtain ⟨x, hx⟩ : ∃ x, x = loG v := ⟨_, rfl⟩
  obtain ⟨y, hy⟩ : ∃ y, y = hiG v := ⟨_, rfl⟩
  have HX := Deep.mk hx
  have HY := Deep.mk hy
  clear hx hy
  have hx0 := wq_nn x
  have hx1 := wq_lt x
  have hy0 := wq_nn y
  have hy1 := wq_lt y
  go_loopw [4, 5, 6] (fun _ _ i wr => ∃ k : Nat, k ≤ 8 ∧ i = .int .i64 (k : Int) ∧ Hid (Wh wr n 22 (aRow (blK v k))) ∧ Hid (W.grownBy wr (some n))) (fun _ _ i _ => 8 - (intOf i).toNat)
  case atStart => exact ⟨0, by omega, rfl, H3, Lib.hid (World.grownBy.refl _ _)⟩
  case round =>
    obtain ⟨k, hk, rfl, HW, HG⟩ := hrel
    by_cases hlt : k < 8
    · have hkd : decide ((k : Int) < 8) = true := by rw [decide_eq_true_iff]; omega
      obtain ⟨s, hs⟩ : ∃ s, s = blK v k := ⟨_, rfl⟩
      have hsl : s.length = 16 := by rw [hs, blK_len]
      rw [← hs] at HW
      have hgr : Wh wr a 48 (pRow v) := H1.out.grown HG.out (by intro e; have := Option.some.inj e; omega)
      have c0 := (hgr.cell 0).trans (pRow_at0 v)
      have c1 := (hgr.cell 1).trans (pRow_at1 v)
      rw [← HX.out] at c0
      rw [← HY.out] at c1
      have k0 := (HW.out.cell k).trans (aRow_at (by omega))
      have k1 := (HW.out.cell (8 + k)).trans (aRow_at (by omega))
      have f0 := HW.out.frozen k
      have f1 := HW.out.frozen (8 + k)
      generalize s.getD k 0 = u0 at *
      generalize s.getD (8 + k) 0 = u1 at *
      clear hgr
      obtain ⟨q, hq⟩ : ∃ q, q = 56 - 8 * k := ⟨_, rfl⟩
      have hqi : 56 - 8 * (k : Int) = (q : Int) := by omega
      have HS := Deep.mk hs
      have HQ := Deep.mk hq
      have HSL := Deep.mk hsl
      clear hs hq hsl
      go_wp2
      rw [wq_byW, wq_byW]
      have h1 := HW.out.put k (.int .u8 ((byW x q).toNat : Int))
      have g1 := grown_set wr n k (.int .u8 ((byW x q).toNat : Int))
      rw [aRow_set] at h1
      have h2 := h1.put (8 + k) (.int .u8 ((byW y q).toNat : Int))
      have g2 := grown_set (wr.setCell ⟨n, k, none⟩ (.int .u8 ((byW x q).toNat : Int))) n (8 + k) (.int .u8 ((byW y q).toNat : Int))
      rw [aRow_set] at h2
      refine ⟨⟨k + 1, by omega, by go_num, ?_, Lib.hid (grown_trans HG.out (grown_trans g1 g2))⟩, by simp [intOf]; omega⟩
      rw [blK, ← HS.out, ← HQ.out, ← HX.out, ← HY.out]
      exact Lib.hid h2
    · have hkd : decide ((k : Int) < 8) = false := by rw [decide_eq_false_iff_not]; omega
      have hk8 : k = 8 := by omega
      obtain ⟨z, hz⟩ : ∃ z, z = blG v := ⟨_, rfl⟩
      have HWN : Hid (Wh wr n 22 (aRow z)) := by
        have h := HW.out
        rw [hk8, blK_all, ← hz] at h
        exact Lib.hid h
      have HRR : Hid (Wh wr r 22 (aRow (List.replicate 16 0))) := Lib.hid (H2.out.grown HG.out (by intro e; have := Option.some.inj e; omega))
      have HBW := Lib.hid (below_grown HBE.out HG.out (by rw [← HA.out]; omega) HBE.out.size)
      have hwr : w.heap.size ≤ r := by rw [← HA.out]; exact har
      have HZL : Deep (z.length = 16) := ⟨by rw [hz]; exact bl_len v⟩
      have HZ := Deep.mk hz
      clear HW HG hlt hk hk8 hz
      go_wp2_with (first
        | (refine wpList_load_row rfl 22 (.tmp 3) rfl n rfl _ (aRow z) _ _ HWN.out Try.underlying22 rfl (info_aRow HZL.out) ?_)
        | (refine wpList_store_row rfl 22 (.tmp 2) (.tmp 28) rfl r (aRow z) rfl rfl _ _ HRR.out (info_aRow HZL.out) (by rw [aRow_size, aRow_size, HZL.out]; rfl) (aRow_one _) ?_))
      refine bodyPost_ret (v := .agg (aRow z)) (results_cell_row Try.results24 _ _ r _ _ (0, 0) _ rfl (setRow_heap wr r _ _ _ _ HRR.out) Try.underlying22 rfl (info_aRow HZL.out)) rfl ?_
      exact ⟨by rw [HZ.out], below_setRow HBW.out hwr _⟩
end Go.Proofs.Ytajfpbkeabdcaaa
