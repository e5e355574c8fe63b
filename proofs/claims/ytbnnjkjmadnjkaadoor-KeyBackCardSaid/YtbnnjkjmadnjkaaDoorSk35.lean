/-
  gcm.polynomialOf and gcm.polynomial.block: blocks as polynomials, and back. Printed by tools/gen_gcof.py.
  gcm.polynomial.block: a polynomial's block.
-/
import Derived.Test.YtbnnjkjmadnjkaaDoorGcPoly
namespace Go.Proofs.YtbnnjkjmadnjkaaDoor
section
open Go.RowKit
set_option linter.unusedVariables false

/-- Two words in a row. -/
def p2 (a b : W64) : Array Value := #[.int .u64 (wq a), .int .u64 (wq b)]
theorem p2_bk {l : List UInt8} (h : l.length = 16) : p2 (w8N l 0 8) (w8N l 8 8) = pRow (bkG l) := by rw [w8_lo h, w8_hi h]; rfl
theorem p2_0 (a b : W64) : (p2 a b)[0]? = some (.int .u64 (wq a)) := rfl
theorem p2_1 (a b : W64) : (p2 a b)[1]? = some (.int .u64 (wq b)) := rfl
theorem p2_set0 (a b c : W64) : (p2 a b).setIfInBounds 0 (.int .u64 (wq c)) = p2 c b := rfl
theorem p2_set1 (a b c : W64) : (p2 a b).setIfInBounds 1 (.int .u64 (wq c)) = p2 a c := rfl
theorem w8_next (l : List UInt8) (o k : Nat) : w8N l o (k + 1) = w8N l o k <<< 8 ||| BitVec.ofNat 64 (l.getD (o + k) 0).toNat := rfl
theorem wq_in' (x : W64) (b : UInt8) : bits .or .u64 (wq (x <<< 8)) (b.toNat : Int) = wq (x <<< 8 ||| BitVec.ofNat 64 b.toNat) := by rw [← wq_shl8, wq_in]

set_option maxRecDepth 100000 in
set_option maxHeartbeats 400000 in
theorem gof_any (l : List UInt8) (w : World) (hl : l.length = 16) :
    Calls Tryd.prog 59 #[.agg (aRow l)] w fun e w' => e = .returned (.agg (pRow (bkG l))) ∧ Below w.heap.size w w' := by
  have HL := Deep.mk hl
  clear hl
  go_enter Tryd.func59, Tryd.ntmps59
  go_wp2
  obtain ⟨hbe, h1, h2, h3⟩ := made3 w (aRow l) #[.int .u64 0, .int .u64 0] #[.int .u64 0, .int .u64 0] 23 111 111
  generalize ((w.alloc (.cells (aRow l) 23)).alloc (.cells #[.int .u64 0, .int .u64 0] 111)).alloc (.cells #[.int .u64 0, .int .u64 0] 111) = W at *
  rw [z2] at h2 h3
  change Wh W _ _ (p2 (w8N l 0 0) (w8N l 8 0)) at h3
  obtain ⟨a, ha⟩ : ∃ a, a = w.heap.size := ⟨_, rfl⟩
  rw [← ha] at h1 h2 h3 ⊢
  obtain ⟨r, hr⟩ : ∃ b', b' = a + 1 := ⟨_, rfl⟩
  rw [← hr] at h2 h3 ⊢
  obtain ⟨n, hn⟩ : ∃ b', b' = r + 1 := ⟨_, rfl⟩
  rw [← hn] at h3 ⊢
  have han : a < n := by omega
  have hrn : r < n := by omega
  have har : a ≤ r := by omega
  have HA := Lib.hid ha
  have HBE := Lib.hid hbe
  have H1 := Lib.hid h1
  have H2 := Lib.hid h2
  have H3 := Lib.hid h3
  clear ha hr hn hbe h1 h2 h3
  go_loopw [4, 5] (fun _ i wr => ∃ k : Nat, k ≤ 8 ∧ i = .int .i64 (k : Int) ∧ Hid (Wh wr n 111 (p2 (w8N l 0 k) (w8N l 8 k))) ∧ Hid (W.grownBy wr (some n))) (fun _ i _ => 8 - (intOf i).toNat)
  case atStart => exact ⟨0, by omega, rfl, H3, Lib.hid (World.grownBy.refl _ _)⟩
  case round =>
    obtain ⟨k, hk, rfl, HW, HG⟩ := hrel
    by_cases hlt : k < 8
    · have hkd : decide ((k : Int) < 8) = true := by rw [decide_eq_true_iff]; omega
      obtain ⟨x, hx⟩ : ∃ x, x = w8N l 0 k := ⟨_, rfl⟩
      obtain ⟨y, hy⟩ : ∃ y, y = w8N l 8 k := ⟨_, rfl⟩
      rw [← hx, ← hy] at HW
      obtain ⟨c, hc⟩ : ∃ c, c = l.getD (0 + k) 0 := ⟨_, rfl⟩
      obtain ⟨d, hd⟩ : ∃ d, d = l.getD (8 + k) 0 := ⟨_, rfl⟩
      have HX : Deep (x <<< 8 ||| BitVec.ofNat 64 c.toNat = w8N l 0 (k + 1)) := ⟨by rw [hx, hc]; rfl⟩
      have HY : Deep (y <<< 8 ||| BitVec.ofNat 64 d.toNat = w8N l 8 (k + 1)) := ⟨by rw [hy, hd]; rfl⟩
      have hla : k < l.length := by rw [HL.out]; omega
      have hlb : 8 + k < l.length := by rw [HL.out]; omega
      have HC : Hid (∀ w', Wh w' a 23 (aRow l) → w'.cell? ⟨a, k, none⟩ = some (.int .u8 (c.toNat : Int))) := Lib.hid (fun w' h => by rw [hc, Nat.zero_add]; exact (h.cell k).trans (aRow_at hla))
      have HD : Hid (∀ w', Wh w' a 23 (aRow l) → w'.cell? ⟨a, 8 + k, none⟩ = some (.int .u8 (d.toNat : Int))) := Lib.hid (fun w' h => by rw [hd]; exact (h.cell (8 + k)).trans (aRow_at hlb))
      have c8 := c.toNat_lt
      have d8 := d.toNat_lt
      clear hx hy hc hd hla hlb
      go_wp2_with fail
      have k16 : (k : Int) < 16 := by omega
      have wc : IntKind.u64.wrap (c.toNat : Int) = (c.toNat : Int) := IntWalk.u64_in _ (by omega)
      have wd : IntKind.u64.wrap (d.toNat : Int) = (d.toNat : Int) := IntWalk.u64_in _ (by omega)
      have e1 : IntKind.i64.wrap (8 + (k : Int)) = 8 + (k : Int) := IntWalk.i64_in _ (by omega)
      have e2 : (0 : Int) ≤ 8 + (k : Int) := by omega
      have e3 : 8 + (k : Int) < 16 := by omega
      have e4 : (8 + (k : Int)).toNat = 8 + k := by omega
      have HE1 := Lib.hid e1
      clear e1
      have hgr : Wh wr a 23 (aRow l) := H1.out.grown HG.out (by intro e; have := Option.some.inj e; omega)
      have hG0 : Wh wr.drew a 23 (aRow l) := hgr
      have HW0 := HW
      have HG0 := HG
      clear HW HG
      refine wp_region_held_drew (S := fun w' => Wh w' a 23 (aRow l)) (by kernel_rfl) hG0 (fun _ => ?_)
      refine wpAnyH_take (i := 0) (v := .pointer (some ⟨n, 0, none⟩)) (List.getElem?_toArray.trans rfl) (by kernel_rfl) (by kernel_rfl) (by kernel_rfl) (fun _ _ _ h => h) (.inl ⟨rfl, fun w' hS => by simp [go_sem]⟩) hG0 ?_
      refine act_normM (by simp only [Act.put, List.setIfInBounds_toArray, List.set_cons_zero, List.set_cons_succ]; rfl) ?_
      refine wpAnyH_take (i := 3) (v := .int .i64 (k : Int)) (List.getElem?_toArray.trans rfl) (by kernel_rfl) (by kernel_rfl) (by kernel_rfl) (fun _ _ _ h => h) (.inl ⟨rfl, fun w' hS => rfl⟩) hG0 ?_
      refine act_normM (by simp only [Act.put, List.setIfInBounds_toArray, List.set_cons_zero, List.set_cons_succ]; rfl) ?_
      refine wpAnyH_take (i := 4) (v := .pointer (some ⟨a, k, none⟩)) (List.getElem?_toArray.trans rfl) (by kernel_rfl) (by kernel_rfl) (by kernel_rfl) (fun _ _ _ h => h) (.inl ⟨rfl, fun w' hS => by simp [go_sem, k16]⟩) hG0 ?_
      refine act_normM (by simp only [Act.put, List.setIfInBounds_toArray, List.set_cons_zero, List.set_cons_succ]; rfl) ?_
      refine wpAnyH_take (i := 5) (v := .int .u8 (c.toNat : Int)) (List.getElem?_toArray.trans rfl) (by kernel_rfl) (by kernel_rfl) (by kernel_rfl) (fun _ _ _ h => h) (.inl ⟨rfl, fun w' hS => by have hc := HC.out w' hS; simp [go_sem, hc]⟩) hG0 ?_
      refine act_normM (by simp only [Act.put, List.setIfInBounds_toArray, List.set_cons_zero, List.set_cons_succ]; rfl) ?_
      refine wpAnyH_take (i := 6) (v := .int .u64 (c.toNat : Int)) (List.getElem?_toArray.trans rfl) (by kernel_rfl) (by kernel_rfl) (by kernel_rfl) (fun _ _ _ h => h) (.inl ⟨rfl, fun w' hS => by simp [go_sem, wc]⟩) hG0 ?_
      refine act_normM (by simp only [Act.put, List.setIfInBounds_toArray, List.set_cons_zero, List.set_cons_succ]; rfl) ?_
      have hn0 := ((HW0.out.below (Below.refl _ _).drew HW0.out.lt : Wh wr.drew n _ _).cell 0).trans (p2_0 x y)
      refine wpAnyH_ready (rs := [1]) (by kernel_rfl) (by simp) (AllReadyH.cons (List.getElem?_toArray.trans rfl) (fun K' hK => ?_) AllReadyH.nil)
      refine wanted_goM rfl ?_
      go_simp
      refine hK.out _ _ hG0 (fun _ => ?_)
      clear hK K'
      refine wpAnyH_take (i := 2) (v := .int .u64 (wq (x <<< 8))) (List.getElem?_toArray.trans rfl) (by kernel_rfl) (by kernel_rfl) (by kernel_rfl) (fun _ _ _ h => h) (.inl ⟨rfl, fun w' hS => by rw [← wq_shl8 x]; simp [go_sem]⟩) hG0 ?_
      refine act_normM (by simp only [Act.put, List.setIfInBounds_toArray, List.set_cons_zero, List.set_cons_succ]; rfl) ?_
      refine wpAnyH_take (i := 7) (v := .int .u64 (wq (x <<< 8 ||| BitVec.ofNat 64 c.toNat))) (List.getElem?_toArray.trans rfl) (by kernel_rfl) (by kernel_rfl) (by kernel_rfl) (fun _ _ _ h => h) (.inl ⟨rfl, fun w' hS => by rw [← wq_in' x c]; simp [go_sem]⟩) hG0 ?_
      refine act_normM (by simp only [Act.put, List.setIfInBounds_toArray, List.set_cons_zero, List.set_cons_succ]; rfl) ?_
      refine wpAnyH_take (i := 8) (v := .pointer (some ⟨n, 0, none⟩)) (List.getElem?_toArray.trans rfl) (by kernel_rfl) (by kernel_rfl) (by kernel_rfl) (fun _ _ _ h => h) (.inl ⟨rfl, fun w' hS => by simp [go_sem]⟩) hG0 ?_
      refine act_normM (by simp only [Act.put, List.setIfInBounds_toArray, List.set_cons_zero, List.set_cons_succ]; rfl) ?_
      have hf0 := (HW0.out.below (Below.refl _ _).drew HW0.out.lt : Wh wr.drew n _ _).frozen 0
      have hs1 := (HW0.out.below (Below.refl _ _).drew HW0.out.lt : Wh wr.drew n _ _).put 0 (.int .u64 (wq (x <<< 8 ||| BitVec.ofNat 64 c.toNat)))
      have hu1 := grown_set wr.drew n 0 (.int .u64 (wq (x <<< 8 ||| BitVec.ofNat 64 c.toNat)))
      have hG1 : Wh (wr.drew.setCell ⟨n, 0, none⟩ (.int .u64 (wq (x <<< 8 ||| BitVec.ofNat 64 c.toNat)))) a 23 (aRow l) := hG0.grown hu1 (by intro e; have := Option.some.inj e; omega)
      refine wpAnyH_ready (rs := [9]) (by kernel_rfl) (by simp) (AllReadyH.cons (List.getElem?_toArray.trans rfl) (fun K' hK => ?_) AllReadyH.nil)
      refine wanted_goM rfl ?_
      go_simp
      refine hK.out _ _ hG1 (fun _ => ?_)
      clear hK K'
      refine wpAnyH_done (by kernel_rfl) ?_ _
      have hU1 := grown_trans HG0.out (grown_trans (grown_below (row := some n) ((Below.refl _ wr).drew)) hu1)
      have HG1 := Lib.hid hU1
      have HW1 := Lib.hid hs1
      clear hn0 hf0 hs1 hu1 hU1 hG0
      change Exit.then _ _ _ _ (wr.drew.setCell ⟨n, 0, none⟩ (.int .u64 (wq (x <<< 8 ||| BitVec.ofNat 64 c.toNat))))
      generalize (wr.drew.setCell ⟨n, 0, none⟩ (.int .u64 (wq (x <<< 8 ||| BitVec.ofNat 64 c.toNat)))) = w1 at *
      rw [p2_set0, HX.out] at HW1
      go_wp2_with fail
      have hG1 : Wh w1.drew a 23 (aRow l) := hG1
      refine wp_region_held_drew (S := fun w' => Wh w' a 23 (aRow l)) (by kernel_rfl) hG1 (fun _ => ?_)
      refine wpAnyH_take (i := 0) (v := .pointer (some ⟨n, 1, none⟩)) (List.getElem?_toArray.trans rfl) (by kernel_rfl) (by kernel_rfl) (by kernel_rfl) (fun _ _ _ h => h) (.inl ⟨rfl, fun w' hS => by simp [go_sem]⟩) hG1 ?_
      refine act_normM (by simp only [Act.put, List.setIfInBounds_toArray, List.set_cons_zero, List.set_cons_succ]; rfl) ?_
      refine wpAnyH_take (i := 3) (v := .int .i64 (k : Int)) (List.getElem?_toArray.trans rfl) (by kernel_rfl) (by kernel_rfl) (by kernel_rfl) (fun _ _ _ h => h) (.inl ⟨rfl, fun w' hS => rfl⟩) hG1 ?_
      refine act_normM (by simp only [Act.put, List.setIfInBounds_toArray, List.set_cons_zero, List.set_cons_succ]; rfl) ?_
      refine wpAnyH_take (i := 4) (v := .int .i64 (8 + (k : Int))) (List.getElem?_toArray.trans rfl) (by kernel_rfl) (by kernel_rfl) (by kernel_rfl) (fun _ _ _ h => h) (.inl ⟨rfl, fun w' hS => by simp [go_sem, HE1.out]⟩) hG1 ?_
      refine act_normM (by simp only [Act.put, List.setIfInBounds_toArray, List.set_cons_zero, List.set_cons_succ]; rfl) ?_
      refine wpAnyH_take (i := 5) (v := .pointer (some ⟨a, 8 + k, none⟩)) (List.getElem?_toArray.trans rfl) (by kernel_rfl) (by kernel_rfl) (by kernel_rfl) (fun _ _ _ h => h) (.inl ⟨rfl, fun w' hS => by simp [go_sem, e2, e3, e4]⟩) hG1 ?_
      refine act_normM (by simp only [Act.put, List.setIfInBounds_toArray, List.set_cons_zero, List.set_cons_succ]; rfl) ?_
      refine wpAnyH_take (i := 6) (v := .int .u8 (d.toNat : Int)) (List.getElem?_toArray.trans rfl) (by kernel_rfl) (by kernel_rfl) (by kernel_rfl) (fun _ _ _ h => h) (.inl ⟨rfl, fun w' hS => by have hc := HD.out w' hS; simp [go_sem, hc]⟩) hG1 ?_
      refine act_normM (by simp only [Act.put, List.setIfInBounds_toArray, List.set_cons_zero, List.set_cons_succ]; rfl) ?_
      refine wpAnyH_take (i := 7) (v := .int .u64 (d.toNat : Int)) (List.getElem?_toArray.trans rfl) (by kernel_rfl) (by kernel_rfl) (by kernel_rfl) (fun _ _ _ h => h) (.inl ⟨rfl, fun w' hS => by simp [go_sem, wd]⟩) hG1 ?_
      refine act_normM (by simp only [Act.put, List.setIfInBounds_toArray, List.set_cons_zero, List.set_cons_succ]; rfl) ?_
      have hn0 := ((HW1.out.below (Below.refl _ _).drew HW1.out.lt : Wh w1.drew n _ _).cell 1).trans (p2_1 (w8N l 0 (k + 1)) y)
      refine wpAnyH_ready (rs := [1]) (by kernel_rfl) (by simp) (AllReadyH.cons (List.getElem?_toArray.trans rfl) (fun K' hK => ?_) AllReadyH.nil)
      refine wanted_goM rfl ?_
      go_simp
      refine hK.out _ _ hG1 (fun _ => ?_)
      clear hK K'
      refine wpAnyH_take (i := 2) (v := .int .u64 (wq (y <<< 8))) (List.getElem?_toArray.trans rfl) (by kernel_rfl) (by kernel_rfl) (by kernel_rfl) (fun _ _ _ h => h) (.inl ⟨rfl, fun w' hS => by rw [← wq_shl8 y]; simp [go_sem]⟩) hG1 ?_
      refine act_normM (by simp only [Act.put, List.setIfInBounds_toArray, List.set_cons_zero, List.set_cons_succ]; rfl) ?_
      refine wpAnyH_take (i := 8) (v := .int .u64 (wq (y <<< 8 ||| BitVec.ofNat 64 d.toNat))) (List.getElem?_toArray.trans rfl) (by kernel_rfl) (by kernel_rfl) (by kernel_rfl) (fun _ _ _ h => h) (.inl ⟨rfl, fun w' hS => by rw [← wq_in' y d]; simp [go_sem]⟩) hG1 ?_
      refine act_normM (by simp only [Act.put, List.setIfInBounds_toArray, List.set_cons_zero, List.set_cons_succ]; rfl) ?_
      refine wpAnyH_take (i := 9) (v := .pointer (some ⟨n, 1, none⟩)) (List.getElem?_toArray.trans rfl) (by kernel_rfl) (by kernel_rfl) (by kernel_rfl) (fun _ _ _ h => h) (.inl ⟨rfl, fun w' hS => by simp [go_sem]⟩) hG1 ?_
      refine act_normM (by simp only [Act.put, List.setIfInBounds_toArray, List.set_cons_zero, List.set_cons_succ]; rfl) ?_
      have hf0 := (HW1.out.below (Below.refl _ _).drew HW1.out.lt : Wh w1.drew n _ _).frozen 1
      have hs2 := (HW1.out.below (Below.refl _ _).drew HW1.out.lt : Wh w1.drew n _ _).put 1 (.int .u64 (wq (y <<< 8 ||| BitVec.ofNat 64 d.toNat)))
      have hu2 := grown_set w1.drew n 1 (.int .u64 (wq (y <<< 8 ||| BitVec.ofNat 64 d.toNat)))
      have hG2 : Wh (w1.drew.setCell ⟨n, 1, none⟩ (.int .u64 (wq (y <<< 8 ||| BitVec.ofNat 64 d.toNat)))) a 23 (aRow l) := hG1.grown hu2 (by intro e; have := Option.some.inj e; omega)
      refine wpAnyH_ready (rs := [10]) (by kernel_rfl) (by simp) (AllReadyH.cons (List.getElem?_toArray.trans rfl) (fun K' hK => ?_) AllReadyH.nil)
      refine wanted_goM rfl ?_
      go_simp
      refine hK.out _ _ hG2 (fun _ => ?_)
      clear hK K'
      refine wpAnyH_done (by kernel_rfl) ?_ _
      have hU2 := grown_trans HG1.out (grown_trans (grown_below (row := some n) ((Below.refl _ w1).drew)) hu2)
      have HG2 := Lib.hid hU2
      have HW2 := Lib.hid hs2
      clear hn0 hf0 hs2 hu2 hU2 hG1
      change Exit.inBlock 1 _ _ _ (w1.drew.setCell ⟨n, 1, none⟩ (.int .u64 (wq (y <<< 8 ||| BitVec.ofNat 64 d.toNat))))
      generalize (w1.drew.setCell ⟨n, 1, none⟩ (.int .u64 (wq (y <<< 8 ||| BitVec.ofNat 64 d.toNat)))) = w2 at *
      rw [p2_set1, HY.out] at HW2
      clear HX HY HC HD HE1 e2 e3 e4 k16 wc wd c8 d8
      go_wp2
      exact ⟨⟨k + 1, by omega, by go_num, HW2, HG2⟩, by simp [intOf]; omega⟩
    · have hkd : decide ((k : Int) < 8) = false := by rw [decide_eq_false_iff_not]; omega
      have hk8 : k = 8 := by omega
      obtain ⟨z, hz⟩ : ∃ z, z = bkG l := ⟨_, rfl⟩
      have HWN : Hid (Wh wr n 111 (pRow z)) := by
        have h := HW.out
        rw [hk8, p2_bk HL.out, ← hz] at h
        exact Lib.hid h
      have HRR : Hid (Wh wr r 111 (pRow 0#128)) := Lib.hid (H2.out.grown HG.out (by intro e; have := Option.some.inj e; omega))
      have HBW := Lib.hid (below_grownA HBE.out HG.out (by rw [← HA.out]; omega) HBE.out.size)
      have hwr : w.heap.size ≤ r := by rw [← HA.out]; exact har
      have HZ := Deep.mk hz
      clear HW HG hlt hk hk8 hz
      go_wp2_with (first
        | (refine wpList_load_row rfl 111 (.tmp 3) rfl n rfl _ (pRow z) _ _ HWN.out Tryd.underlying111 rfl info_pol ?_)
        | (refine wpList_store_row rfl 111 (.tmp 2) (.tmp 28) rfl r (pRow z) rfl rfl _ _ HRR.out info_pol rfl (pL_one _) ?_))
      refine bodyPost_ret (v := .agg (pRow z)) (results_cell_row Tryd.results59 _ _ r _ _ (0, 0) _ rfl (setRow_heap wr r _ _ _ _ HRR.out) Tryd.underlying111 rfl info_pol) rfl ?_
      exact ⟨by rw [HZ.out], below_setRow HBW.out hwr _⟩
end

section
open Go.RowKit
set_option linter.unusedVariables false

/-- A word's byte above s bits. -/
def byW (x : W64) (s : Nat) : UInt8 := UInt8.ofNat (x.toNat / 2 ^ s % 256)
def blK (v : W128) : Nat → List UInt8
  | 0 => List.replicate 16 0
  | k + 1 => ((blK v k).set k (byW (loG v) (56 - 8 * k))).set (8 + k) (byW (hiG v) (56 - 8 * k))
theorem blK_len (v : W128) (k : Nat) : (blK v k).length = 16 := by
  induction k with
  | zero => rfl
  | succ k ih => simp [blK, ih]
theorem byW_bit (x : W64) (s t : Nat) (ht : t < 8) : (byW x s).toNat.testBit t = x.getLsbD (s + t) := by
  unfold byW
  have e : (UInt8.ofNat (x.toNat / 2 ^ s % 256)).toNat = x.toNat / 2 ^ s % 2 ^ 8 := by simp
  rw [e, Nat.testBit_mod_two_pow, decide_eq_true ht, Bool.true_and, Nat.testBit_div_two_pow, BitVec.getLsbD, Nat.add_comm]
theorem wq_byW (x : W64) (s : Nat) : wq x / 2 ^ s % (256 : Int) = ((byW x s).toNat : Int) := by
  unfold byW wq
  have e : (UInt8.ofNat (x.toNat / 2 ^ s % 256)).toNat = x.toNat / 2 ^ s % 256 := by simp
  rw [e, Int.natCast_emod, Int.natCast_ediv, Int.natCast_pow]
  rfl
theorem u8_ext {x y : UInt8} (h : ∀ t, t < 8 → x.toNat.testBit t = y.toNat.testBit t) : x = y := by
  have big : ∀ (x : UInt8) (t : Nat), ¬ t < 8 → x.toNat.testBit t = false := fun x t ht =>
    Nat.testBit_lt_two_pow (Nat.lt_of_lt_of_le x.toNat_lt (Nat.pow_le_pow_right (by omega) (by omega)))
  refine UInt8.toNat_inj.1 (Nat.eq_of_testBit_eq fun t => ?_)
  by_cases ht : t < 8
  · exact h t ht
  · rw [big _ t ht, big _ t ht]
theorem byW_lo (v : W128) (k : Nat) (hk : k < 8) : byW (loG v) (56 - 8 * k) = byG v k := u8_ext fun t ht => by
  rw [byW_bit _ _ _ ht, by_bit _ _ _ ht, lo_bit _ _ (by omega)]
  congr 1
  omega
theorem byW_hi (v : W128) (k : Nat) (hk : k < 8) : byW (hiG v) (56 - 8 * k) = byG v (8 + k) := u8_ext fun t ht => by
  rw [byW_bit _ _ _ ht, by_bit _ _ _ ht, hi_bit _ _ (by omega)]
  congr 1
  omega
theorem blK_get (v : W128) (k : Nat) (hk : k ≤ 8) (i : Nat) (hi : i < 16) : (blK v k)[i]? = some (if i < k ∨ (8 ≤ i ∧ i < 8 + k) then byG v i else 0) := by
  induction k with
  | zero => rw [if_neg (by omega), blK, List.getElem?_replicate, if_pos hi]
  | succ k ih =>
    have hl := blK_len v k
    rw [blK, byW_lo v k (by omega), byW_hi v k (by omega)]
    by_cases h1 : 8 + k = i
    · subst h1
      rw [List.getElem?_set_self (by rw [List.length_set]; omega), if_pos (by omega)]
    · rw [List.getElem?_set_ne h1]
      by_cases h2 : k = i
      · subst h2
        rw [List.getElem?_set_self (by omega), if_pos (by omega)]
      · rw [List.getElem?_set_ne h2, ih (by omega)]
        congr 1
        by_cases h3 : i < k ∨ (8 ≤ i ∧ i < 8 + k)
        · rw [if_pos h3, if_pos (by omega)]
        · rw [if_neg h3, if_neg (by omega)]
theorem blK_all (v : W128) : blK v 8 = blG v := by
  apply List.ext_getElem?
  intro i
  by_cases hi : i < 16
  · rw [blK_get v 8 (Nat.le_refl _) i hi, if_pos (by omega), blG, List.getElem?_map, List.getElem?_range hi]
    rfl
  · rw [List.getElem?_eq_none (by rw [blK_len]; omega), List.getElem?_eq_none (by rw [bl_len]; omega)]

set_option maxRecDepth 100000 in
set_option maxHeartbeats 400000 in
theorem block_any (v : W128) (w : World) :
    Calls Tryd.prog 63 #[.agg (pRow v)] w fun e w' => e = .returned (.agg (aRow (blG v))) ∧ Below w.heap.size w w' := by
  go_enter Tryd.func63, Tryd.ntmps63
  go_wp2
  rw [zeros16]
  obtain ⟨hbe, h1, h2, h3⟩ := made3 w (pRow v) (aRow (List.replicate 16 0)) (aRow (List.replicate 16 0)) 111 23 23
  generalize ((w.alloc (.cells (pRow v) 111)).alloc (.cells (aRow (List.replicate 16 0)) 23)).alloc (.cells (aRow (List.replicate 16 0)) 23) = W at *
  obtain ⟨a, ha⟩ : ∃ a, a = w.heap.size := ⟨_, rfl⟩
  rw [← ha] at h1 h2 h3 ⊢
  obtain ⟨r, hr⟩ : ∃ b', b' = a + 1 := ⟨_, rfl⟩
  rw [← hr] at h2 h3 ⊢
  obtain ⟨n, hn⟩ : ∃ b', b' = r + 1 := ⟨_, rfl⟩
  rw [← hn] at h3 ⊢
  have han : a < n := by omega
  have hrn : r < n := by omega
  have har : a ≤ r := by omega
  have HA := Lib.hid ha
  have HBE := Lib.hid hbe
  have H1 := Lib.hid h1
  have H2 := Lib.hid h2
  have H3 := Lib.hid h3
  clear ha hr hn hbe h1 h2 h3
  obtain ⟨x, hx⟩ : ∃ x, x = loG v := ⟨_, rfl⟩
  obtain ⟨y, hy⟩ : ∃ y, y = hiG v := ⟨_, rfl⟩
  have HX := Deep.mk hx
  have HY := Deep.mk hy
  clear hx hy
  have hx0 := wq_nn x
  have hx1 := wq_lt x
  have hy0 := wq_nn y
  have hy1 := wq_lt y
  go_loopw [4, 5, 6] (fun _ _ i wr => ∃ k : Nat, k ≤ 8 ∧ i = .int .i64 (k : Int) ∧ Hid (Wh wr n 23 (aRow (blK v k))) ∧ Hid (W.grownBy wr (some n))) (fun _ _ i _ => 8 - (intOf i).toNat)
  case atStart => exact ⟨0, by omega, rfl, H3, Lib.hid (World.grownBy.refl _ _)⟩
  case round =>
    obtain ⟨k, hk, rfl, HW, HG⟩ := hrel
    by_cases hlt : k < 8
    · have hkd : decide ((k : Int) < 8) = true := by rw [decide_eq_true_iff]; omega
      obtain ⟨s, hs⟩ : ∃ s, s = blK v k := ⟨_, rfl⟩
      have hsl : s.length = 16 := by rw [hs, blK_len]
      rw [← hs] at HW
      have hgr : Wh wr a 111 (pRow v) := H1.out.grown HG.out (by intro e; have := Option.some.inj e; omega)
      have c0 := (hgr.cell 0).trans (pRow_at0 v)
      have c1 := (hgr.cell 1).trans (pRow_at1 v)
      rw [← HX.out] at c0
      rw [← HY.out] at c1
      have k0 := (HW.out.cell k).trans (aRow_at (by omega))
      have k1 := (HW.out.cell (8 + k)).trans (aRow_at (by omega))
      have f0 := HW.out.frozen k
      have f1 := HW.out.frozen (8 + k)
      generalize s.getD k 0 = u0 at *
      generalize s.getD (8 + k) 0 = u1 at *
      clear hgr
      obtain ⟨q, hq⟩ : ∃ q, q = 56 - 8 * k := ⟨_, rfl⟩
      have hqi : 56 - 8 * (k : Int) = (q : Int) := by omega
      have HS := Deep.mk hs
      have HQ := Deep.mk hq
      have HSL := Deep.mk hsl
      clear hs hq hsl
      go_wp2
      rw [wq_byW, wq_byW]
      have h1 := HW.out.put k (.int .u8 ((byW x q).toNat : Int))
      have g1 := grown_set wr n k (.int .u8 ((byW x q).toNat : Int))
      rw [aRow_set] at h1
      have h2 := h1.put (8 + k) (.int .u8 ((byW y q).toNat : Int))
      have g2 := grown_set (wr.setCell ⟨n, k, none⟩ (.int .u8 ((byW x q).toNat : Int))) n (8 + k) (.int .u8 ((byW y q).toNat : Int))
      rw [aRow_set] at h2
      refine ⟨⟨k + 1, by omega, by go_num, ?_, Lib.hid (grown_trans HG.out (grown_trans g1 g2))⟩, by simp [intOf]; omega⟩
      rw [blK, ← HS.out, ← HQ.out, ← HX.out, ← HY.out]
      exact Lib.hid h2
    · have hkd : decide ((k : Int) < 8) = false := by rw [decide_eq_false_iff_not]; omega
      have hk8 : k = 8 := by omega
      obtain ⟨z, hz⟩ : ∃ z, z = blG v := ⟨_, rfl⟩
      have HWN : Hid (Wh wr n 23 (aRow z)) := by
        have h := HW.out
        rw [hk8, blK_all, ← hz] at h
        exact Lib.hid h
      have HRR : Hid (Wh wr r 23 (aRow (List.replicate 16 0))) := Lib.hid (H2.out.grown HG.out (by intro e; have := Option.some.inj e; omega))
      have HBW := Lib.hid (below_grownA HBE.out HG.out (by rw [← HA.out]; omega) HBE.out.size)
      have hwr : w.heap.size ≤ r := by rw [← HA.out]; exact har
      have HZL : Deep (z.length = 16) := ⟨by rw [hz]; exact bl_len v⟩
      have HZ := Deep.mk hz
      clear HW HG hlt hk hk8 hz
      go_wp2_with (first
        | (refine wpList_load_row rfl 23 (.tmp 3) rfl n rfl _ (aRow z) _ _ HWN.out Tryd.underlying23 rfl (info_aRow HZL.out) ?_)
        | (refine wpList_store_row rfl 23 (.tmp 2) (.tmp 28) rfl r (aRow z) rfl rfl _ _ HRR.out (info_aRow HZL.out) (by rw [aRow_size, aRow_size, HZL.out]; rfl) (aRow_one _) ?_))
      refine bodyPost_ret (v := .agg (aRow z)) (results_cell_row Tryd.results63 _ _ r _ _ (0, 0) _ rfl (setRow_heap wr r _ _ _ _ HRR.out) Tryd.underlying23 rfl (info_aRow HZL.out)) rfl ?_
      exact ⟨by rw [HZ.out], below_setRow HBW.out hwr _⟩
end
end Go.Proofs.YtbnnjkjmadnjkaaDoor
