/-
  The document's own first and all (hostlerref10): bytes of a list as a row. Printed by tools/gen_kyfill.py.
-/
import Derived.Test.YtblclinfcdalaaaDoorSb12
namespace Go.Proofs.YtblclinfcdalaaaDoor
open Go.RowKit
set_option linter.unusedVariables false

/-- The first k bytes laid, noughts behind. -/
def fillN (l : List UInt8) (k : Nat) : List UInt8 := l.take k ++ List.replicate (l.length - k) 0
theorem fillN_len (l : List UInt8) (k : Nat) (h : k ≤ l.length) : (fillN l k).length = l.length := by simp [fillN]; omega
theorem fillN_0 (l : List UInt8) : fillN l 0 = List.replicate l.length 0 := by simp [fillN]
theorem fillN_all (l : List UInt8) : fillN l l.length = l := by simp [fillN]
theorem fillN_set (l : List UInt8) (k : Nat) (h : k < l.length) : (fillN l k).set k (l.getD k 0) = fillN l (k + 1) := by
  have e : l.length - k = (l.length - (k + 1)) + 1 := by omega
  have e2 : l.getD k 0 = l[k] := by simp [List.getD, h]
  unfold fillN
  rw [e, List.replicate_succ, List.set_append_right _ _ (by simp; omega), List.length_take, Nat.min_eq_left (by omega), Nat.sub_self, List.set_cons_zero, List.take_succ_eq_append_getElem h, e2, List.append_assoc]
  rfl
theorem bRow_at {l : List UInt8} {k : Nat} (hk : k < l.length) : (bRow l)[k]? = some (.int .u8 ((l.getD k 0).toNat : Int)) := by
  simp [bRow, List.getD, hk, cell8]
theorem bRow_set (l : List UInt8) (j : Nat) (x : UInt8) : (bRow l).setIfInBounds j (.int .u8 (x.toNat : Int)) = bRow (l.set j x) := by simp [bRow, cell8]
theorem bRow_put {w : World} {g : Nat} {t : TypeId} {l : List UInt8} (h : Wh w g t (bRow l)) (j : Nat) (x : UInt8) : Wh (w.setCell ⟨g, j, none⟩ (.int .u8 (x.toNat : Int))) g t (bRow (l.set j x)) := by
  have := h.put j (.int .u8 (x.toNat : Int))
  rwa [bRow_set] at this
theorem range_cell {w : World} {g o : Nat} {l : List UInt8} (h : w.rangeAt g o (l.map cell8)) {k : Nat} (hk : k < l.length) : w.cell? ⟨g, o + k, none⟩ = some (.int .u8 ((l.getD k 0).toNat : Int)) := h k _ (by simp [List.getD, hk, cell8])
theorem info_b16R {l : List UInt8} (h : l.length = 16) : (Tryd.prog.info? 26).map (·.size) = some (bRow l).size := by rw [bRow_size, h]; exact info_k16

set_option maxRecDepth 100000 in
set_option maxHeartbeats 800000 in
theorem kfirst16_any (l : List UInt8) (b off c : Nat) (w : World) (hl : l.length = 16) (hc : 16 ≤ c) (hb : b < w.heap.size) (hr : w.rangeAt b off (l.map cell8)) :
    Calls Tryd.prog 27 #[.slice (some ⟨b, off, none⟩) 16 c, .int .i64 16] w fun e w' => e = .returned (.agg (bRow l)) ∧ Below w.heap.size w w' := by
  have HL := Deep.mk hl
  obtain ⟨hbe, h2, h3, h4⟩ := made2K w (bRow (List.replicate 16 0)) (bRow (List.replicate 16 0)) 26 26
  have HR := Lib.hid (rangeAt_below hr hbe hb)
  clear hl hr
  go_enter Tryd.func27, Tryd.ntmps27
  go_upto_region 2 with (refine wpList_allocZ rfl 26 rfl (bRow (List.replicate 16 0)) (zero_b16 _) ?_)
  rw [show (w.alloc (.cells (bRow (List.replicate 16 0)) 26)).heap.size = w.heap.size + 1 by simp]
  generalize (w.alloc (.cells (bRow (List.replicate 16 0)) 26)).alloc (.cells (bRow (List.replicate 16 0)) 26) = W at *
  obtain ⟨r, hr⟩ : ∃ r, r = w.heap.size := ⟨_, rfl⟩
  obtain ⟨o, ho⟩ : ∃ o, o = w.heap.size + 1 := ⟨_, rfl⟩
  rw [← hr] at h2
  rw [← ho] at h3 h4
  rw [← ho, ← hr]
  have hwr : w.heap.size ≤ r := by omega
  have hro : r < o := by omega
  have hbo : b < r := by omega
  have H2 := Lib.hid h2
  have H3 : Hid (Wh W o 26 (bRow (fillN l 0))) := Lib.hid (by rw [fillN_0, HL.out]; exact h3)
  have HBE := Lib.hid hbe
  clear hr ho h2 h3 hbe h4
  go_wp2_with fail
  go_loopw [6] (fun i wr => ∃ k : Nat, k ≤ 16 ∧ i = .int .i64 (k : Int) ∧ Hid (Wh wr o 26 (bRow (fillN l k))) ∧ Hid (W.grownBy wr (some o))) (fun i _ => 16 - (intOf i).toNat)
  case atStart => exact ⟨0, by omega, rfl, H3, Lib.hid (World.grownBy.refl _ _)⟩
  case round =>
    obtain ⟨k, hk, rfl, HW, HG⟩ := hrel
    clear H3
    by_cases hlt : k < 16
    · have hkl : k < l.length := by have := HL.out; omega
      have hv := (HW.out.cell k).trans (bRow_at (by rw [fillN_len l k (by omega)]; exact hkl))
      have hf := HW.out.frozen k
      have hs := (World.cell?_of_block (HG.out.block b (by have := HBE.out.size; omega) (by intro e; have := Option.some.inj e; omega))).trans (range_cell HR.out hkl)
      have hst := fillN_set l k hkl
      generalize hy : (fillN l k).getD k 0 = y at *
      generalize hx : l.getD k 0 = x at *
      have HST := Deep.mk hst
      have t1 : decide ((k : Int) < 16) = true := decide_eq_true (by omega)
      have hne : ¬ b = o := by omega
      clear hx hy hst hkl
      go_wp2
      refine ⟨⟨k + 1, by omega, rfl, ?_, ?_⟩, by simp [intOf]; omega⟩
      · have h := bRow_put HW.out k x
        rw [HST.out] at h
        exact Lib.hid h
      · exact Lib.hid (grown_trans HG.out (grown_set _ _ _ _))
    · have hkd : decide ((k : Int) < 16) = false := by rw [decide_eq_false_iff_not]; omega
      have HW16 : Hid (Wh wr o 26 (bRow l)) := by
        have h := HW.out
        rw [show k = l.length by have := HL.out; omega, fillN_all] at h
        exact Lib.hid h
      have HR16 : Hid (Wh wr r 26 (bRow (List.replicate 16 0))) := Lib.hid (H2.out.grown HG.out (by intro e; have := Option.some.inj e; omega))
      have HBW := Lib.hid (below_grown HBE.out HG.out (by omega) HBE.out.size)
      clear HW HG hlt hk HR H2
      go_wp2_with (first
        | (refine wpList_load_row rfl 26 (.tmp 5) rfl o rfl _ (bRow l) _ _ HW16.out Tryd.underlying26 rfl (info_b16R HL.out) ?_)
        | (refine wpList_store_row rfl 26 (.tmp 4) (.tmp 24) rfl r (bRow l) rfl rfl _ _ HR16.out (info_b16R HL.out) (by rw [bRow_size, bRow_size, HL.out]; rfl) (bRow_one _) ?_))
      refine bodyPost_ret (v := .agg (bRow l)) (results_cell_row Tryd.results27 _ _ r _ _ (0, 0) _ rfl (setRow_heap wr r _ _ _ _ HR16.out) Tryd.underlying26 rfl (info_b16R HL.out)) rfl ?_
      exact ⟨rfl, below_setRow HBW.out hwr _⟩

set_option maxRecDepth 100000 in
set_option maxHeartbeats 800000 in
theorem kall32_any (l : List UInt8) (b off c : Nat) (w : World) (hl : l.length = 32) (hc : 32 ≤ c) (hb : b < w.heap.size) (hr : w.rangeAt b off (l.map cell8)) :
    Calls Tryd.prog 29 #[.slice (some ⟨b, off, none⟩) 32 c] w fun e w' => e = .returned (.agg (bRow l)) ∧ Below w.heap.size w w' := by
  have HL := Deep.mk hl
  obtain ⟨hbe, h2, h3, h4⟩ := made2K w (bRow (List.replicate 32 0)) (bRow (List.replicate 32 0)) 22 22
  have HR := Lib.hid (rangeAt_below hr hbe hb)
  clear hl hr
  go_enter Tryd.func29, Tryd.ntmps29
  go_upto_region 2 with (refine wpList_allocZ rfl 22 rfl (bRow (List.replicate 32 0)) (zero_b32 _) ?_)
  rw [show (w.alloc (.cells (bRow (List.replicate 32 0)) 22)).heap.size = w.heap.size + 1 by simp]
  generalize (w.alloc (.cells (bRow (List.replicate 32 0)) 22)).alloc (.cells (bRow (List.replicate 32 0)) 22) = W at *
  obtain ⟨r, hr⟩ : ∃ r, r = w.heap.size := ⟨_, rfl⟩
  obtain ⟨o, ho⟩ : ∃ o, o = w.heap.size + 1 := ⟨_, rfl⟩
  rw [← hr] at h2
  rw [← ho] at h3 h4
  rw [← ho, ← hr]
  have hwr : w.heap.size ≤ r := by omega
  have hro : r < o := by omega
  have hbo : b < r := by omega
  have H2 := Lib.hid h2
  have H3 : Hid (Wh W o 22 (bRow (fillN l 0))) := Lib.hid (by rw [fillN_0, HL.out]; exact h3)
  have HBE := Lib.hid hbe
  clear hr ho h2 h3 hbe h4
  go_wp2_with fail
  go_loopw [4] (fun i wr => ∃ k : Nat, k ≤ 32 ∧ i = .int .i64 (k : Int) ∧ Hid (Wh wr o 22 (bRow (fillN l k))) ∧ Hid (W.grownBy wr (some o))) (fun i _ => 32 - (intOf i).toNat)
  case atStart => exact ⟨0, by omega, rfl, H3, Lib.hid (World.grownBy.refl _ _)⟩
  case round =>
    obtain ⟨k, hk, rfl, HW, HG⟩ := hrel
    clear H3
    by_cases hlt : k < 32
    · have hkl : k < l.length := by have := HL.out; omega
      have hv := (HW.out.cell k).trans (bRow_at (by rw [fillN_len l k (by omega)]; exact hkl))
      have hf := HW.out.frozen k
      have hs := (World.cell?_of_block (HG.out.block b (by have := HBE.out.size; omega) (by intro e; have := Option.some.inj e; omega))).trans (range_cell HR.out hkl)
      have hst := fillN_set l k hkl
      generalize hy : (fillN l k).getD k 0 = y at *
      generalize hx : l.getD k 0 = x at *
      have HST := Deep.mk hst
      have t1 : decide ((k : Int) < 32) = true := decide_eq_true (by omega)
      have hne : ¬ b = o := by omega
      clear hx hy hst hkl
      go_wp2
      refine ⟨⟨k + 1, by omega, rfl, ?_, ?_⟩, by simp [intOf]; omega⟩
      · have h := bRow_put HW.out k x
        rw [HST.out] at h
        exact Lib.hid h
      · exact Lib.hid (grown_trans HG.out (grown_set _ _ _ _))
    · have hkd : decide ((k : Int) < 32) = false := by rw [decide_eq_false_iff_not]; omega
      have HW16 : Hid (Wh wr o 22 (bRow l)) := by
        have h := HW.out
        rw [show k = l.length by have := HL.out; omega, fillN_all] at h
        exact Lib.hid h
      have HR16 : Hid (Wh wr r 22 (bRow (List.replicate 32 0))) := Lib.hid (H2.out.grown HG.out (by intro e; have := Option.some.inj e; omega))
      have HBW := Lib.hid (below_grown HBE.out HG.out (by omega) HBE.out.size)
      clear HW HG hlt hk HR H2
      go_wp2_with (first
        | (refine wpList_load_row rfl 22 (.tmp 3) rfl o rfl _ (bRow l) _ _ HW16.out Tryd.underlying22 rfl (info_bRow HL.out) ?_)
        | (refine wpList_store_row rfl 22 (.tmp 2) (.tmp 21) rfl r (bRow l) rfl rfl _ _ HR16.out (info_bRow HL.out) (by rw [bRow_size, bRow_size, HL.out]; rfl) (bRow_one _) ?_))
      refine bodyPost_ret (v := .agg (bRow l)) (results_cell_row Tryd.results29 _ _ r _ _ (0, 0) _ rfl (setRow_heap wr r _ _ _ _ HR16.out) Tryd.underlying22 rfl (info_bRow HL.out)) rfl ?_
      exact ⟨rfl, below_setRow HBW.out hwr _⟩
end Go.Proofs.YtblclinfcdalaaaDoor
