/-
  aes.added: two blocks' sum.
-/
import Derived.Test.YtajfpbkeabdcaaaAsKit
namespace Go.Proofs.Ytajfpbkeabdcaaa
open Go.RowKit
set_option linter.unusedVariables false

/-- Two blocks' sum, behind k bytes of it. -/
def addN (l m : List UInt8) : Nat → List UInt8
  | 0 => l
  | k + 1 => (addN l m k).set k ((addN l m k).getD k 0 ^^^ m.getD k 0)
def addL (l m : List UInt8) : List UInt8 := addN l m 16
theorem addN_len (l m : List UInt8) (k : Nat) : (addN l m k).length = l.length := by
  induction k with
  | zero => rfl
  | succ k ih => simp [addN, ih]
theorem addL_len {l m : List UInt8} (h : l.length = 16) : (addL l m).length = 16 := by rw [addL, addN_len, h]

set_option maxRecDepth 100000 in
set_option maxHeartbeats 400000 in
theorem added_any (l m : List UInt8) (w : World) (hl : l.length = 16) (hm : m.length = 16) :
    Calls Try.prog 27 #[.agg (aRow l), .agg (aRow m)] w fun e w' => e = .returned (.agg (aRow (addL l m))) ∧ Below w.heap.size w w' := by
  have HL := Deep.mk hl
  have HM := Deep.mk hm
  have hbe : Below w.heap.size w (((w.alloc (.cells (aRow l) 22)).alloc (.cells (aRow m) 22)).alloc (.cells (aRow (List.replicate 16 0)) 22)) := (((Below.refl _ _).alloc (Nat.le_refl _) _).alloc (by simp) _).alloc (by simp; omega) _
  have h2 : Wh (((w.alloc (.cells (aRow l) 22)).alloc (.cells (aRow m) 22)).alloc (.cells (aRow (List.replicate 16 0)) 22)) w.heap.size 22 (aRow l) := ((Wh.new _ _ _).alloc _).alloc _
  have h3 : Wh (((w.alloc (.cells (aRow l) 22)).alloc (.cells (aRow m) 22)).alloc (.cells (aRow (List.replicate 16 0)) 22)) (w.heap.size + 1) 22 (aRow m) := by
    have := (Wh.new (w.alloc (.cells (aRow l) 22)) 22 (aRow m)).alloc (.cells (aRow (List.replicate 16 0)) 22)
    rwa [show (w.alloc (.cells (aRow l) 22)).heap.size = w.heap.size + 1 by simp] at this
  have h4 : Wh (((w.alloc (.cells (aRow l) 22)).alloc (.cells (aRow m) 22)).alloc (.cells (aRow (List.replicate 16 0)) 22)) (w.heap.size + 1 + 1) 22 (aRow (List.replicate 16 0)) := by
    have := Wh.new ((w.alloc (.cells (aRow l) 22)).alloc (.cells (aRow m) 22)) 22 (aRow (List.replicate 16 0))
    rwa [show ((w.alloc (.cells (aRow l) 22)).alloc (.cells (aRow m) 22)).heap.size = w.heap.size + 1 + 1 by simp] at this
  clear hl hm
  go_enter Try.func27, Try.ntmps27
  go_upto_region 1 with (fail)
  rw [zeros16]
  generalize ((w.alloc (.cells (aRow l) 22)).alloc (.cells (aRow m) 22)).alloc (.cells (aRow (List.replicate 16 0)) 22) = W at *
  obtain ⟨b, hb⟩ : ∃ b, b = w.heap.size := ⟨_, rfl⟩
  obtain ⟨c, hc⟩ : ∃ c, c = w.heap.size + 1 := ⟨_, rfl⟩
  obtain ⟨r, hr⟩ : ∃ r, r = w.heap.size + 1 + 1 := ⟨_, rfl⟩
  rw [← hb] at h2
  rw [← hc] at h3
  rw [← hr] at h4
  rw [← hr, ← hc, ← hb]
  have HB := Lib.hid hb
  have HC := Lib.hid hc
  have HR := Lib.hid hr
  have hbr : b < r := by omega
  have HBE := Lib.hid hbe
  have H2 := Lib.hid h2
  have H3 := Lib.hid h3
  have H4 := Lib.hid h4
  clear hb hc hr hbe h2 h3 h4
  go_wp2_with (refine wpList_load_row rfl 22 (.tmp 3) rfl c rfl _ (aRow m) _ _ H3.out Try.underlying22 rfl (info_aRow HM.out) ?_)
  go_loopw [5, 6, 8] (fun _ _ i wr => ∃ k : Nat, k ≤ 16 ∧ i = .int .i64 (k : Int) ∧ Hid (Wh wr b 22 (aRow (addN l m k))) ∧ Hid (W.grownBy wr (some b))) (fun _ _ i _ => 16 - (intOf i).toNat)
  case atStart => exact ⟨0, by omega, rfl, H2, Lib.hid (World.grownBy.refl _ _)⟩
  case round =>
    obtain ⟨k, hk, rfl, HW, HG⟩ := hrel
    have hln : (addN l m k).length = 16 := by rw [addN_len, HL.out]
    by_cases hlt : k < 16
    · have hv := (HW.out.cell k).trans (aRow_at (by omega))
      have hf := HW.out.frozen k
      have hix := idx16 m k wr HM.out hlt
      generalize hx : (addN l m k).getD k 0 = x at *
      generalize hy : m.getD k 0 = y at *
      have HX := Deep.mk hx
      have HY := Deep.mk hy
      have hx8 := x.toNat_lt
      have hy8 := y.toNat_lt
      clear hx hy hln
      go_wp2
      refine ⟨⟨k + 1, by omega, rfl, ?_, ?_⟩, by simp [intOf]; omega⟩
      · have h := HW.out.put k (.int .u8 (bits BinOp.xor IntKind.u8 ↑x.toNat ↑y.toNat))
        rw [b_xor, aRow_set] at h
        rw [addN, HX.out, HY.out, b_xor]
        exact Lib.hid h
      · exact Lib.hid (grown_trans HG.out (grown_set _ _ _ _))
    · have hkd : decide ((k : Int) < 16) = false := by rw [decide_eq_false_iff_not]; omega
      have HW16 : Hid (Wh wr b 22 (aRow (addL l m))) := by
        have h := HW.out
        rw [show k = 16 by omega] at h
        exact Lib.hid h
      have HR16 : Hid (Wh wr r 22 (aRow (List.replicate 16 0))) := Lib.hid (H4.out.grown HG.out (by intro e; have := Option.some.inj e; omega))
      have HBW := Lib.hid (below_grown HBE.out HG.out (by rw [HB.out]; exact Nat.le_refl _) HBE.out.size)
      have hwr : w.heap.size ≤ r := by rw [HR.out]; omega
      have hal := addL_len (m := m) HL.out
      obtain ⟨z, hz⟩ : ∃ z, z = addL l m := ⟨_, rfl⟩
      rw [← hz] at hal HW16
      have HZ := Deep.mk hz
      clear HW HG hln hlt hk hz
      go_wp2_with (first
        | (refine wpList_load_row rfl 22 (.tmp 2) rfl b rfl _ (aRow z) _ _ HW16.out Try.underlying22 rfl (info_aRow hal) ?_)
        | (refine wpList_store_row rfl 22 (.tmp 4) (.tmp 19) rfl r (aRow z) rfl rfl _ _ HR16.out (info_aRow hal) (by rw [aRow_size, aRow_size, hal]; rfl) (aRow_one _) ?_))
      refine bodyPost_ret (v := .agg (aRow z)) (results_cell_row Try.results27 _ _ r _ _ (0, 0) _ rfl (setRow_heap wr r _ _ _ _ HR16.out) Try.underlying22 rfl (info_aRow hal)) rfl ?_
      exact ⟨by rw [HZ.out], below_setRow HBW.out hwr _⟩
end Go.Proofs.Ytajfpbkeabdcaaa
