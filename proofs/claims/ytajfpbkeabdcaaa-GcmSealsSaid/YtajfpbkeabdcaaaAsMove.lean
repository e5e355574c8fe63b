/-
  aes.moved and its closure: the bytes' other ones, the rows moved.
-/
import Derived.Test.YtajfpbkeabdcaaaAsAdd
namespace Go.Proofs.Ytajfpbkeabdcaaa
open Go.RowKit
set_option linter.unusedVariables false

/-- A row moved, behind k columns of it. -/
def mvN (l m : List UInt8) (r : Nat) : Nat → List UInt8
  | 0 => m
  | k + 1 => (mvN l m r k).set (4 * k + r) (sB (l.getD (4 * ((k + r) % 4) + r) 0))
theorem mvN_len (l m : List UInt8) (r k : Nat) : (mvN l m r k).length = m.length := by
  induction k with
  | zero => rfl
  | succ k ih => simp [mvN, ih]
/-- The rows moved, behind r of them. -/
def mvR (l : List UInt8) : Nat → List UInt8
  | 0 => List.replicate 16 0
  | r + 1 => mvN l (mvR l r) r 4
def mvL (l : List UInt8) : List UInt8 := mvR l 4
theorem mvR_len (l : List UInt8) (r : Nat) : (mvR l r).length = 16 := by
  induction r with
  | zero => rfl
  | succ r ih => simp [mvR, mvN_len, ih]

set_option maxRecDepth 100000 in
set_option maxHeartbeats 400000 in
theorem mv1_any (l m : List UInt8) (r b t : Nat) (w : World) (hl : l.length = 16) (hm : m.length = 16) (hr : r < 4) (hb : Wh w b 22 (aRow l)) (ht : Wh w t 22 (aRow m)) (hbt : b ≠ t) :
    Calls Try.prog 42 #[.int .i64 (r : Int), .pointer (some ⟨b, 0, none⟩), .pointer (some ⟨t, 0, none⟩)] w fun e w' => e = .returned (.tuple #[]) ∧ Wh w' t 22 (aRow (mvN l m r 4)) ∧ w.grownBy w' (some t) := by
  have HL := Deep.mk hl
  have HM := Deep.mk hm
  have HB := Lib.hid hb
  have HT := Lib.hid ht
  clear hl hm hb ht
  go_enter Try.func42, Try.ntmps42
  go_wp2
  go_loopw [4, 5, 6] (fun _ _ i wr => ∃ k : Nat, k ≤ 4 ∧ i = .int .i64 (k : Int) ∧ Hid (Wh wr t 22 (aRow (mvN l m r k))) ∧ Hid (w.grownBy wr (some t))) (fun _ _ i _ => 4 - (intOf i).toNat)
  case atStart => exact ⟨0, by omega, rfl, HT, Lib.hid (World.grownBy.refl _ _)⟩
  case round =>
    obtain ⟨k, hk, rfl, HW, HG⟩ := hrel
    have hln : (mvN l m r k).length = 16 := by rw [mvN_len, HM.out]
    by_cases hlt : k < 4
    · obtain ⟨n, hn⟩ : ∃ n, n = (k + r) % 4 := ⟨_, rfl⟩
      have hn4 : n < 4 := by omega
      have hni : ((k : Int) + (r : Int)) % 4 = (n : Int) := by omega
      obtain ⟨i, hi⟩ : ∃ i, i = 4 * n + r := ⟨_, rfl⟩
      obtain ⟨j, hj⟩ : ∃ j, j = 4 * k + r := ⟨_, rfl⟩
      have hii : 4 * (n : Int) + (r : Int) = (i : Int) := by omega
      have hji : 4 * (k : Int) + (r : Int) = (j : Int) := by omega
      have hi16 : i < 16 := by omega
      have hj16 : j < 16 := by omega
      have hv := ((HB.out.grown HG.out (by intro e; exact hbt (Option.some.inj e))).cell i).trans (aRow_at (by rw [HL.out]; omega))
      have hu : ∃ u, wr.cell? ⟨t, j, none⟩ = some (.int .u8 ((u : UInt8).toNat : Int)) := ⟨_, (HW.out.cell j).trans (aRow_at (by omega))⟩
      obtain ⟨u, hu⟩ := hu
      have hf := HW.out.frozen j
      generalize hx : l.getD i 0 = x at *
      have HX := Deep.mk hx
      have HN := Deep.mk hn
      have HI := Deep.mk hi
      have HJ := Deep.mk hj
      clear hx hn hi hj hln
      go_wp2_with (go_at_call 43; refine (sub_any x _).mono ?_; rintro e w1 ⟨rfl, rfl⟩)
      refine ⟨⟨k + 1, by omega, rfl, ?_, ?_⟩, by simp [intOf]; omega⟩
      · have h := HW.out.put j (.int .u8 ((sB x).toNat : Int))
        rw [aRow_set] at h
        rw [mvN, ← HN.out, ← HI.out, HX.out, ← HJ.out]
        exact Lib.hid h
      · exact Lib.hid (grown_trans HG.out (grown_set _ _ _ _))
    · have hkd : decide ((k : Int) < 4) = false := by rw [decide_eq_false_iff_not]; omega
      have HW4 : Hid (Wh wr t 22 (aRow (mvN l m r 4))) := by
        have h := HW.out
        rw [show k = 4 by omega] at h
        exact Lib.hid h
      clear HW hln hlt hk
      go_wp2
      go_end0
      exact ⟨rfl, HW4.out, HG.out⟩

set_option maxRecDepth 100000 in
set_option maxHeartbeats 400000 in
theorem moved_any (l : List UInt8) (w : World) (hl : l.length = 16) :
    Calls Try.prog 29 #[.agg (aRow l)] w fun e w' => e = .returned (.agg (aRow (mvL l))) ∧ Below w.heap.size w w' := by
  have HL := Deep.mk hl
  clear hl
  go_enter Try.func29, Try.ntmps29
  go_upto_region 3 with (fail)
  rw [zeros16]
  obtain ⟨hbe, h2, h3, h4⟩ := made3 w (aRow l) (aRow (List.replicate 16 0)) (aRow (List.replicate 16 0)) 22 22 22
  generalize ((w.alloc (.cells (aRow l) 22)).alloc (.cells (aRow (List.replicate 16 0)) 22)).alloc (.cells (aRow (List.replicate 16 0)) 22) = W at *
  obtain ⟨b, hb⟩ : ∃ b, b = w.heap.size := ⟨_, rfl⟩
  obtain ⟨r, hr⟩ : ∃ c, c = w.heap.size + 1 := ⟨_, rfl⟩
  obtain ⟨t, ht⟩ : ∃ r, r = w.heap.size + 1 + 1 := ⟨_, rfl⟩
  rw [← hb] at h2
  rw [← hr] at h3
  rw [← ht] at h4
  rw [← ht, ← hr, ← hb]
  have HB := Lib.hid hb
  have HR := Lib.hid hr
  have hbt : b < r := by omega
  have hrt : r < t := by omega
  have HBE := Lib.hid hbe
  have H2 := Lib.hid h2
  have H3 := Lib.hid h3
  have H4 := Lib.hid h4
  clear hb hr ht hbe h2 h3 h4
  go_wp2
  go_loopw [5, 7] (fun _ i wr => ∃ k : Nat, k ≤ 4 ∧ i = .int .i64 (k : Int) ∧ Hid (Wh wr t 22 (aRow (mvR l k))) ∧ Hid (W.grownBy wr (some t))) (fun _ i _ => 4 - (intOf i).toNat)
  case atStart => exact ⟨0, by omega, rfl, H4, Lib.hid (World.grownBy.refl _ _)⟩
  case round =>
    obtain ⟨k, hk, rfl, HW, HG⟩ := hrel
    by_cases hlt : k < 4
    · have HBL := Lib.hid (H2.out.grown HG.out (by intro e; have := Option.some.inj e; omega))
      go_wp2_with (go_at_call 42; refine (mv1_any l (mvR l k) k b t _ HL.out (mvR_len l k) hlt HBL.out HW.out (by omega)).mono ?_; rintro e w1 ⟨rfl, hw1, hg1⟩; have HW1 := Lib.hid hw1; have HG1 := Lib.hid (grown_trans HG.out hg1); clear hw1 hg1)
      exact ⟨⟨k + 1, by omega, rfl, HW1, HG1⟩, by simp [intOf]; omega⟩
    · have hkd : decide ((k : Int) < 4) = false := by rw [decide_eq_false_iff_not]; omega
      have HW16 : Hid (Wh wr t 22 (aRow (mvL l))) := by
        have h := HW.out
        rw [show k = 4 by omega] at h
        exact Lib.hid h
      have HR16 : Hid (Wh wr r 22 (aRow (List.replicate 16 0))) := Lib.hid (H3.out.grown HG.out (by intro e; have := Option.some.inj e; omega))
      have HBW := Lib.hid (below_grown HBE.out HG.out (by rw [← HB.out]; omega) HBE.out.size)
      have hwr : w.heap.size ≤ r := by rw [HR.out]; omega
      have hal : (mvL l).length = 16 := mvR_len l 4
      obtain ⟨z, hz⟩ : ∃ z, z = mvL l := ⟨_, rfl⟩
      rw [← hz] at hal HW16
      have HZ := Deep.mk hz
      clear HW HG hlt hk hz
      go_wp2_with (first
        | (refine wpList_load_row rfl 22 (.tmp 3) rfl t rfl _ (aRow z) _ _ HW16.out Try.underlying22 rfl (info_aRow hal) ?_)
        | (refine wpList_store_row rfl 22 (.tmp 2) (.tmp 14) rfl r (aRow z) rfl rfl _ _ HR16.out (info_aRow hal) (by rw [aRow_size, aRow_size, hal]; rfl) (aRow_one _) ?_))
      refine bodyPost_ret (v := .agg (aRow z)) (results_cell_row Try.results29 _ _ r _ _ (0, 0) _ rfl (setRow_heap wr r _ _ _ _ HR16.out) Try.underlying22 rfl (info_aRow hal)) rfl ?_
      exact ⟨by rw [HZ.out], below_setRow HBW.out hwr _⟩
end Go.Proofs.Ytajfpbkeabdcaaa
