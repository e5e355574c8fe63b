/-
  aes.mixed: what the columns become.
-/
import Derived.Test.YtajfpbkeabdcaaaAsMove
namespace Go.Proofs.Ytajfpbkeabdcaaa
open Go.RowKit
set_option linter.unusedVariables false

def mxB (a b c d : UInt8) : UInt8 := tw (a ^^^ b) ^^^ b ^^^ c ^^^ d
/-- A column of a block, mixed. -/
def mxC (l : List UInt8) (j : Nat) (a b c d : UInt8) : List UInt8 := (((l.set j (mxB a b c d)).set (j + 1) (mxB b c d a)).set (j + 2) (mxB c d a b)).set (j + 3) (mxB d a b c)
def mxN (l : List UInt8) : Nat → List UInt8
  | 0 => l
  | k + 1 => mxC (mxN l k) (4 * k) ((mxN l k).getD (4 * k) 0) ((mxN l k).getD (4 * k + 1) 0) ((mxN l k).getD (4 * k + 2) 0) ((mxN l k).getD (4 * k + 3) 0)
def mxL (l : List UInt8) : List UInt8 := mxN l 4
theorem mxC_len (l : List UInt8) (j : Nat) (a b c d : UInt8) : (mxC l j a b c d).length = l.length := by simp [mxC]
theorem mxN_len (l : List UInt8) (k : Nat) : (mxN l k).length = l.length := by
  induction k with
  | zero => rfl
  | succ k ih => rw [mxN, mxC_len, ih]

theorem twice_x (x y : UInt8) (w : World) :
    Calls Try.prog 41 #[.int .u8 (bits .xor .u8 (x.toNat : Int) (y.toNat : Int))] w fun e w' => e = .returned (.int .u8 ((tw (x ^^^ y)).toNat : Int)) ∧ w = w' := by
  rw [b_xor]
  exact twice_any _ w

set_option maxRecDepth 100000 in
set_option maxHeartbeats 400000 in
theorem mixed_any (l : List UInt8) (w : World) (hl : l.length = 16) :
    Calls Try.prog 28 #[.agg (aRow l)] w fun e w' => e = .returned (.agg (aRow (mxL l))) ∧ Below w.heap.size w w' := by
  have HL := Deep.mk hl
  clear hl
  go_enter Try.func28, Try.ntmps28
  go_upto_region 1 with (fail)
  rw [zeros16]
  obtain ⟨hbe, h2, h3⟩ := made2 w (aRow l) (aRow (List.replicate 16 0)) 22 22
  generalize (w.alloc (.cells (aRow l) 22)).alloc (.cells (aRow (List.replicate 16 0)) 22) = W at *
  obtain ⟨b, hb⟩ : ∃ b, b = w.heap.size := ⟨_, rfl⟩
  obtain ⟨r, hr⟩ : ∃ c, c = w.heap.size + 1 := ⟨_, rfl⟩
  rw [← hb] at h2
  rw [← hr] at h3
  rw [← hr, ← hb]
  have HB := Lib.hid hb
  have HR := Lib.hid hr
  have hbr : b < r := by omega
  have HBE := Lib.hid hbe
  have H2 := Lib.hid h2
  have H3 := Lib.hid h3
  clear hb hr hbe h2 h3
  go_wp2
  go_loopw [3, 4, 5, 6, 7] (fun i _ _ _ _ wr => ∃ k : Nat, k ≤ 4 ∧ i = .int .i64 ((4 * k : Nat) : Int) ∧ Hid (Wh wr b 22 (aRow (mxN l k))) ∧ Hid (W.grownBy wr (some b))) (fun i _ _ _ _ _ => 16 - (intOf i).toNat)
  case atStart => exact ⟨0, by omega, rfl, H2, Lib.hid (World.grownBy.refl _ _)⟩
  case round =>
    obtain ⟨k, hk, rfl, HW, HG⟩ := hrel
    have hln : (mxN l k).length = 16 := by rw [mxN_len, HL.out]
    obtain ⟨j, hj⟩ : ∃ j, j = 4 * k := ⟨_, rfl⟩
    rw [← hj]
    by_cases hlt : k < 4
    · obtain ⟨s, hs⟩ : ∃ s, s = mxN l k := ⟨_, rfl⟩
      rw [← hs] at HW hln
      have hj12 : j ≤ 12 := by omega
      have k0 := (HW.out.cell j).trans (aRow_at (by omega))
      have k1 := (HW.out.cell (j + 1)).trans (aRow_at (by omega))
      have k2 := (HW.out.cell (j + 2)).trans (aRow_at (by omega))
      have k3 := (HW.out.cell (j + 3)).trans (aRow_at (by omega))
      have f0 := HW.out.frozen j
      have f1 := HW.out.frozen (j + 1)
      have f2 := HW.out.frozen (j + 2)
      have f3 := HW.out.frozen (j + 3)
      generalize hx0 : s.getD j 0 = x0 at *
      generalize hx1 : s.getD (j + 1) 0 = x1 at *
      generalize hx2 : s.getD (j + 2) 0 = x2 at *
      generalize hx3 : s.getD (j + 3) 0 = x3 at *
      have X0 := Deep.mk hx0
      have X1 := Deep.mk hx1
      have X2 := Deep.mk hx2
      have X3 := Deep.mk hx3
      have HS := Deep.mk hs
      have HJ := Deep.mk hj
      have b0 := x0.toNat_lt
      have b1 := x1.toNat_lt
      have b2 := x2.toNat_lt
      have b3 := x3.toNat_lt
      have HSL := Deep.mk hln
      clear hx0 hx1 hx2 hx3 hs hj hln
      go_wp2
      have e1 : IntKind.i64.wrap ((j : Int) + 1) = (j : Int) + 1 := IntWalk.i64_in _ (by omega)
      have e2 : IntKind.i64.wrap ((j : Int) + 2) = (j : Int) + 2 := IntWalk.i64_in _ (by omega)
      have e3 : IntKind.i64.wrap ((j : Int) + 3) = (j : Int) + 3 := IntWalk.i64_in _ (by omega)
      have p1 : (0 : Int) ≤ (j : Int) + 1 := by omega
      have p2 : (0 : Int) ≤ (j : Int) + 2 := by omega
      have p3 : (0 : Int) ≤ (j : Int) + 3 := by omega
      have q0 : (j : Int) < 16 := by omega
      have q1 : (j : Int) + 1 < 16 := by omega
      have q2 : (j : Int) + 2 < 16 := by omega
      have q3 : (j : Int) + 3 < 16 := by omega
      have n1 : ((j : Int) + 1).toNat = j + 1 := by omega
      have n2 : ((j : Int) + 2).toNat = j + 2 := by omega
      have n3 : ((j : Int) + 3).toNat = j + 3 := by omega
      go_quiet (fail)
      clear e1 e2 e3 p1 p2 p3 q0 q1 q2 q3 n1 n2 n3 k0 k1 k2 k3 f0 f1 f2 f3
      have HW2 := Lib.hid (HW.out.drewN nq)
      have HG2 := Lib.hid (grown_drewN HG.out nq)
      clear HW HG
      generalize wr.drewN nq = w2 at *
      have c0 : ∃ u, w2.cell? ⟨b, j, none⟩ = some (.int .u8 ((u : UInt8).toNat : Int)) := ⟨_, (HW2.out.cell j).trans (aRow_at (by rw [HSL.out]; omega))⟩
      obtain ⟨u0, c0⟩ := c0
      have f0 := HW2.out.frozen j
      go_upto_region 6 with (first | (go_at_call 41; refine (twice_x _ _ _).mono ?_; rintro e w1 ⟨rfl, rfl⟩))
      rw [b_xor, b_xor, b_xor, b_xor]
      have HW3 := Lib.hid (HW2.out.put j (.int .u8 ((mxB x0 x1 x2 x3).toNat : Int)))
      have HG3 := Lib.hid (grown_trans HG2.out (grown_set w2 b j (.int .u8 ((mxB x0 x1 x2 x3).toNat : Int))))
      rw [aRow_set] at HW3
      change Code.wp _ _ _ _ (w2.setCell ⟨b, j, none⟩ (.int .u8 ((mxB x0 x1 x2 x3).toNat : Int)))
      clear HW2 HG2 c0 f0
      generalize w2.setCell ⟨b, j, none⟩ (.int .u8 ((mxB x0 x1 x2 x3).toNat : Int)) = w3 at *
      have c1 : ∃ u, w3.cell? ⟨b, j + 1, none⟩ = some (.int .u8 ((u : UInt8).toNat : Int)) := ⟨_, (HW3.out.cell (j + 1)).trans (aRow_at (by simp only [List.length_set]; rw [HSL.out]; omega))⟩
      obtain ⟨u1, c1⟩ := c1
      have f1 := HW3.out.frozen (j + 1)
      go_upto_region 7 with (first | (go_at_call 41; refine (twice_x _ _ _).mono ?_; rintro e w1 ⟨rfl, rfl⟩))
      rw [b_xor, b_xor, b_xor, b_xor]
      have HW4 := Lib.hid (HW3.out.put (j + 1) (.int .u8 ((mxB x1 x2 x3 x0).toNat : Int)))
      have HG4 := Lib.hid (grown_trans HG3.out (grown_set w3 b (j + 1) (.int .u8 ((mxB x1 x2 x3 x0).toNat : Int))))
      rw [aRow_set] at HW4
      change Code.wp _ _ _ _ (w3.setCell ⟨b, j + 1, none⟩ (.int .u8 ((mxB x1 x2 x3 x0).toNat : Int)))
      clear HW3 HG3 c1 f1
      generalize w3.setCell ⟨b, j + 1, none⟩ (.int .u8 ((mxB x1 x2 x3 x0).toNat : Int)) = w4 at *
      have c2 : ∃ u, w4.cell? ⟨b, j + 2, none⟩ = some (.int .u8 ((u : UInt8).toNat : Int)) := ⟨_, (HW4.out.cell (j + 2)).trans (aRow_at (by simp only [List.length_set]; rw [HSL.out]; omega))⟩
      obtain ⟨u2, c2⟩ := c2
      have f2 := HW4.out.frozen (j + 2)
      go_upto_region 8 with (first | (go_at_call 41; refine (twice_x _ _ _).mono ?_; rintro e w1 ⟨rfl, rfl⟩))
      rw [b_xor, b_xor, b_xor, b_xor]
      have HW5 := Lib.hid (HW4.out.put (j + 2) (.int .u8 ((mxB x2 x3 x0 x1).toNat : Int)))
      have HG5 := Lib.hid (grown_trans HG4.out (grown_set w4 b (j + 2) (.int .u8 ((mxB x2 x3 x0 x1).toNat : Int))))
      rw [aRow_set] at HW5
      change Code.wp _ _ _ _ (w4.setCell ⟨b, j + 2, none⟩ (.int .u8 ((mxB x2 x3 x0 x1).toNat : Int)))
      clear HW4 HG4 c2 f2
      generalize w4.setCell ⟨b, j + 2, none⟩ (.int .u8 ((mxB x2 x3 x0 x1).toNat : Int)) = w5 at *
      have c3 : ∃ u, w5.cell? ⟨b, j + 3, none⟩ = some (.int .u8 ((u : UInt8).toNat : Int)) := ⟨_, (HW5.out.cell (j + 3)).trans (aRow_at (by simp only [List.length_set]; rw [HSL.out]; omega))⟩
      obtain ⟨u3, c3⟩ := c3
      have f3 := HW5.out.frozen (j + 3)
      go_wp2_with (first | (go_at_call 41; refine (twice_x _ _ _).mono ?_; rintro e w1 ⟨rfl, rfl⟩))
      rw [b_xor, b_xor, b_xor]
      have HW6 := Lib.hid (HW5.out.put (j + 3) (.int .u8 ((mxB x3 x0 x1 x2).toNat : Int)))
      have HG6 := Lib.hid (grown_trans HG5.out (grown_set w5 b (j + 3) (.int .u8 ((mxB x3 x0 x1 x2).toNat : Int))))
      rw [aRow_set] at HW6
      refine ⟨⟨k + 1, by omega, by rw [HJ.out]; rfl, ?_, HG6⟩, by simp [intOf]; omega⟩
      have hfin : mxC s j x0 x1 x2 x3 = mxN l (k + 1) := by rw [mxN, ← HJ.out, ← HS.out, X0.out, X1.out, X2.out, X3.out]
      rw [← hfin]
      exact HW6
    · have hk4 : k = 4 := by omega
      have hkd : decide ((j : Int) < 16) = false := by rw [decide_eq_false_iff_not]; omega
      have HW16 : Hid (Wh wr b 22 (aRow (mxL l))) := by
        have h := HW.out
        rw [hk4] at h
        exact Lib.hid h
      have HR16 : Hid (Wh wr r 22 (aRow (List.replicate 16 0))) := Lib.hid (H3.out.grown HG.out (by intro e; have := Option.some.inj e; omega))
      have HBW := Lib.hid (below_grown HBE.out HG.out (by rw [← HB.out]; exact Nat.le_refl _) HBE.out.size)
      have hwr : w.heap.size ≤ r := by rw [HR.out]; omega
      have hal : (mxL l).length = 16 := by rw [mxL, mxN_len, HL.out]
      obtain ⟨z, hz⟩ : ∃ z, z = mxL l := ⟨_, rfl⟩
      rw [← hz] at hal HW16
      have HZ := Deep.mk hz
      clear HW HG hln hlt hk hz hj hk4
      go_wp2_with (first
        | (refine wpList_load_row rfl 22 (.tmp 1) rfl b rfl _ (aRow z) _ _ HW16.out Try.underlying22 rfl (info_aRow hal) ?_)
        | (refine wpList_store_row rfl 22 (.tmp 2) (.tmp 78) rfl r (aRow z) rfl rfl _ _ HR16.out (info_aRow hal) (by rw [aRow_size, aRow_size, hal]; rfl) (aRow_one _) ?_))
      refine bodyPost_ret (v := .agg (aRow z)) (results_cell_row Try.results28 _ _ r _ _ (0, 0) _ rfl (setRow_heap wr r _ _ _ _ HR16.out) Try.underlying22 rfl (info_aRow hal)) rfl ?_
      exact ⟨by rw [HZ.out], below_setRow HBW.out hwr _⟩
end Go.Proofs.Ytajfpbkeabdcaaa
