/-
  aes.mixed: what the columns become.
  aes.nextKey: the round key behind another one.
-/
import Derived.Test.YtbnnjkjmadnjkaaDoorSk4
namespace Go.Proofs.YtbnnjkjmadnjkaaDoor
section
open Go.RowKit
set_option linter.unusedVariables false

def mxB (a b c d : UInt8) : UInt8 := tw (a ^^^ b) ^^^ b ^^^ c ^^^ d
/-- A column of a block, mixed. -/
def mxC (l : List UInt8) (j : Nat) (a b c d : UInt8) : List UInt8 := (((l.set j (mxB a b c d)).set (j + 1) (mxB b c d a)).set (j + 2) (mxB c d a b)).set (j + 3) (mxB d a b c)
def mxN (l : List UInt8) : Nat → List UInt8
  | 0 => l
  | k + 1 => mxC (mxN l k) (4 * k) ((mxN l k).getD (4 * k) 0) ((mxN l k).getD (4 * k + 1) 0) ((mxN l k).getD (4 * k + 2) 0) ((mxN l k).getD (4 * k + 3) 0)
def mxL (l : List UInt8) : List UInt8 := mxN l 4
theorem mxC_len (l : List UInt8) (j : Nat) (a b c d : UInt8) : (mxC l j a b c d).length = l.length := by simp [mxC]
theorem mxN_len (l : List UInt8) (k : Nat) : (mxN l k).length = l.length := by
  induction k with
  | zero => rfl
  | succ k ih => rw [mxN, mxC_len, ih]

theorem twice_x (x y : UInt8) (w : World) :
    Calls Tryd.prog 79 #[.int .u8 (bits .xor .u8 (x.toNat : Int) (y.toNat : Int))] w fun e w' => e = .returned (.int .u8 ((tw (x ^^^ y)).toNat : Int)) ∧ w = w' := by
  rw [b_xor]
  exact twice_any _ w

set_option maxRecDepth 100000 in
set_option maxHeartbeats 400000 in
theorem amixed_any (l : List UInt8) (w : World) (hl : l.length = 16) :
    Calls Tryd.prog 65 #[.agg (aRow l)] w fun e w' => e = .returned (.agg (aRow (mxL l))) ∧ Below w.heap.size w w' := by
  have HL := Deep.mk hl
  clear hl
  go_enter Tryd.func65, Tryd.ntmps65
  go_upto_region 1 with (fail)
  rw [zeros16]
  obtain ⟨hbe, h2, h3⟩ := made2 w (aRow l) (aRow (List.replicate 16 0)) 23 23
  generalize (w.alloc (.cells (aRow l) 23)).alloc (.cells (aRow (List.replicate 16 0)) 23) = W at *
  obtain ⟨b, hb⟩ : ∃ b, b = w.heap.size := ⟨_, rfl⟩
  obtain ⟨r, hr⟩ : ∃ c, c = w.heap.size + 1 := ⟨_, rfl⟩
  rw [← hb] at h2
  rw [← hr] at h3
  rw [← hr, ← hb]
  have HB := Lib.hid hb
  have HR := Lib.hid hr
  have hbr : b < r := by omega
  have HBE := Lib.hid hbe
  have H2 := Lib.hid h2
  have H3 := Lib.hid h3
  clear hb hr hbe h2 h3
  go_wp2
  go_loopw [3, 4, 5, 6, 7] (fun i _ _ _ _ wr => ∃ k : Nat, k ≤ 4 ∧ i = .int .i64 ((4 * k : Nat) : Int) ∧ Hid (Wh wr b 23 (aRow (mxN l k))) ∧ Hid (W.grownBy wr (some b))) (fun i _ _ _ _ _ => 16 - (intOf i).toNat)
  case atStart => exact ⟨0, by omega, rfl, H2, Lib.hid (World.grownBy.refl _ _)⟩
  case round =>
    obtain ⟨k, hk, rfl, HW, HG⟩ := hrel
    have hln : (mxN l k).length = 16 := by rw [mxN_len, HL.out]
    obtain ⟨j, hj⟩ : ∃ j, j = 4 * k := ⟨_, rfl⟩
    rw [← hj]
    by_cases hlt : k < 4
    · obtain ⟨s, hs⟩ : ∃ s, s = mxN l k := ⟨_, rfl⟩
      rw [← hs] at HW hln
      have hj12 : j ≤ 12 := by omega
      have k0 := (HW.out.cell j).trans (aRow_at (by omega))
      have k1 := (HW.out.cell (j + 1)).trans (aRow_at (by omega))
      have k2 := (HW.out.cell (j + 2)).trans (aRow_at (by omega))
      have k3 := (HW.out.cell (j + 3)).trans (aRow_at (by omega))
      have f0 := HW.out.frozen j
      have f1 := HW.out.frozen (j + 1)
      have f2 := HW.out.frozen (j + 2)
      have f3 := HW.out.frozen (j + 3)
      generalize hx0 : s.getD j 0 = x0 at *
      generalize hx1 : s.getD (j + 1) 0 = x1 at *
      generalize hx2 : s.getD (j + 2) 0 = x2 at *
      generalize hx3 : s.getD (j + 3) 0 = x3 at *
      have X0 := Deep.mk hx0
      have X1 := Deep.mk hx1
      have X2 := Deep.mk hx2
      have X3 := Deep.mk hx3
      have HS := Deep.mk hs
      have HJ := Deep.mk hj
      have b0 := x0.toNat_lt
      have b1 := x1.toNat_lt
      have b2 := x2.toNat_lt
      have b3 := x3.toNat_lt
      have HSL := Deep.mk hln
      clear hx0 hx1 hx2 hx3 hs hj hln
      go_wp2
      have e1 : IntKind.i64.wrap ((j : Int) + 1) = (j : Int) + 1 := IntWalk.i64_in _ (by omega)
      have e2 : IntKind.i64.wrap ((j : Int) + 2) = (j : Int) + 2 := IntWalk.i64_in _ (by omega)
      have e3 : IntKind.i64.wrap ((j : Int) + 3) = (j : Int) + 3 := IntWalk.i64_in _ (by omega)
      have p1 : (0 : Int) ≤ (j : Int) + 1 := by omega
      have p2 : (0 : Int) ≤ (j : Int) + 2 := by omega
      have p3 : (0 : Int) ≤ (j : Int) + 3 := by omega
      have q0 : (j : Int) < 16 := by omega
      have q1 : (j : Int) + 1 < 16 := by omega
      have q2 : (j : Int) + 2 < 16 := by omega
      have q3 : (j : Int) + 3 < 16 := by omega
      have n1 : ((j : Int) + 1).toNat = j + 1 := by omega
      have n2 : ((j : Int) + 2).toNat = j + 2 := by omega
      have n3 : ((j : Int) + 3).toNat = j + 3 := by omega
      go_quiet (fail)
      clear e1 e2 e3 p1 p2 p3 q0 q1 q2 q3 n1 n2 n3 k0 k1 k2 k3 f0 f1 f2 f3
      have HW2 := Lib.hid (HW.out.drewN nq)
      have HG2 := Lib.hid (grown_drewN HG.out nq)
      clear HW HG
      generalize wr.drewN nq = w2 at *
      have c0 : ∃ u, w2.cell? ⟨b, j, none⟩ = some (.int .u8 ((u : UInt8).toNat : Int)) := ⟨_, (HW2.out.cell j).trans (aRow_at (by rw [HSL.out]; omega))⟩
      obtain ⟨u0, c0⟩ := c0
      have f0 := HW2.out.frozen j
      go_upto_region 6 with (first | (go_at_call 79; refine (twice_x _ _ _).mono ?_; rintro e w1 ⟨rfl, rfl⟩))
      rw [b_xor, b_xor, b_xor, b_xor]
      have HW3 := Lib.hid (HW2.out.put j (.int .u8 ((mxB x0 x1 x2 x3).toNat : Int)))
      have HG3 := Lib.hid (grown_trans HG2.out (grown_set w2 b j (.int .u8 ((mxB x0 x1 x2 x3).toNat : Int))))
      rw [aRow_set] at HW3
      change Code.wp _ _ _ _ (w2.setCell ⟨b, j, none⟩ (.int .u8 ((mxB x0 x1 x2 x3).toNat : Int)))
      clear HW2 HG2 c0 f0
      generalize w2.setCell ⟨b, j, none⟩ (.int .u8 ((mxB x0 x1 x2 x3).toNat : Int)) = w3 at *
      have c1 : ∃ u, w3.cell? ⟨b, j + 1, none⟩ = some (.int .u8 ((u : UInt8).toNat : Int)) := ⟨_, (HW3.out.cell (j + 1)).trans (aRow_at (by simp only [List.length_set]; rw [HSL.out]; omega))⟩
      obtain ⟨u1, c1⟩ := c1
      have f1 := HW3.out.frozen (j + 1)
      go_upto_region 7 with (first | (go_at_call 79; refine (twice_x _ _ _).mono ?_; rintro e w1 ⟨rfl, rfl⟩))
      rw [b_xor, b_xor, b_xor, b_xor]
      have HW4 := Lib.hid (HW3.out.put (j + 1) (.int .u8 ((mxB x1 x2 x3 x0).toNat : Int)))
      have HG4 := Lib.hid (grown_trans HG3.out (grown_set w3 b (j + 1) (.int .u8 ((mxB x1 x2 x3 x0).toNat : Int))))
      rw [aRow_set] at HW4
      change Code.wp _ _ _ _ (w3.setCell ⟨b, j + 1, none⟩ (.int .u8 ((mxB x1 x2 x3 x0).toNat : Int)))
      clear HW3 HG3 c1 f1
      generalize w3.setCell ⟨b, j + 1, none⟩ (.int .u8 ((mxB x1 x2 x3 x0).toNat : Int)) = w4 at *
      have c2 : ∃ u, w4.cell? ⟨b, j + 2, none⟩ = some (.int .u8 ((u : UInt8).toNat : Int)) := ⟨_, (HW4.out.cell (j + 2)).trans (aRow_at (by simp only [List.length_set]; rw [HSL.out]; omega))⟩
      obtain ⟨u2, c2⟩ := c2
      have f2 := HW4.out.frozen (j + 2)
      go_upto_region 8 with (first | (go_at_call 79; refine (twice_x _ _ _).mono ?_; rintro e w1 ⟨rfl, rfl⟩))
      rw [b_xor, b_xor, b_xor, b_xor]
      have HW5 := Lib.hid (HW4.out.put (j + 2) (.int .u8 ((mxB x2 x3 x0 x1).toNat : Int)))
      have HG5 := Lib.hid (grown_trans HG4.out (grown_set w4 b (j + 2) (.int .u8 ((mxB x2 x3 x0 x1).toNat : Int))))
      rw [aRow_set] at HW5
      change Code.wp _ _ _ _ (w4.setCell ⟨b, j + 2, none⟩ (.int .u8 ((mxB x2 x3 x0 x1).toNat : Int)))
      clear HW4 HG4 c2 f2
      generalize w4.setCell ⟨b, j + 2, none⟩ (.int .u8 ((mxB x2 x3 x0 x1).toNat : Int)) = w5 at *
      have c3 : ∃ u, w5.cell? ⟨b, j + 3, none⟩ = some (.int .u8 ((u : UInt8).toNat : Int)) := ⟨_, (HW5.out.cell (j + 3)).trans (aRow_at (by simp only [List.length_set]; rw [HSL.out]; omega))⟩
      obtain ⟨u3, c3⟩ := c3
      have f3 := HW5.out.frozen (j + 3)
      go_wp2_with (first | (go_at_call 79; refine (twice_x _ _ _).mono ?_; rintro e w1 ⟨rfl, rfl⟩))
      rw [b_xor, b_xor, b_xor]
      have HW6 := Lib.hid (HW5.out.put (j + 3) (.int .u8 ((mxB x3 x0 x1 x2).toNat : Int)))
      have HG6 := Lib.hid (grown_trans HG5.out (grown_set w5 b (j + 3) (.int .u8 ((mxB x3 x0 x1 x2).toNat : Int))))
      rw [aRow_set] at HW6
      refine ⟨⟨k + 1, by omega, by rw [HJ.out]; rfl, ?_, HG6⟩, by simp [intOf]; omega⟩
      have hfin : mxC s j x0 x1 x2 x3 = mxN l (k + 1) := by rw [mxN, ← HJ.out, ← HS.out, X0.out, X1.out, X2.out, X3.out]
      rw [← hfin]
      exact HW6
    · have hk4 : k = 4 := by omega
      have hkd : decide ((j : Int) < 16) = false := by rw [decide_eq_false_iff_not]; omega
      have HW16 : Hid (Wh wr b 23 (aRow (mxL l))) := by
        have h := HW.out
        rw [hk4] at h
        exact Lib.hid h
      have HR16 : Hid (Wh wr r 23 (aRow (List.replicate 16 0))) := Lib.hid (H3.out.grown HG.out (by intro e; have := Option.some.inj e; omega))
      have HBW := Lib.hid (below_grownA HBE.out HG.out (by rw [← HB.out]; exact Nat.le_refl _) HBE.out.size)
      have hwr : w.heap.size ≤ r := by rw [HR.out]; omega
      have hal : (mxL l).length = 16 := by rw [mxL, mxN_len, HL.out]
      obtain ⟨z, hz⟩ : ∃ z, z = mxL l := ⟨_, rfl⟩
      rw [← hz] at hal HW16
      have HZ := Deep.mk hz
      clear HW HG hln hlt hk hz hj hk4
      go_wp2_with (first
        | (refine wpList_load_row rfl 23 (.tmp 1) rfl b rfl _ (aRow z) _ _ HW16.out Tryd.underlying23 rfl (info_aRow hal) ?_)
        | (refine wpList_store_row rfl 23 (.tmp 2) (.tmp 78) rfl r (aRow z) rfl rfl _ _ HR16.out (info_aRow hal) (by rw [aRow_size, aRow_size, hal]; rfl) (aRow_one _) ?_))
      refine bodyPost_ret (v := .agg (aRow z)) (results_cell_row Tryd.results65 _ _ r _ _ (0, 0) _ rfl (setRow_heap wr r _ _ _ _ HR16.out) Tryd.underlying23 rfl (info_aRow hal)) rfl ?_
      exact ⟨by rw [HZ.out], below_setRow HBW.out hwr _⟩
end

section
open Go.RowKit
set_option linter.unusedVariables false

/-- The first column of the next key, behind r bytes of it; the next key behind n bytes more. -/
def nkA (l : List UInt8) : Nat → List UInt8
  | 0 => l
  | r + 1 => (nkA l r).set r ((nkA l r).getD r 0 ^^^ sB (l.getD (12 + (r + 1) % 4) 0))
def nkB (l : List UInt8) (c : UInt8) : List UInt8 := (nkA l 4).set 0 ((nkA l 4).getD 0 0 ^^^ c)
def nkC (m : List UInt8) : Nat → List UInt8
  | 0 => m
  | n + 1 => (nkC m n).set (n + 4) ((nkC m n).getD (n + 4) 0 ^^^ (nkC m n).getD n 0)
def nkL (l : List UInt8) (c : UInt8) : List UInt8 := nkC (nkB l c) 12
theorem nkA_len (l : List UInt8) (k : Nat) : (nkA l k).length = l.length := by
  induction k with
  | zero => rfl
  | succ k ih => simp [nkA, ih]
theorem nkC_len (l : List UInt8) (k : Nat) : (nkC l k).length = l.length := by
  induction k with
  | zero => rfl
  | succ k ih => simp [nkC, ih]
theorem nkB_len (l : List UInt8) (c : UInt8) : (nkB l c).length = l.length := by simp [nkB, nkA_len]
theorem nkL_len {l : List UInt8} (h : l.length = 16) (c : UInt8) : (nkL l c).length = 16 := by rw [nkL, nkC_len, nkB_len, h]

set_option maxRecDepth 100000 in
set_option maxHeartbeats 400000 in
theorem anext_any (l : List UInt8) (c : UInt8) (w : World) (hl : l.length = 16) :
    Calls Tryd.prog 78 #[.agg (aRow l), .int .u8 (c.toNat : Int)] w fun e w' => e = .returned (.agg (aRow (nkL l c))) ∧ Below w.heap.size w w' := by
  have HL := Deep.mk hl
  clear hl
  go_enter Tryd.func78, Tryd.ntmps78
  go_upto_region 1 with (fail)
  rw [zeros16]
  obtain ⟨hbe, h2, h3⟩ := made2 w (aRow l) (aRow (List.replicate 16 0)) 23 23
  have hz : ((w.alloc (.cells (aRow l) 23)).alloc (.cells (aRow (List.replicate 16 0)) 23)).heap.size = w.heap.size + 1 + 1 := by simp
  generalize (w.alloc (.cells (aRow l) 23)).alloc (.cells (aRow (List.replicate 16 0)) 23) = W at *
  obtain ⟨b, hb⟩ : ∃ b, b = w.heap.size := ⟨_, rfl⟩
  obtain ⟨r, hr⟩ : ∃ c, c = w.heap.size + 1 := ⟨_, rfl⟩
  rw [← hb] at h2
  rw [← hr] at h3 hz
  rw [← hr, ← hb]
  have HB := Lib.hid hb
  have HR := Lib.hid hr
  have hbr : b < r := by omega
  have HBE := Lib.hid hbe
  have H2 := Lib.hid h2
  have H3 := Lib.hid h3
  have HZ := Lib.hid hz
  clear hb hr hbe h2 h3 hz
  go_upto_region 2 with (first
    | (refine wpList_load_row rfl 23 (.tmp 2) rfl b rfl _ (aRow l) _ _ H2.out Tryd.underlying23 rfl (info_aRow HL.out) ?_)
    | (refine wpList_store_row rfl 23 (.tmp 5) (.tmp 8) rfl W.heap.size (aRow l) rfl rfl _ _ (heap_alloc_new W _) (info_aRow HL.out) (by rw [aRow_size, HL.out]; rfl) (aRow_one _) ?_; rw [World.setRow_alloc_new]))
  obtain ⟨n, hn⟩ : ∃ n, n = W.heap.size := ⟨_, rfl⟩
  have hrn : r < n := by rw [hn, HZ.out]; omega
  have HBE2 := Lib.hid (HBE.out.alloc HBE.out.size (.cells (aRow l) 23))
  have H22 := Lib.hid (H2.out.alloc (.cells (aRow l) 23))
  have H33 := Lib.hid (H3.out.alloc (.cells (aRow l) 23))
  have H44 : Hid (Wh (W.alloc (.cells (aRow l) 23)) n 23 (aRow l)) := by rw [hn]; exact Lib.hid (Wh.new _ _ _)
  rw [← hn]
  clear H2 H3 HBE hn HZ
  generalize W.alloc (.cells (aRow l) 23) = W2 at *
  go_wp2
  go_loopw [6, 9] (fun _ i wr => ∃ k : Nat, k ≤ 4 ∧ i = .int .i64 (k : Int) ∧ Hid (Wh wr n 23 (aRow (nkA l k))) ∧ Hid (W2.grownBy wr (some n))) (fun _ i _ => 4 - (intOf i).toNat)
  case atStart => exact ⟨0, by omega, rfl, H44, Lib.hid (World.grownBy.refl _ _)⟩
  case round =>
    obtain ⟨k, hk, rfl, HW, HG⟩ := hrel
    have hln : (nkA l k).length = 16 := by rw [nkA_len, HL.out]
    by_cases hlt : k < 4
    · obtain ⟨j, hj⟩ : ∃ j, j = (k + 1) % 4 := ⟨_, rfl⟩
      have hj4 : j < 4 := by omega
      have kb := ((H22.out.grown HG.out (by intro e; have := Option.some.inj e; omega)).cell (12 + j)).trans (aRow_at (by rw [HL.out]; omega))
      have kn := (HW.out.cell k).trans (aRow_at (by omega))
      have fn := HW.out.frozen k
      generalize hx : l.getD (12 + j) 0 = x at *
      generalize hy : (nkA l k).getD k 0 = y at *
      have HX := Deep.mk hx
      have HY := Deep.mk hy
      have HJ := Deep.mk hj
      have hx8 := x.toNat_lt
      have hy8 := y.toNat_lt
      have e1 : IntKind.i64.wrap ((k : Int) + 1) = (k : Int) + 1 := IntWalk.i64_in _ (by omega)
      have e2 : ((k : Int) + 1).tmod 4 = (j : Int) := by rw [Int.tmod_eq_emod_of_nonneg (by omega)]; omega
      have e3 : IntKind.i64.wrap (12 + (j : Int)) = 12 + (j : Int) := IntWalk.i64_in _ (by omega)
      have e4 : (0 : Int) ≤ 12 + (j : Int) := by omega
      have e5 : 12 + (j : Int) < 16 := by omega
      have e6 : (12 + (j : Int)).toNat = 12 + j := by omega
      have e7 : (k : Int) < 16 := by omega
      clear hx hy hln hj
      go_wp2_with fail
      go_region_with (go_at_call 82; refine (sub_any x _).mono ?_; rintro e w1 ⟨rfl, rfl⟩)
      all_goals
        clear e1 e2 e3 e4 e5 e6 e7 kb kn fn
        rw [b_xor]
        have HW3 := Lib.hid ((HW.out.put k (.int .u8 ((y ^^^ sB x).toNat : Int))).drewN 1)
        have HG3 := Lib.hid (grown_drewN (grown_trans HG.out (grown_set wr n k (.int .u8 ((y ^^^ sB x).toNat : Int)))) 1)
        rw [aRow_set] at HW3
        clear HW HG
        change Exit.inBlock 1 _ _ _ ((wr.setCell ⟨n, k, none⟩ (.int .u8 ((y ^^^ sB x).toNat : Int))).drewN 1)
        generalize (wr.setCell ⟨n, k, none⟩ (.int .u8 ((y ^^^ sB x).toNat : Int))).drewN 1 = w5 at *
        go_wp2
        refine ⟨⟨k + 1, by omega, rfl, ?_, HG3⟩, by simp [intOf]; omega⟩
        rw [nkA, HY.out, ← HJ.out, HX.out]
        exact HW3
    · have hkd : decide ((k : Int) < 4) = false := by rw [decide_eq_false_iff_not]; omega
      have HW4 : Hid (Wh wr n 23 (aRow (nkA l 4))) := by
        have h := HW.out
        rw [show k = 4 by omega] at h
        exact Lib.hid h
      have hl4 : (nkA l 4).length = 16 := by rw [nkA_len, HL.out]
      have k0 := (HW4.out.cell 0).trans (aRow_at (by omega))
      have f0 := HW4.out.frozen 0
      generalize hy : (nkA l 4).getD 0 0 = y at *
      have HY := Deep.mk hy
      clear HW hln hlt hk hy hl4
      go_upto_region 8 with (fail)
      rw [b_xor]
      have HW5 := Lib.hid (HW4.out.put 0 (.int .u8 ((y ^^^ c).toNat : Int)))
      have HG5 := Lib.hid (grown_trans HG.out (grown_set wr n 0 (.int .u8 ((y ^^^ c).toNat : Int))))
      rw [aRow_set] at HW5
      have HM : Hid (Wh (wr.setCell ⟨n, 0, none⟩ (.int .u8 ((y ^^^ c).toNat : Int))) n 23 (aRow (nkC (nkB l c) 0))) := by
        rw [nkC, nkB, HY.out]
        exact HW5
      clear HW5 HW4 HG k0 f0 HY
      generalize wr.setCell ⟨n, 0, none⟩ (.int .u8 ((y ^^^ c).toNat : Int)) = w5 at *
      have HML : Deep ((nkB l c).length = 16) := ⟨by rw [nkB_len, HL.out]⟩
      obtain ⟨m, hm⟩ : ∃ m, m = nkB l c := ⟨_, rfl⟩
      rw [← hm] at HM HML
      have HMD := Deep.mk hm
      clear hm hkd
      generalize y ^^^ c = y9
      go_wp2
      go_loopw [7] (fun i wr => ∃ k : Nat, k ≤ 12 ∧ i = .int .i64 ((k + 4 : Nat) : Int) ∧ Hid (Wh wr n 23 (aRow (nkC m k))) ∧ Hid (W2.grownBy wr (some n))) (fun i _ => 16 - (intOf i).toNat)
      case atStart => exact ⟨0, by omega, rfl, HM, HG5⟩
      case round =>
        obtain ⟨q, hq, rfl, HW, HG⟩ := hrel
        clear HM HG5
        have hln : (nkC m q).length = 16 := by rw [nkC_len, HML.out]
        obtain ⟨j, hj⟩ : ∃ j, j = q + 4 := ⟨_, rfl⟩
        rw [← hj]
        by_cases hlt : q < 12
        · have hj4 : 4 ≤ j := by omega
          have hj16 : j < 16 := by omega
          have kb := (HW.out.cell (j - 4)).trans (aRow_at (by omega))
          have kn := (HW.out.cell j).trans (aRow_at (by omega))
          have fn := HW.out.frozen j
          generalize hx : (nkC m q).getD (j - 4) 0 = x at *
          generalize hy : (nkC m q).getD j 0 = y at *
          have HX : Deep ((nkC m q).getD q 0 = x) := ⟨by rw [← hx, show j - 4 = q by omega]⟩
          have HY := Deep.mk hy
          have HJ := Deep.mk hj
          have hx8 := x.toNat_lt
          have hy8 := y.toNat_lt
          have e1 : IntKind.i64.wrap ((j : Int) - 4) = (j : Int) - 4 := IntWalk.i64_in _ (by omega)
          have e2 : (4 : Int) ≤ (j : Int) := by omega
          have e4 : (0 : Int) ≤ (j : Int) - 4 := by omega
          have e5 : (j : Int) - 4 < 16 := by omega
          have e6 : ((j : Int) - 4).toNat = j - 4 := by omega
          have e7 : (j : Int) < 16 := by omega
          clear hx hy hln hj
          go_wp2_with fail
          go_region_law (fail)
          all_goals
            clear e1 e2 e4 e5 e6 e7 kb kn fn
            rw [b_xor]
            have HW3 := Lib.hid ((HW.out.put j (.int .u8 ((y ^^^ x).toNat : Int))).drewN 1)
            have HG3 := Lib.hid (grown_drewN (grown_trans HG.out (grown_set wr n j (.int .u8 ((y ^^^ x).toNat : Int)))) 1)
            rw [aRow_set] at HW3
            clear HW HG
            change Exit.inBlock 3 _ _ _ ((wr.setCell ⟨n, j, none⟩ (.int .u8 ((y ^^^ x).toNat : Int))).drewN 1)
            generalize (wr.setCell ⟨n, j, none⟩ (.int .u8 ((y ^^^ x).toNat : Int))).drewN 1 = w7 at *
            go_wp2
            have HF : Hid (Wh w7 n 23 (aRow (nkC m (q + 1)))) := by
              rw [nkC, HX.out, ← HJ.out, HY.out]
              exact HW3
            go_roundw
            case rel => exact ⟨q + 1, by omega, by rw [HJ.out]; rfl, HF, HG3⟩
            case measure => simp [intOf]; omega
        · have hq12 : q = 12 := by omega
          have hkd : decide ((j : Int) < 16) = false := by rw [decide_eq_false_iff_not]; omega
          have HW16 : Hid (Wh wr n 23 (aRow (nkL l c))) := by
            have h := HW.out
            rw [hq12, HMD.out] at h
            exact Lib.hid h
          have HR16 : Hid (Wh wr r 23 (aRow (List.replicate 16 0))) := Lib.hid (H33.out.grown HG.out (by intro e; have := Option.some.inj e; omega))
          have HBW := Lib.hid (below_grownA HBE2.out HG.out (by rw [← HB.out]; omega) HBE2.out.size)
          have hwr : w.heap.size ≤ r := by rw [HR.out]; omega
          have hal := nkL_len HL.out c
          obtain ⟨z, hz⟩ : ∃ z, z = nkL l c := ⟨_, rfl⟩
          rw [← hz] at hal HW16
          have HZ := Deep.mk hz
          clear HW HG hln hlt hq hz hj hq12
          go_wp2_with (first
            | (refine wpList_load_row rfl 23 (.tmp 5) rfl n rfl _ (aRow z) _ _ HW16.out Tryd.underlying23 rfl (info_aRow hal) ?_)
            | (refine wpList_store_row rfl 23 (.tmp 4) (.tmp 43) rfl r (aRow z) rfl rfl _ _ HR16.out (info_aRow hal) (by rw [aRow_size, aRow_size, hal]; rfl) (aRow_one _) ?_))
          refine bodyPost_ret (v := .agg (aRow z)) (results_cell_row Tryd.results78 _ _ r _ _ (0, 0) _ rfl (setRow_heap wr r _ _ _ _ HR16.out) Tryd.underlying23 rfl (info_aRow hal)) rfl ?_
          exact ⟨by rw [HZ.out], below_setRow HBW.out hwr _⟩
end
end Go.Proofs.YtbnnjkjmadnjkaaDoor
