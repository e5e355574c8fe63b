/-
  key.nonce.
  aes.added: two blocks' sum.
  aes.moved and its closure: the bytes' other ones, the rows moved.
-/
import Derived.Test.YtbnnjkjmadnjkaaDoorSk2
import Derived.Test.YtbnnjkjmadnjkaaDoorSk3
namespace Go.Proofs.YtbnnjkjmadnjkaaDoor
section
open Go.RowKit
set_option linter.unusedVariables false

theorem info_kn12 : (Tryd.prog.info? 24).map (·.size) = some 12 := by kernel_rfl
theorem zero_n12 (w : World) : (zeroValue 24).run Tryd.prog w = .ok (.agg (aRow (List.replicate 12 0))) w := by kernel_rfl
theorem info_n12R {l : List UInt8} (h : l.length = 12) : (Tryd.prog.info? 24).map (·.size) = some (aRow l).size := by rw [aRow_size, h]; exact info_kn12

set_option maxRecDepth 100000 in
set_option maxHeartbeats 1000000 in
theorem nonce_any (iv : List UInt8) (pn : Nat) (w : World) (hi : iv.length = 12) (hp : pn < 18446744073709551616) :
    Calls Tryd.prog 17 #[.agg (aRow iv), .int .u64 (pn : Int)] w fun e w' => e = .returned (.agg (aRow (nonK iv pn))) ∧ Below w.heap.size w w' := by
  have HIV := Deep.mk hi
  have HSZ : (aRow iv).size = 12 := by rw [aRow_size, hi]
  clear hi
  go_enter Tryd.func17, Tryd.ntmps17
  go_upto_region 1 with (refine wpList_allocZ rfl 24 rfl (aRow (List.replicate 12 0)) (zero_n12 _) ?_)
  rw [show (w.alloc (.cells (aRow iv) 24)).heap.size = w.heap.size + 1 by simp]
  obtain ⟨hbe, h2, h3⟩ := made2 w (aRow iv) (aRow (List.replicate 12 0)) 24 24
  generalize (w.alloc (.cells (aRow iv) 24)).alloc (.cells (aRow (List.replicate 12 0)) 24) = W at *
  obtain ⟨b, hb⟩ : ∃ b, b = w.heap.size := ⟨_, rfl⟩
  rw [← hb] at h2 h3 ⊢
  obtain ⟨r, hr⟩ : ∃ r, r = b + 1 := ⟨_, rfl⟩
  rw [← hr] at h3 ⊢
  have hwb : w.heap.size ≤ b := by omega
  have hbr : b < r := by omega
  have H2 : Hid (Wh W b 24 (aRow (nonJ iv pn 0))) := Lib.hid h2
  have H3 := Lib.hid h3
  have HBE := Lib.hid hbe
  clear hb hr h2 h3 hbe
  go_wp2_with fail
  go_loopw [1, 5] (fun c i wr => ∃ k j : Nat, k + j = 11 ∧ k ≤ 8 ∧ i = .int .i64 (j : Int) ∧ c = .int .u64 ((pn / 256 ^ k : Nat) : Int) ∧ Hid (Wh wr b 24 (aRow (nonJ iv pn k))) ∧ Hid (W.grownBy wr (some b))) (fun _ i _ => (intOf i).toNat)
  case atStart => exact ⟨0, 11, rfl, by omega, rfl, by rw [Nat.pow_zero, Nat.div_one], H2, Lib.hid (World.grownBy.refl _ _)⟩
  case round =>
    obtain ⟨k, j, hkj, hk, rfl, rfl, HW, HG⟩ := hrel
    clear H2
    obtain ⟨c, hc2⟩ : ∃ c, c = pn / 256 ^ k := ⟨_, rfl⟩
    have hcl : c < 18446744073709551616 := by rw [hc2]; exact Nat.lt_of_le_of_lt (Nat.div_le_self _ _) hp
    have hbc := byte_pn pn k
    have hnx : c / 256 = pn / 256 ^ (k + 1) := by rw [hc2, Nat.div_div_eq_div_mul, Nat.pow_succ]
    rw [← hc2] at hbc ⊢
    obtain ⟨y, hy⟩ : ∃ y, y = UInt8.ofNat (c % 256) := ⟨_, rfl⟩
    rw [← hy] at hbc
    have HC2 := Deep.mk hc2
    have HY := Deep.mk hy
    have HNX := Deep.mk hnx
    have HBC := Deep.mk hbc
    have hy8 := y.toNat_lt
    clear hc2 hy hnx hbc
    by_cases hlt : k < 8
    · have hj : 4 ≤ j := by omega
      have hj15 : j ≤ 11 := by omega
      have hd : decide ((j : Int) ≥ 4) = true := by rw [decide_eq_true_iff]; omega
      obtain ⟨u, hux⟩ : ∃ u, u = (nonJ iv pn k).getD j 0 := ⟨_, rfl⟩
      have hu : wr.cell? ⟨b, j, none⟩ = some (.int .u8 (u.toNat : Int)) := by rw [hux]; exact (HW.out.cell j).trans (aRow_at (by rw [nonJ_len, HIV.out]; omega))
      have hf := HW.out.frozen j
      have HKJ : Deep (11 - k = j) := ⟨by omega⟩
      have HK4 := Lib.hid hlt
      have HU := Deep.mk hux
      have hu8 := u.toNat_lt
      clear hkj hlt hux
      go_wp2
      have h1 := HW.out.put j (.int .u8 (bits BinOp.xor IntKind.u8 ↑u.toNat ((c : Int) % 256)))
      have g1 := grown_set wr b j (.int .u8 (bits BinOp.xor IntKind.u8 ↑u.toNat ((c : Int) % 256)))
      rw [HBC.out, b_xor, aRow_set] at h1
      refine ⟨⟨k + 1, j - 1, by have := HKJ.out; have := HK4.out; omega, by have := HK4.out; omega, by congr 1; omega, by rw [← HNX.out]; rfl, ?_, Lib.hid (grown_trans HG.out g1)⟩, by simp [intOf]; omega⟩
      rw [nonJ, HKJ.out, ← HC2.out, ← HY.out, ← HU.out, HBC.out, b_xor]
      exact Lib.hid h1
    · have hj : j = 3 := by omega
      have hk8 : k = 8 := by omega
      have hd : decide ((j : Int) ≥ 4) = false := by rw [decide_eq_false_iff_not]; omega
      have hnl := nonK_len HIV.out pn
      have HWN : Hid (Wh wr b 24 (aRow (nonK iv pn))) := by
        have h := HW.out
        rw [hk8] at h
        exact Lib.hid h
      generalize hN : nonK iv pn = N at *
      have HN := Deep.mk hN
      clear hN
      have HNL := Deep.mk hnl
      have HRR : Hid (Wh wr r 24 (aRow (List.replicate 12 0))) := Lib.hid (H3.out.grown HG.out (by intro e; have := Option.some.inj e; omega))
      have HBW := Lib.hid (below_grownA HBE.out HG.out (by omega) HBE.out.size)
      clear HW HG hlt hkj hk hk8 H3 HBE HC2 HY HNX HBC hnl hy8 hcl hp hj
      go_wp2_with (first
        | (refine wpList_load_row rfl 24 (.tmp 2) rfl b rfl _ (aRow N) _ _ HWN.out Tryd.underlying24 rfl (info_n12R HNL.out) ?_)
        | (refine wpList_store_row rfl 24 (.tmp 4) (.tmp 19) rfl r (aRow N) rfl rfl _ _ HRR.out (info_n12R HNL.out) (by rw [aRow_size, aRow_size, HNL.out]; rfl) (aRow_one _) ?_))
      refine bodyPost_ret (v := .agg (aRow N)) (results_cell_row Tryd.results17 _ _ r _ _ (0, 0) _ rfl (setRow_heap wr r _ _ _ _ HRR.out) Tryd.underlying24 rfl (info_n12R HNL.out)) rfl ?_
      exact ⟨by rw [HN.out], below_setRow HBW.out (by omega) _⟩
end

section
open Go.RowKit
set_option linter.unusedVariables false

/-- Two blocks' sum, behind k bytes of it. -/
def addN (l m : List UInt8) : Nat → List UInt8
  | 0 => l
  | k + 1 => (addN l m k).set k ((addN l m k).getD k 0 ^^^ m.getD k 0)
def addL (l m : List UInt8) : List UInt8 := addN l m 16
theorem addN_len (l m : List UInt8) (k : Nat) : (addN l m k).length = l.length := by
  induction k with
  | zero => rfl
  | succ k ih => simp [addN, ih]
theorem addL_len {l m : List UInt8} (h : l.length = 16) : (addL l m).length = 16 := by rw [addL, addN_len, h]

set_option maxRecDepth 100000 in
set_option maxHeartbeats 400000 in
theorem added_any (l m : List UInt8) (w : World) (hl : l.length = 16) (hm : m.length = 16) :
    Calls Tryd.prog 64 #[.agg (aRow l), .agg (aRow m)] w fun e w' => e = .returned (.agg (aRow (addL l m))) ∧ Below w.heap.size w w' := by
  have HL := Deep.mk hl
  have HM := Deep.mk hm
  have hbe : Below w.heap.size w (((w.alloc (.cells (aRow l) 23)).alloc (.cells (aRow m) 23)).alloc (.cells (aRow (List.replicate 16 0)) 23)) := (((Below.refl _ _).alloc (Nat.le_refl _) _).alloc (by simp) _).alloc (by simp; omega) _
  have h2 : Wh (((w.alloc (.cells (aRow l) 23)).alloc (.cells (aRow m) 23)).alloc (.cells (aRow (List.replicate 16 0)) 23)) w.heap.size 23 (aRow l) := ((Wh.new _ _ _).alloc _).alloc _
  have h3 : Wh (((w.alloc (.cells (aRow l) 23)).alloc (.cells (aRow m) 23)).alloc (.cells (aRow (List.replicate 16 0)) 23)) (w.heap.size + 1) 23 (aRow m) := by
    have := (Wh.new (w.alloc (.cells (aRow l) 23)) 23 (aRow m)).alloc (.cells (aRow (List.replicate 16 0)) 23)
    rwa [show (w.alloc (.cells (aRow l) 23)).heap.size = w.heap.size + 1 by simp] at this
  have h4 : Wh (((w.alloc (.cells (aRow l) 23)).alloc (.cells (aRow m) 23)).alloc (.cells (aRow (List.replicate 16 0)) 23)) (w.heap.size + 1 + 1) 23 (aRow (List.replicate 16 0)) := by
    have := Wh.new ((w.alloc (.cells (aRow l) 23)).alloc (.cells (aRow m) 23)) 23 (aRow (List.replicate 16 0))
    rwa [show ((w.alloc (.cells (aRow l) 23)).alloc (.cells (aRow m) 23)).heap.size = w.heap.size + 1 + 1 by simp] at this
  clear hl hm
  go_enter Tryd.func64, Tryd.ntmps64
  go_upto_region 1 with (fail)
  rw [zeros16]
  generalize ((w.alloc (.cells (aRow l) 23)).alloc (.cells (aRow m) 23)).alloc (.cells (aRow (List.replicate 16 0)) 23) = W at *
  obtain ⟨b, hb⟩ : ∃ b, b = w.heap.size := ⟨_, rfl⟩
  obtain ⟨c, hc⟩ : ∃ c, c = w.heap.size + 1 := ⟨_, rfl⟩
  obtain ⟨r, hr⟩ : ∃ r, r = w.heap.size + 1 + 1 := ⟨_, rfl⟩
  rw [← hb] at h2
  rw [← hc] at h3
  rw [← hr] at h4
  rw [← hr, ← hc, ← hb]
  have HB := Lib.hid hb
  have HC := Lib.hid hc
  have HR := Lib.hid hr
  have hbr : b < r := by omega
  have HBE := Lib.hid hbe
  have H2 := Lib.hid h2
  have H3 := Lib.hid h3
  have H4 := Lib.hid h4
  clear hb hc hr hbe h2 h3 h4
  go_wp2_with (refine wpList_load_row rfl 23 (.tmp 3) rfl c rfl _ (aRow m) _ _ H3.out Tryd.underlying23 rfl (info_aRow HM.out) ?_)
  go_loopw [5, 6, 8] (fun _ _ i wr => ∃ k : Nat, k ≤ 16 ∧ i = .int .i64 (k : Int) ∧ Hid (Wh wr b 23 (aRow (addN l m k))) ∧ Hid (W.grownBy wr (some b))) (fun _ _ i _ => 16 - (intOf i).toNat)
  case atStart => exact ⟨0, by omega, rfl, H2, Lib.hid (World.grownBy.refl _ _)⟩
  case round =>
    obtain ⟨k, hk, rfl, HW, HG⟩ := hrel
    have hln : (addN l m k).length = 16 := by rw [addN_len, HL.out]
    by_cases hlt : k < 16
    · have hv := (HW.out.cell k).trans (aRow_at (by omega))
      have hf := HW.out.frozen k
      have hix := idx16 m k wr HM.out hlt
      generalize hx : (addN l m k).getD k 0 = x at *
      generalize hy : m.getD k 0 = y at *
      have HX := Deep.mk hx
      have HY := Deep.mk hy
      have hx8 := x.toNat_lt
      have hy8 := y.toNat_lt
      clear hx hy hln
      go_wp2
      refine ⟨⟨k + 1, by omega, rfl, ?_, ?_⟩, by simp [intOf]; omega⟩
      · have h := HW.out.put k (.int .u8 (bits BinOp.xor IntKind.u8 ↑x.toNat ↑y.toNat))
        rw [b_xor, aRow_set] at h
        rw [addN, HX.out, HY.out, b_xor]
        exact Lib.hid h
      · exact Lib.hid (grown_trans HG.out (grown_set _ _ _ _))
    · have hkd : decide ((k : Int) < 16) = false := by rw [decide_eq_false_iff_not]; omega
      have HW16 : Hid (Wh wr b 23 (aRow (addL l m))) := by
        have h := HW.out
        rw [show k = 16 by omega] at h
        exact Lib.hid h
      have HR16 : Hid (Wh wr r 23 (aRow (List.replicate 16 0))) := Lib.hid (H4.out.grown HG.out (by intro e; have := Option.some.inj e; omega))
      have HBW := Lib.hid (below_grownA HBE.out HG.out (by rw [HB.out]; exact Nat.le_refl _) HBE.out.size)
      have hwr : w.heap.size ≤ r := by rw [HR.out]; omega
      have hal := addL_len (m := m) HL.out
      obtain ⟨z, hz⟩ : ∃ z, z = addL l m := ⟨_, rfl⟩
      rw [← hz] at hal HW16
      have HZ := Deep.mk hz
      clear HW HG hln hlt hk hz
      go_wp2_with (first
        | (refine wpList_load_row rfl 23 (.tmp 2) rfl b rfl _ (aRow z) _ _ HW16.out Tryd.underlying23 rfl (info_aRow hal) ?_)
        | (refine wpList_store_row rfl 23 (.tmp 4) (.tmp 19) rfl r (aRow z) rfl rfl _ _ HR16.out (info_aRow hal) (by rw [aRow_size, aRow_size, hal]; rfl) (aRow_one _) ?_))
      refine bodyPost_ret (v := .agg (aRow z)) (results_cell_row Tryd.results64 _ _ r _ _ (0, 0) _ rfl (setRow_heap wr r _ _ _ _ HR16.out) Tryd.underlying23 rfl (info_aRow hal)) rfl ?_
      exact ⟨by rw [HZ.out], below_setRow HBW.out hwr _⟩
end

section
open Go.RowKit
set_option linter.unusedVariables false

/-- A row moved, behind k columns of it. -/
def mvN (l m : List UInt8) (r : Nat) : Nat → List UInt8
  | 0 => m
  | k + 1 => (mvN l m r k).set (4 * k + r) (sB (l.getD (4 * ((k + r) % 4) + r) 0))
theorem mvN_len (l m : List UInt8) (r k : Nat) : (mvN l m r k).length = m.length := by
  induction k with
  | zero => rfl
  | succ k ih => simp [mvN, ih]
/-- The rows moved, behind r of them. -/
def mvR (l : List UInt8) : Nat → List UInt8
  | 0 => List.replicate 16 0
  | r + 1 => mvN l (mvR l r) r 4
def mvL (l : List UInt8) : List UInt8 := mvR l 4
theorem mvR_len (l : List UInt8) (r : Nat) : (mvR l r).length = 16 := by
  induction r with
  | zero => rfl
  | succ r ih => simp [mvR, mvN_len, ih]

set_option maxRecDepth 100000 in
set_option maxHeartbeats 400000 in
theorem mv1_any (l m : List UInt8) (r b t : Nat) (w : World) (hl : l.length = 16) (hm : m.length = 16) (hr : r < 4) (hb : Wh w b 23 (aRow l)) (ht : Wh w t 23 (aRow m)) (hbt : b ≠ t) :
    Calls Tryd.prog 81 #[.int .i64 (r : Int), .pointer (some ⟨b, 0, none⟩), .pointer (some ⟨t, 0, none⟩)] w fun e w' => e = .returned (.tuple #[]) ∧ Wh w' t 23 (aRow (mvN l m r 4)) ∧ w.grownBy w' (some t) := by
  have HL := Deep.mk hl
  have HM := Deep.mk hm
  have HB := Lib.hid hb
  have HT := Lib.hid ht
  clear hl hm hb ht
  go_enter Tryd.func81, Tryd.ntmps81
  go_wp2
  go_loopw [4, 5, 6] (fun _ _ i wr => ∃ k : Nat, k ≤ 4 ∧ i = .int .i64 (k : Int) ∧ Hid (Wh wr t 23 (aRow (mvN l m r k))) ∧ Hid (w.grownBy wr (some t))) (fun _ _ i _ => 4 - (intOf i).toNat)
  case atStart => exact ⟨0, by omega, rfl, HT, Lib.hid (World.grownBy.refl _ _)⟩
  case round =>
    obtain ⟨k, hk, rfl, HW, HG⟩ := hrel
    have hln : (mvN l m r k).length = 16 := by rw [mvN_len, HM.out]
    by_cases hlt : k < 4
    · obtain ⟨n, hn⟩ : ∃ n, n = (k + r) % 4 := ⟨_, rfl⟩
      have hn4 : n < 4 := by omega
      have hni : ((k : Int) + (r : Int)) % 4 = (n : Int) := by omega
      obtain ⟨i, hi⟩ : ∃ i, i = 4 * n + r := ⟨_, rfl⟩
      obtain ⟨j, hj⟩ : ∃ j, j = 4 * k + r := ⟨_, rfl⟩
      have hii : 4 * (n : Int) + (r : Int) = (i : Int) := by omega
      have hji : 4 * (k : Int) + (r : Int) = (j : Int) := by omega
      have hi16 : i < 16 := by omega
      have hj16 : j < 16 := by omega
      have hv := ((HB.out.grown HG.out (by intro e; exact hbt (Option.some.inj e))).cell i).trans (aRow_at (by rw [HL.out]; omega))
      have hu : ∃ u, wr.cell? ⟨t, j, none⟩ = some (.int .u8 ((u : UInt8).toNat : Int)) := ⟨_, (HW.out.cell j).trans (aRow_at (by omega))⟩
      obtain ⟨u, hu⟩ := hu
      have hf := HW.out.frozen j
      generalize hx : l.getD i 0 = x at *
      have HX := Deep.mk hx
      have HN := Deep.mk hn
      have HI := Deep.mk hi
      have HJ := Deep.mk hj
      clear hx hn hi hj hln
      go_wp2_with (go_at_call 82; refine (sub_any x _).mono ?_; rintro e w1 ⟨rfl, rfl⟩)
      refine ⟨⟨k + 1, by omega, rfl, ?_, ?_⟩, by simp [intOf]; omega⟩
      · have h := HW.out.put j (.int .u8 ((sB x).toNat : Int))
        rw [aRow_set] at h
        rw [mvN, ← HN.out, ← HI.out, HX.out, ← HJ.out]
        exact Lib.hid h
      · exact Lib.hid (grown_trans HG.out (grown_set _ _ _ _))
    · have hkd : decide ((k : Int) < 4) = false := by rw [decide_eq_false_iff_not]; omega
      have HW4 : Hid (Wh wr t 23 (aRow (mvN l m r 4))) := by
        have h := HW.out
        rw [show k = 4 by omega] at h
        exact Lib.hid h
      clear HW hln hlt hk
      go_wp2
      go_end0
      exact ⟨rfl, HW4.out, HG.out⟩

set_option maxRecDepth 100000 in
set_option maxHeartbeats 400000 in
theorem moved_any (l : List UInt8) (w : World) (hl : l.length = 16) :
    Calls Tryd.prog 66 #[.agg (aRow l)] w fun e w' => e = .returned (.agg (aRow (mvL l))) ∧ Below w.heap.size w w' := by
  have HL := Deep.mk hl
  clear hl
  go_enter Tryd.func66, Tryd.ntmps66
  go_upto_region 3 with (fail)
  rw [zeros16]
  obtain ⟨hbe, h2, h3, h4⟩ := made3 w (aRow l) (aRow (List.replicate 16 0)) (aRow (List.replicate 16 0)) 23 23 23
  generalize ((w.alloc (.cells (aRow l) 23)).alloc (.cells (aRow (List.replicate 16 0)) 23)).alloc (.cells (aRow (List.replicate 16 0)) 23) = W at *
  obtain ⟨b, hb⟩ : ∃ b, b = w.heap.size := ⟨_, rfl⟩
  obtain ⟨r, hr⟩ : ∃ c, c = w.heap.size + 1 := ⟨_, rfl⟩
  obtain ⟨t, ht⟩ : ∃ r, r = w.heap.size + 1 + 1 := ⟨_, rfl⟩
  rw [← hb] at h2
  rw [← hr] at h3
  rw [← ht] at h4
  rw [← ht, ← hr, ← hb]
  have HB := Lib.hid hb
  have HR := Lib.hid hr
  have hbt : b < r := by omega
  have hrt : r < t := by omega
  have HBE := Lib.hid hbe
  have H2 := Lib.hid h2
  have H3 := Lib.hid h3
  have H4 := Lib.hid h4
  clear hb hr ht hbe h2 h3 h4
  go_wp2
  go_loopw [5, 7] (fun _ i wr => ∃ k : Nat, k ≤ 4 ∧ i = .int .i64 (k : Int) ∧ Hid (Wh wr t 23 (aRow (mvR l k))) ∧ Hid (W.grownBy wr (some t))) (fun _ i _ => 4 - (intOf i).toNat)
  case atStart => exact ⟨0, by omega, rfl, H4, Lib.hid (World.grownBy.refl _ _)⟩
  case round =>
    obtain ⟨k, hk, rfl, HW, HG⟩ := hrel
    by_cases hlt : k < 4
    · have HBL := Lib.hid (H2.out.grown HG.out (by intro e; have := Option.some.inj e; omega))
      go_wp2_with (go_at_call 81; refine (mv1_any l (mvR l k) k b t _ HL.out (mvR_len l k) hlt HBL.out HW.out (by omega)).mono ?_; rintro e w1 ⟨rfl, hw1, hg1⟩; have HW1 := Lib.hid hw1; have HG1 := Lib.hid (grown_trans HG.out hg1); clear hw1 hg1)
      exact ⟨⟨k + 1, by omega, rfl, HW1, HG1⟩, by simp [intOf]; omega⟩
    · have hkd : decide ((k : Int) < 4) = false := by rw [decide_eq_false_iff_not]; omega
      have HW16 : Hid (Wh wr t 23 (aRow (mvL l))) := by
        have h := HW.out
        rw [show k = 4 by omega] at h
        exact Lib.hid h
      have HR16 : Hid (Wh wr r 23 (aRow (List.replicate 16 0))) := Lib.hid (H3.out.grown HG.out (by intro e; have := Option.some.inj e; omega))
      have HBW := Lib.hid (below_grownA HBE.out HG.out (by rw [← HB.out]; omega) HBE.out.size)
      have hwr : w.heap.size ≤ r := by rw [HR.out]; omega
      have hal : (mvL l).length = 16 := mvR_len l 4
      obtain ⟨z, hz⟩ : ∃ z, z = mvL l := ⟨_, rfl⟩
      rw [← hz] at hal HW16
      have HZ := Deep.mk hz
      clear HW HG hlt hk hz
      go_wp2_with (first
        | (refine wpList_load_row rfl 23 (.tmp 3) rfl t rfl _ (aRow z) _ _ HW16.out Tryd.underlying23 rfl (info_aRow hal) ?_)
        | (refine wpList_store_row rfl 23 (.tmp 2) (.tmp 14) rfl r (aRow z) rfl rfl _ _ HR16.out (info_aRow hal) (by rw [aRow_size, aRow_size, hal]; rfl) (aRow_one _) ?_))
      refine bodyPost_ret (v := .agg (aRow z)) (results_cell_row Tryd.results66 _ _ r _ _ (0, 0) _ rfl (setRow_heap wr r _ _ _ _ HR16.out) Tryd.underlying23 rfl (info_aRow hal)) rfl ?_
      exact ⟨by rw [HZ.out], below_setRow HBW.out hwr _⟩
end
end Go.Proofs.YtbnnjkjmadnjkaaDoor
