/-
  The walk through hostlerlaw13.RttBounds.
-/
import Derived.Test.YtoahannfpnkpkaaRtSms
namespace Go.Proofs.Ytoahannfpnkpkaa
open Go.RowKit
set_option linter.unusedVariables false

set_option maxRecDepth 10000 in
set_option maxHeartbeats 2000000 in
theorem bounds_any (A : Option Addr) (N c0 D T : Nat) (l : List SC) (w : World) (hl : l.length = N) (hr : Sms w w.heap.size A l) (hnc : N ≤ c0) (hcm : c0 ≤ maxLen) (hD : D ≤ 18446744073709551615) (hT : T ≤ 18446744073709551615) :
    Calls Try.prog 4 #[.slice A N c0, .int .u64 (D : Int), .int .u64 (T : Int)] w (SaysR w) := by
  by_cases h300 : 300 < N
  · have d0 : decide ((N : Int) > 300) = true := decide_eq_true (by omega)
    clear hl hr hnc hcm h300
    go_enter Try.func4, Try.ntmps4
    go_wp2_with fail
    refine (rworks_any w).mono ?_
    rintro e w1 ⟨rfl, hb1⟩
    go_wp2
    go_ret
    exact ⟨rfl, hb1⟩
  have d0 : decide ((N : Int) > 300) = false := decide_eq_false (by omega)
  have hn := rnew_at w
  have hb0 := (Below.refl w.heap.size w).alloc (Nat.le_refl _) (.cells #[.bool false, .int .u64 0, .int .u64 0, .int .u64 0, .int .u64 0] 28)
  obtain ⟨g, hg⟩ : ∃ g, g = w.heap.size := ⟨_, rfl⟩
  have HG := Lib.hid hg
  have HN := Lib.hid hn
  have HB0 := Lib.hid hb0
  have HL := Lib.hid hl
  have HR := Lib.hid hr
  have HD := Lib.hid hD
  have hN : N ≤ 300 := by omega
  clear hn hb0 hl hr hnc hcm h300 hD
  go_enter Try.func4, Try.ntmps4
  go_upto_region 5 with (fail)
  generalize w.alloc (.cells #[.bool false, .int .u64 0, .int .u64 0, .int .u64 0, .int .u64 0] 28) = w0 at *
  rw [← hg] at HN
  rw [← hg]
  clear hg d0
  go_wp2
  go_loopw [8, 9, 23] (fun s8 s9 s23 wr => ∃ (k L M : Nat) (s : RS), k ≤ N ∧ s8 = .int .u64 (L : Int) ∧ s9 = .int .u64 (M : Int) ∧ s23 = .int .i64 (k : Int) ∧ Hid (RAt wr g s) ∧ Hid (BoundS s L M) ∧ Hid (Below w.heap.size w wr)) (fun _ _ s23 _ => N - (intOf s23).toNat)
  case atStart => exact ⟨0, mT, 0, RS.new, Nat.zero_le _, rfl, rfl, rfl, HN, Lib.hid (.inl ⟨rfl, rfl, rfl⟩), HB0⟩
  case round =>
    obtain ⟨k, L, M, s, hk, rfl, rfl, rfl, HS, HBS, HB⟩ := hrel
    clear HN HB0
    by_cases hlt : k < N
    · obtain ⟨d, hd⟩ : ∃ d, l[k]? = some d := ⟨_, List.getElem?_eq_getElem (by rw [HL.out]; exact hlt)⟩
      obtain ⟨b, off, rfl, hbl, hcc⟩ := (HR.out.below HB.out).at_ (by rw [HL.out]; omega)
      have HC := Lib.hid (hcc k d hd)
      have HQ := Lib.hid (HR.out.2 d (List.mem_of_getElem? hd))
      have d0 : decide (k < N) = true := decide_eq_true hlt
      clear hcc hd
      go_upto_region 8 with (first
        | (refine wpList_load_mid rfl 34 (.tmp 25) rfl b (off + k * 2) rfl (sCells d) _ HC.out Try.underlying34 rfl info_smp ?_)
        | (refine wpList_store_row rfl 34 (.tmp 11) (.tmp 26) rfl wr.heap.size (sCells d).toArray rfl rfl _ _ (heap_alloc_new wr _) info_smp rfl (sCells_one d) ?_; rw [World.setRow_alloc_new]))
      have hW := Wh.new wr 34 (sCells d).toArray
      have hb1 := (Below.refl wr.heap.size wr).alloc (Nat.le_refl _) (.cells (sCells d).toArray 34)
      have hS1 := HS.out.below hb1
      have HB1 := Lib.hid (HB.out.trans (hb1.mono HB.out.size))
      have hqg : wr.heap.size ≠ g := by have := HS.out.lt; omega
      generalize wr.alloc (.cells (sCells d).toArray 34) = w1 at *
      generalize wr.heap.size = q at *
      have hc0 : w1.cell? ⟨q, 0, none⟩ = some (.int .u64 (d.la : Int)) := (hW.cell 0).trans rfl
      have hc1 : w1.cell? ⟨q, 1, none⟩ = some (.int .u64 (d.de : Int)) := (hW.cell 1).trans rfl
      have HW := Lib.hid hW
      have HSA := Lib.hid (samp_any w1 g d.la d.de s hS1 HBS.out.fits HQ.out.1 HQ.out.2)
      have HBS2 := Lib.hid (HBS.out.step d.la d.de)
      have HTT := Lib.hid HBS.out.tops
      clear hW hb1 hS1 HC HS HB HBS
      generalize sampS s d.la d.de = s2 at *
      go_wp2_with fail
      refine HSA.out.mono ?_
      rintro e w2 ⟨rfl, hg2, hS2⟩
      have HB2 : Hid (Below w.heap.size w w2) := Lib.hid (below_grownR HB1.out hg2 (by have := HG.out; omega) HB1.out.size)
      have hc2 : w2.cell? ⟨q, 0, none⟩ = some (.int .u64 (d.la : Int)) := ((HW.out.grown hg2 (fun e => hqg (Option.some.inj e))).cell 0).trans rfl
      have HS2 := Lib.hid hS2
      clear hS2 hg2 HB1 hc0 hc1 HSA HW hqg
      obtain ⟨n, hn⟩ : ∃ n : Nat, n = min d.la mT := ⟨_, rfl⟩
      obtain ⟨L', hL'⟩ : ∃ L' : Nat, L' = min L n := ⟨_, rfl⟩
      obtain ⟨M', hM'⟩ : ∃ M' : Nat, M' = max M n := ⟨_, rfl⟩
      rw [← hn, ← hL', ← hM'] at HBS2
      have HX : Hid ((if (1099511627776 : Int) < (d.la : Int) then (1099511627776 : Int) else (d.la : Int)) = (n : Int)) := Lib.hid (by unfold mT at hn; split <;> omega)
      have HY : Hid ((if (n : Int) < (L : Int) then (n : Int) else (L : Int)) = (L' : Int)) := Lib.hid (by split <;> omega)
      have HZ : Hid ((if (M : Int) < (n : Int) then (n : Int) else (M : Int)) = (M' : Int)) := Lib.hid (by split <;> omega)
      clear hn hL' hM'
      go_upto_region 11 with (fail)
      rw [HX.out, HY.out, HZ.out]
      have HF : Hid (s2.mn = L' ∧ s2.la = n ∧ s2.sm ≤ M' ∧ L' ≤ s2.sm + 7 ∧ s2.va ≤ M' ∧ M' ≤ 1099511627776) := Lib.hid (by
        obtain ⟨hb, h2, h3⟩ := HBS2.out
        rcases hb with ⟨rfl, _, _⟩ | ⟨_, k1, k2, k3, k4, k5, k6, k7⟩
        · cases h3
        · unfold mT at k7
          exact ⟨k1, h2, k2, k3, k4, k7⟩)
      have c1 : w2.cell? ⟨g, 1, none⟩ = some (.int .u64 (n : Int)) := by have := HS2.out.c1; rwa [HF.out.2.1] at this
      have c2 : w2.cell? ⟨g, 2, none⟩ = some (.int .u64 (L' : Int)) := by have := HS2.out.c2; rwa [HF.out.1] at this
      have c3 := HS2.out.c3
      have c4 := HS2.out.c4
      have n1 : ¬ M' < s2.sm := by have := HF.out; omega
      have n2 : ¬ ((s2.sm : Int) + 8 < (L' : Int)) := by have := HF.out; omega
      have n3 : ¬ M' < s2.va := by have := HF.out; omega
      have e8 : IntKind.u64.wrap ((s2.sm : Int) + 8) = (s2.sm : Int) + 8 := by rw [IntKind.wrap_u64]; have := HF.out; omega
      have HB3 : Hid (BoundS s2 L' M') := Lib.hid HBS2.out.1
      clear HX HY HZ HF HBS2 HTT hc2
      go_wp2
      go_roundw
      case rel => exact ⟨k + 1, L', M', s2, by omega, rfl, rfl, by go_num, HS2, HB3, HB2⟩
      case measure => simp [intOf]; omega
    · obtain rfl : k = N := by omega
      have d0 : decide (k < k) = false := decide_eq_false (by omega)
      obtain ⟨j, hj⟩ : ∃ j : Nat, j = T % 60 := ⟨_, rfl⟩
      have HJ : Hid ((T : Int) % 60 = (j : Int)) := Lib.hid (by omega)
      have hj60 : j < 60 := by omega
      clear hj
      go_upto_region 15 with (fail)
      rw [HJ.out]
      clear HJ d0
      have HP1 := Lib.hid (pto_any wr g D j s HS.out HD.out)
      have HP2 := Lib.hid (fun w1 (hb : Below wr.heap.size wr w1) => pto_any w1 g D (j + 1) s (HS.out.below hb) HD.out)
      have HR1 := Lib.hid (dbl_rise (sumN s D) j)
      have HR2 := Lib.hid (dbl_le (sumN s D) (j + 1))
      have HR3 := Lib.hid (dbl_least (sum_least s D) (by decide) j)
      have HR4 := Lib.hid (dbl_le (sumN s D) j)
      change Hid (ptoN s D j ≤ ptoN s D (j + 1) ∧ ptoN s D (j + 1) ≤ 2 * ptoN s D j) at HR1
      change Hid (ptoN s D (j + 1) ≤ mT) at HR2
      change Hid (1000 ≤ ptoN s D j) at HR3
      change Hid (ptoN s D j ≤ mT) at HR4
      generalize ptoN s D j = x at *
      generalize ptoN s D (j + 1) = y at *
      go_wp2_with fail
      refine HP1.out.mono ?_
      rintro e w1 ⟨rfl, hb1⟩
      have HQ2 : Hid (Calls Try.prog 8 #[.pointer (some ⟨g, 0, none⟩), .int .u64 (D : Int), .int .u64 ((j : Int) + 1)] w1 fun e w' => e = .returned (.int .u64 (y : Int)) ∧ Below w1.heap.size w1 w') := Lib.hid (by
        have := HP2.out w1 hb1
        rwa [show ((j + 1 : Nat) : Int) = (j : Int) + 1 by omega] at this)
      have HB1 := Lib.hid (HB.out.trans (hb1.mono HB.out.size))
      clear hb1 HP1 HP2
      go_wp2_with fail
      refine HQ2.out.mono ?_
      rintro e w2 ⟨rfl, hb2⟩
      have HB2 := Lib.hid (HB1.out.trans (hb2.mono HB1.out.size))
      have n1 : x ≤ y := HR1.out.1
      have n2 : (y : Int) ≤ 1099511627776 := by have := HR2.out; unfold mT at this; omega
      have n3 : (y : Int) ≤ 2 * (x : Int) := by have := HR1.out.2; omega
      have n4 : 1000 ≤ (x : Int) := by have := HR3.out; omega
      have e2 : IntKind.u64.wrap (2 * (x : Int)) = 2 * (x : Int) := by rw [IntKind.wrap_u64]; have := HR4.out; unfold mT at this; omega
      clear hb2 HB1 HQ2 HR1 HR2 HR3 HR4
      go_wp2_with fail
      refine (rworks_any w2).mono ?_
      rintro e w3 ⟨rfl, hb3⟩
      have HB3 := Lib.hid (HB2.out.trans (hb3.mono HB2.out.size))
      clear hb3 HB2
      go_wp2
      go_ret
      exact ⟨rfl, HB3.out⟩

end Go.Proofs.Ytoahannfpnkpkaa
