/-
  The walk through hostlerlaw13.RttSteady.
-/
import Derived.Test.YtoahannfpnkpkaaRtWorks
namespace Go.Proofs.Ytoahannfpnkpkaa
open Go.RowKit
set_option linter.unusedVariables false

/-- Var behind k more equal samples. -/
def vS (n : Nat) : Nat → Nat
  | 0 => n / 2
  | k + 1 => 3 * vS n k / 4
/-- The way behind k equal samples. -/
def stS (n : Nat) : Nat → RS
  | 0 => RS.new
  | k + 1 => ⟨true, n, n, n, vS n k⟩

theorem vS_mono {a b : Nat} (h : a ≤ b) (k : Nat) : vS a k ≤ vS b k := by
  induction k with
  | zero => unfold vS; omega
  | succ k ih => unfold vS; omega
theorem vS_end {n : Nat} (h : n ≤ 1099511627776) : vS n 199 = 0 := by
  have h1 := vS_mono h 199
  have h2 : vS 1099511627776 199 = 0 := by decide +kernel
  omega
theorem vS_le (n k : Nat) : vS n k ≤ n := by
  induction k with
  | zero => unfold vS; omega
  | succ k ih => unfold vS; omega
theorem stS_step {n : Nat} (h : n ≤ 1099511627776) (k : Nat) : sampS (stS n k) n 0 = stS n (k + 1) := by
  have h1 : min n mT = n := by unfold mT; omega
  cases k with
  | zero =>
    unfold sampS stS RS.new
    rw [h1]
    rfl
  | succ k =>
    unfold sampS stS
    rw [h1]
    simp only [if_true, Nat.min_self]
    have h2 : adjN n n (min 0 mT) = n := by unfold adjN; split <;> omega
    rw [h2]
    have h3 : meanN n n 8 = n := by unfold meanN; omega
    have h4 : meanN (vS n k) (apartN n n) 4 = vS n (k + 1) := by
      unfold meanN apartN
      show _ = 3 * vS n k / 4
      omega
    rw [h3, h4]
theorem stS_fits {n : Nat} (h : n ≤ 1099511627776) (k : Nat) : (stS n k).Fits := by
  cases k with
  | zero => exact rnew_fits
  | succ k =>
    have := vS_le n k
    exact ⟨by show n ≤ _; omega, by show n ≤ _; omega, by show n ≤ _; omega, by show vS n k ≤ _; omega⟩
theorem st_pto {n : Nat} (h : n ≤ 1099511627776) : ptoN (stS n 200) 0 0 = min (n + 1000) mT := by
  unfold ptoN
  rw [dbl_min]
  have h1 : sumN (stS n 200) 0 = n + 1000 := by
    show sumN ⟨true, n, n, n, vS n 199⟩ 0 = _
    rw [vS_end h]
    unfold sumN mT
    simp only [if_true]
    omega
  rw [h1]
  simp

theorem lit_steady {w : World} {g n k : Nat} (h : RAt w g (stS n k)) (hn : n ≤ 1099511627776) :
    Calls Try.prog 6 #[.pointer (some ⟨g, 0, none⟩), .int .u64 (n : Int), .int .u64 0] w (RGave g (stS n (k + 1)) w) := by
  rw [← stS_step hn k]
  exact samp_any w g n 0 _ h (stS_fits hn k) (by omega) (by omega)

set_option maxRecDepth 10000 in
set_option maxHeartbeats 2000000 in
theorem steady_any (w : World) (N : Nat) (hN : N ≤ 18446744073709551615) : Calls Try.prog 5 #[.int .u64 (N : Int)] w (SaysR w) := by
  have hn := rnew_at w
  have hb0 := (Below.refl w.heap.size w).alloc (Nat.le_refl _) (.cells #[.bool false, .int .u64 0, .int .u64 0, .int .u64 0, .int .u64 0] 28)
  obtain ⟨g, hg⟩ : ∃ g, g = w.heap.size := ⟨_, rfl⟩
  have HG := Lib.hid hg
  have HN := Lib.hid hn
  have HB0 := Lib.hid hb0
  obtain ⟨n, hx⟩ : ∃ n : Nat, n = N % mT := ⟨_, rfl⟩
  have HX : Hid ((N : Int) % 1099511627776 = (n : Int)) := Lib.hid (by unfold mT at hx; omega)
  have HL : Hid (n ≤ 1099511627776) := Lib.hid (by unfold mT at hx; omega)
  clear hn hb0 hx
  go_enter Try.func5, Try.ntmps5
  go_upto_region 3 with (fail)
  rw [HX.out]
  generalize w.alloc (.cells #[.bool false, .int .u64 0, .int .u64 0, .int .u64 0, .int .u64 0] 28) = w0 at *
  rw [← hg] at HN
  rw [← hg]
  clear hg HX
  go_wp2
  go_loopw [9] (fun s9 wr => ∃ k : Nat, k ≤ 200 ∧ s9 = .int .i64 (k : Int) ∧ Hid (RAt wr g (stS n k)) ∧ Hid (Below w.heap.size w wr)) (fun s9 _ => 200 - (intOf s9).toNat)
  case atStart => exact ⟨0, Nat.zero_le _, rfl, HN, HB0⟩
  case round =>
    obtain ⟨k, hk, rfl, HR, HB⟩ := hrel
    by_cases hlt : k < 200
    · have d0 : decide ((k : Int) < 200) = true := decide_eq_true (by omega)
      have c4 := HR.out.c4
      go_upto_region 6 with (fail)
      have HS := Lib.hid (lit_steady HR.out HL.out)
      clear c4 HN HB0
      go_wp2_with fail
      refine HS.out.mono ?_
      rintro e w1 ⟨rfl, hg1, h1⟩
      have c0 : w1.cell? ⟨g, 0, none⟩ = some (.bool true) := h1.c0
      have c2 : w1.cell? ⟨g, 2, none⟩ = some (.int .u64 (n : Int)) := h1.c2
      have c3 : w1.cell? ⟨g, 3, none⟩ = some (.int .u64 (n : Int)) := h1.c3
      have c4 : w1.cell? ⟨g, 4, none⟩ = some (.int .u64 (vS n k : Int)) := h1.c4
      have H1 := Lib.hid h1
      have HB1 : Hid (Below w.heap.size w w1) := Lib.hid (below_grownR HB.out hg1 (by have := HG.out; omega) HB.out.size)
      clear h1 hg1 HS HR HB
      have hor : (stS n k).va = 0 ∨ (0 < (stS n k).va ∧ vS n k ≤ (stS n k).va) := by
        cases k with
        | zero => exact .inl rfl
        | succ k =>
          show vS n k = 0 ∨ (0 < vS n k ∧ 3 * vS n k / 4 ≤ vS n k)
          omega
      generalize (stS n k).va = v at *
      generalize vS n k = u at *
      have hne : ((n : Int) != (n : Int)) = false := by simp
      rcases hor with h0 | ⟨hp, hle⟩
      · have d1 : ¬ 0 < v := by omega
        clear h0
        go_wp2
        go_roundw
        case rel => exact ⟨k + 1, by omega, by go_num, H1, HB1⟩
        case measure => simp [intOf]; omega
      · have d2 : ¬ v < u := by omega
        clear hle
        go_wp2
        go_roundw
        case rel => exact ⟨k + 1, by omega, by go_num, H1, HB1⟩
        case measure => simp [intOf]; omega
    · obtain rfl : k = 200 := by omega
      have d0 : decide (((200 : Nat) : Int) < 200) = false := by decide
      have c4 : wr.cell? ⟨g, 4, none⟩ = some (.int .u64 0) := by
        have := HR.out.c4
        rwa [show (stS n 200).va = 0 from vS_end HL.out] at this
      have hp := pto_any wr g 0 0 _ HR.out (by omega)
      rw [st_pto HL.out] at hp
      have hw : IntKind.u64.wrap ((n : Int) + 1000) = (n : Int) + 1000 := by rw [IntKind.wrap_u64]; have := HL.out; omega
      by_cases hb : (1099511627776 : Int) < (n : Int) + 1000
      · have HP : Hid (Calls Try.prog 8 #[.pointer (some ⟨g, 0, none⟩), .int .u64 0, .int .u64 0] wr fun e w' => e = .returned (.int .u64 1099511627776) ∧ Below wr.heap.size wr w') :=
          Lib.hid (by rw [show ((1099511627776 : Int)) = ((min (n + 1000) mT : Nat) : Int) by unfold mT; omega]; exact hp)
        clear hp
        go_wp2_with fail
        refine HP.out.mono ?_
        rintro e w1 ⟨rfl, hb1⟩
        have HB1 := Lib.hid (HB.out.trans (hb1.mono HB.out.size))
        clear hb1 c4 HR HB
        go_wp2_with fail
        refine (rworks_any w1).mono ?_
        rintro e w2 ⟨rfl, hb2⟩
        have HB2 := Lib.hid (HB1.out.trans (hb2.mono HB1.out.size))
        clear hb2 HB1
        go_wp2
        go_ret
        exact ⟨rfl, HB2.out⟩
      · have HP : Hid (Calls Try.prog 8 #[.pointer (some ⟨g, 0, none⟩), .int .u64 0, .int .u64 0] wr fun e w' => e = .returned (.int .u64 ((n : Int) + 1000)) ∧ Below wr.heap.size wr w') :=
          Lib.hid (by rw [show ((n : Int) + 1000) = ((min (n + 1000) mT : Nat) : Int) by unfold mT; omega]; exact hp)
        clear hp
        go_wp2_with fail
        refine HP.out.mono ?_
        rintro e w1 ⟨rfl, hb1⟩
        have HB1 := Lib.hid (HB.out.trans (hb1.mono HB.out.size))
        clear hb1 c4 HR HB
        go_wp2_with fail
        refine (rworks_any w1).mono ?_
        rintro e w2 ⟨rfl, hb2⟩
        have HB2 := Lib.hid (HB1.out.trans (hb2.mono HB1.out.size))
        clear hb2 HB1
        go_wp2
        go_ret
        exact ⟨rfl, HB2.out⟩

end Go.Proofs.Ytoahannfpnkpkaa
