/-
  pnum.Expand and the document's own Expand answer one and the same number.
-/
import Derived.Test.YtmffnfamdioaiaaPnExp
import Derived.Test.YtmffnfamdioaiaaPnRexp
namespace Go.Proofs.Ytmffnfamdioaiaa
open Go.RowKit
set_option linter.unusedVariables false

/-- The nearest number to x, where s is the one of its own stretch of W numbers. -/
def expS (x s W : Nat) : Nat :=
  if s ≤ x then (if 4611686018427387903 < s + W ∨ x - s < s + W - x then s else s + W)
  else if W ≤ s then (if x - (s - W) < s - x then s - W else s) else s

/-- The nearest number to m, at most the greatest that there is, whose rest by W is t's. -/
def expN (m t W : Nat) : Nat := expS (min m 4611686018427387903) (min m 4611686018427387903 / W * W + t % W) W

theorem tmod_nat (a b : Nat) : (a : Int).tmod (b : Int) = ((a % b : Nat) : Int) := rfl
theorem tdiv_nat (a b : Nat) : (a : Int).tdiv (b : Int) = ((a / b : Nat) : Int) := rfl
theorem wrap_nat {n : Nat} (h : n < 18446744073709551616) : IntKind.u64.wrap (n : Int) = (n : Int) := by rw [IntKind.wrap_u64]; omega

/-- What there is to know of a number's stretch. -/
theorem stretch (x t W : Nat) (hW : 0 < W) : ∃ q r s, q = x / W * W ∧ r = t % W ∧ s = q + r ∧ r < W ∧ q ≤ x ∧ x < q + W ∧ x % W = x - q ∧ (s < W → q = 0) := by
  have h1 := Nat.div_mul_le_self x W
  have h2 := Nat.lt_div_mul_add (a := x) hW
  have h3 := Nat.mod_lt t hW
  have h4 := Nat.mod_eq_sub_div_mul (x := x) (k := W)
  refine ⟨_, _, _, rfl, rfl, rfl, h3, h1, h2, h4, fun h => ?_⟩
  rcases Nat.eq_zero_or_pos (x / W) with h0 | h0
  · rw [h0, Nat.zero_mul]
  · have := Nat.le_mul_of_pos_left W h0
    omega

theorem pick_3 (x q r s W : Nat) (hs : s = q + r) (hr : r < W) (hq : q ≤ x) (hx : x < q + W) (h0 : s + W ≤ 4611686018427387903) (h2 : W ≤ s) : pick x (pick x (s + W) s) (s - W) = expS x s W := by
  have e0 : farN (s + W) x = s + W - x := by unfold farN; omega
  have e2 : farN (s - W) x = x - (s - W) := by unfold farN; omega
  unfold expS
  by_cases h : s ≤ x
  · have e1 : farN s x = x - s := by unfold farN; omega
    rw [if_pos h]
    by_cases g : x - s < s + W - x
    · rw [if_pos (Or.inr g), pick_yes (a := s + W) (b := s) (by omega), pick_no (by omega)]
    · rw [if_neg (by omega), pick_no (a := s + W) (b := s) (by omega), pick_no (by omega)]
  · have e1 : farN s x = s - x := by unfold farN; omega
    rw [if_neg h, if_pos h2, pick_yes (a := s + W) (b := s) (by omega)]
    by_cases g : x - (s - W) < s - x
    · rw [if_pos g, pick_yes (by omega)]
    · rw [if_neg g, pick_no (by omega)]

theorem pick_ftt (x q r s W : Nat) (hs : s = q + r) (hr : r < W) (hq : q ≤ x) (hx : x < q + W) (h0 : 4611686018427387903 < s + W) (h2 : W ≤ s) : pick x s (s - W) = expS x s W := by
  have e2 : farN (s - W) x = x - (s - W) := by unfold farN; omega
  unfold expS
  by_cases h : s ≤ x
  · have e1 : farN s x = x - s := by unfold farN; omega
    rw [if_pos h, if_pos (Or.inl h0), pick_no (by omega)]
  · have e1 : farN s x = s - x := by unfold farN; omega
    rw [if_neg h, if_pos h2]
    by_cases g : x - (s - W) < s - x
    · rw [if_pos g, pick_yes (by omega)]
    · rw [if_neg g, pick_no (by omega)]

theorem pick_ttf (x q r s W : Nat) (hs : s = q + r) (hr : r < W) (hq : q ≤ x) (hx : x < q + W) (h0 : s + W ≤ 4611686018427387903) (h2 : s < W) : pick x (s + W) s = expS x s W := by
  have e0 : farN (s + W) x = s + W - x := by unfold farN; omega
  unfold expS
  by_cases h : s ≤ x
  · have e1 : farN s x = x - s := by unfold farN; omega
    rw [if_pos h]
    by_cases g : x - s < s + W - x
    · rw [if_pos (Or.inr g), pick_yes (by omega)]
    · rw [if_neg (by omega), pick_no (by omega)]
  · have e1 : farN s x = s - x := by unfold farN; omega
    rw [if_neg h, if_neg (by omega), pick_yes (by omega)]

theorem expand_w (b : Int) (W m t : Nat) (w : World) (hW : 0 < W) (hW2 : W ≤ 4294967296) (hsm : min m 4611686018427387903 / W * W + t % W ≤ 4611686018427387903)
    (hmay : ∀ w, Calls Try.prog 16 #[.int .i64 b] w fun e w' => e = .returned (.bool true) ∧ w = w')
    (htold : ∀ w, Calls Try.prog 14 #[.int .i64 b] w fun e w' => e = .returned (.int .u64 (W : Int)) ∧ w = w') :
    Calls Try.prog 11 #[.int .u64 (m : Int), .int .u64 (t : Int), .int .i64 b] w fun e w' => e = .returned (.int .u64 ((expN m t W : Nat) : Int)) ∧ Below w.heap.size w w' := by
  unfold expN
  obtain ⟨x, hx⟩ : ∃ x, x = min m 4611686018427387903 := ⟨_, rfl⟩
  rw [← hx] at hsm ⊢
  obtain ⟨q, r, s, hq, hr, hs, hrW, hqx, hxq, hxm, hq0⟩ := stretch x t W hW
  rw [← hq, ← hr, ← hs] at hsm ⊢
  have hxmx : x ≤ 4611686018427387903 := by omega
  have hWi : (W : Int) ≠ 0 := by omega
  have ha : (x : Int).tmod (W : Int) = ((x - q : Nat) : Int) := by rw [tmod_nat, hxm]
  have hr' : (t : Int).tmod (W : Int) = (r : Int) := by rw [tmod_nat, hr]
  have hq' : IntKind.u64.wrap ((x : Int) - ((x - q : Nat) : Int)) = (q : Int) := by rw [IntKind.wrap_u64]; omega
  have hs' : IntKind.u64.wrap ((q : Int) + (r : Int)) = (s : Int) := by rw [IntKind.wrap_u64]; omega
  have hc0 : IntKind.u64.wrap ((s : Int) + (W : Int)) = ((s + W : Nat) : Int) := by rw [IntKind.wrap_u64]; omega
  by_cases h2 : W ≤ s
  · have hc2 : IntKind.u64.wrap ((s : Int) - (W : Int)) = ((s - W : Nat) : Int) := by rw [IntKind.wrap_u64]; omega
    by_cases h0 : s + W ≤ 4611686018427387903
    · rw [← pick_3 x q r s W hs hrW hqx hxq h0 h2]
      refine expand_of b m x t 3 ((s + W : Nat) : Int) (s : Int) ((s - W : Nat) : Int) _ w hx hmay (fun w' => ?_) (fun g B F w' h3 hB hF => ?_)
      · exact around_of b W x t _ q r s _ _ 3 _ _ _ w' htold hWi ha hq' hr' hs' hc0 hc2 fun g w2 h3 => del_ttt g _ _ _ w2 h3 (by omega) (by omega) (by omega)
      · exact min_3 (s + W) s (s - W) x g B F w' (by omega) (by omega) (by omega) (by omega) h3.c0 h3.c1 h3.c2 hB hF
    · rw [← pick_ftt x q r s W hs hrW hqx hxq (by omega) h2]
      refine expand_of b m x t 2 (s : Int) ((s - W : Nat) : Int) 0 _ w hx hmay (fun w' => ?_) (fun g B F w' h3 hB hF => ?_)
      · exact around_of b W x t _ q r s _ _ 2 _ _ _ w' htold hWi ha hq' hr' hs' hc0 hc2 fun g w2 h3 => del_ftt g _ _ _ w2 h3 (by omega) (by omega) (by omega)
      · exact min_2 s (s - W) x g B F w' (by omega) (by omega) (by omega) h3.c0 h3.c1 hB hF
  · have hc2 : IntKind.u64.wrap ((s : Int) - (W : Int)) = ((s + 18446744073709551616 - W : Nat) : Int) := by rw [IntKind.wrap_u64]; omega
    rw [← pick_ttf x q r s W hs hrW hqx hxq (by omega) (by omega)]
    refine expand_of b m x t 2 ((s + W : Nat) : Int) (s : Int) 0 _ w hx hmay (fun w' => ?_) (fun g B F w' h3 hB hF => ?_)
    · exact around_of b W x t _ q r s _ _ 2 _ _ _ w' htold hWi ha hq' hr' hs' hc0 hc2 fun g w2 h3 => del_ttf g _ _ _ w2 h3 (by omega) (by omega) (by omega)
    · exact min_2 (s + W) s x g B F w' (by omega) (by omega) (by omega) h3.c0 h3.c1 hB hF

theorem rexpand_w (b W m t : Nat) (w : World) (hb : 1 ≤ b) (hb4 : b ≤ 4) (hW : 0 < W) (hW2 : W ≤ 4294967296) (hsm : min m 4611686018427387903 / W * W + t % W ≤ 4611686018427387903)
    (hwin : ∀ w, Calls Try.prog 15 #[.int .i64 (b : Int)] w fun e w' => e = .returned (.int .u64 (W : Int)) ∧ w = w') :
    Calls Try.prog 12 #[.int .u64 (m : Int), .int .u64 (t : Int), .int .i64 (b : Int)] w fun e w' => e = .returned (.int .u64 ((expN m t W : Nat) : Int)) ∧ w = w' := by
  unfold expN
  obtain ⟨x, hx⟩ : ∃ x, x = min m 4611686018427387903 := ⟨_, rfl⟩
  rw [← hx] at hsm ⊢
  obtain ⟨q, r, s, hq, hr, hs, hrW, hqx, hxq, hxm, hq0⟩ := stretch x t W hW
  rw [← hq, ← hr, ← hs] at hsm ⊢
  have hxmx : x ≤ 4611686018427387903 := by omega
  have hb' : (1 : Int) ≤ (b : Int) := by omega
  have hb4' : (b : Int) ≤ 4 := by omega
  have hWi : (W : Int) ≠ 0 := by omega
  have hr' : (t : Int).tmod (W : Int) = (r : Int) := by rw [tmod_nat, hr]
  have hle : x / W ≤ x := Nat.div_le_self x W
  have hq1 : IntKind.u64.wrap ((x : Int).tdiv (W : Int)) = ((x / W : Nat) : Int) := by rw [tdiv_nat]; exact wrap_nat (by omega)
  have hq2 : IntKind.u64.wrap (((x / W : Nat) : Int) * (W : Int)) = (q : Int) := by rw [← Int.natCast_mul, ← hq]; exact wrap_nat (by omega)
  have hs' : IntKind.u64.wrap ((q : Int) + (r : Int)) = (s : Int) := by rw [IntKind.wrap_u64]; omega
  have hc0 : IntKind.u64.wrap ((s : Int) + (W : Int)) = ((s + W : Nat) : Int) := by rw [IntKind.wrap_u64]; omega
  rcases Nat.lt_or_ge 4611686018427387903 m with hm | hm
  · obtain rfl : x = 4611686018427387903 := by omega
    by_cases h : s ≤ 4611686018427387903
    · by_cases h1 : 4611686018427387903 < s + W
      · rw [expS, if_pos h, if_pos (Or.inl h1)]
        exact rexp_kA1 (b : Int) (W : Int) (m : Int) (t : Int) ((4611686018427387903 / W : Nat) : Int) (q : Int) (r : Int) (s : Int) w hb' hb4' hWi (by omega) hwin hr' hq1 hq2 hs' (by omega) _ hc0 (by omega)
      · have hd1 : IntKind.u64.wrap ((4611686018427387903 : Int) - (s : Int)) = ((4611686018427387903 - s : Nat) : Int) := by rw [IntKind.wrap_u64]; omega
        have hd2 : IntKind.u64.wrap (((s + W : Nat) : Int) - (4611686018427387903 : Int)) = ((s + W - 4611686018427387903 : Nat) : Int) := by rw [IntKind.wrap_u64]; omega
        by_cases h2 : 4611686018427387903 - s < s + W - 4611686018427387903
        · rw [expS, if_pos h, if_pos (Or.inr h2)]
          exact rexp_kA2 (b : Int) (W : Int) (m : Int) (t : Int) ((4611686018427387903 / W : Nat) : Int) (q : Int) (r : Int) (s : Int) w hb' hb4' hWi (by omega) hwin hr' hq1 hq2 hs' (by omega) _ _ _ hc0 (by omega) hd1 hd2 (by omega)
        · rw [expS, if_pos h, if_neg (by omega)]
          exact rexp_kA3 (b : Int) (W : Int) (m : Int) (t : Int) ((4611686018427387903 / W : Nat) : Int) (q : Int) (r : Int) (s : Int) w hb' hb4' hWi (by omega) hwin hr' hq1 hq2 hs' (by omega) _ _ _ hc0 (by omega) hd1 hd2 (by omega)
    · by_cases h0 : s < W
      · have h00 := hq0 h0
        rw [expS, if_neg h, if_neg (by omega), show s = r by omega]
        exact rexp_kB0 (b : Int) (W : Int) (m : Int) (t : Int) ((4611686018427387903 / W : Nat) : Int) (q : Int) (r : Int) (s : Int) w hb' hb4' hWi (by omega) hwin hr' hq1 hq2 hs' (by omega) (by omega)
      · have hlo : IntKind.u64.wrap ((s : Int) - (W : Int)) = ((s - W : Nat) : Int) := by rw [IntKind.wrap_u64]; omega
        have hhi : IntKind.u64.wrap (((s - W : Nat) : Int) + (W : Int)) = (s : Int) := by rw [IntKind.wrap_u64]; omega
        have hd1 : IntKind.u64.wrap ((4611686018427387903 : Int) - ((s - W : Nat) : Int)) = ((4611686018427387903 - (s - W) : Nat) : Int) := by rw [IntKind.wrap_u64]; omega
        have hd2 : IntKind.u64.wrap ((s : Int) - (4611686018427387903 : Int)) = ((s - 4611686018427387903 : Nat) : Int) := by rw [IntKind.wrap_u64]; omega
        by_cases h2 : 4611686018427387903 - (s - W) < s - 4611686018427387903
        · rw [expS, if_neg h, if_pos (by omega), if_pos h2]
          exact rexp_kB1 (b : Int) (W : Int) (m : Int) (t : Int) ((4611686018427387903 / W : Nat) : Int) (q : Int) (r : Int) (s : Int) w hb' hb4' hWi (by omega) hwin hr' hq1 hq2 hs' (by omega) (by omega) _ _ _ _ hlo hhi (by omega) hd1 hd2 (by omega)
        · rw [expS, if_neg h, if_pos (by omega), if_neg h2]
          exact rexp_kB2 (b : Int) (W : Int) (m : Int) (t : Int) ((4611686018427387903 / W : Nat) : Int) (q : Int) (r : Int) (s : Int) w hb' hb4' hWi (by omega) hwin hr' hq1 hq2 hs' (by omega) (by omega) _ _ _ _ hlo hhi (by omega) hd1 hd2 (by omega)
  · obtain rfl : m = x := by omega
    by_cases h : s ≤ m
    · by_cases h1 : 4611686018427387903 < s + W
      · rw [expS, if_pos h, if_pos (Or.inl h1)]
        exact rexp_mA1 (b : Int) (W : Int) (m : Int) (t : Int) ((m / W : Nat) : Int) (q : Int) (r : Int) (s : Int) w hb' hb4' hWi (by omega) hwin hr' hq1 hq2 hs' (by omega) _ hc0 (by omega)
      · have hd1 : IntKind.u64.wrap ((m : Int) - (s : Int)) = ((m - s : Nat) : Int) := by rw [IntKind.wrap_u64]; omega
        have hd2 : IntKind.u64.wrap (((s + W : Nat) : Int) - (m : Int)) = ((s + W - m : Nat) : Int) := by rw [IntKind.wrap_u64]; omega
        by_cases h2 : m - s < s + W - m
        · rw [expS, if_pos h, if_pos (Or.inr h2)]
          exact rexp_mA2 (b : Int) (W : Int) (m : Int) (t : Int) ((m / W : Nat) : Int) (q : Int) (r : Int) (s : Int) w hb' hb4' hWi (by omega) hwin hr' hq1 hq2 hs' (by omega) _ _ _ hc0 (by omega) hd1 hd2 (by omega)
        · rw [expS, if_pos h, if_neg (by omega)]
          exact rexp_mA3 (b : Int) (W : Int) (m : Int) (t : Int) ((m / W : Nat) : Int) (q : Int) (r : Int) (s : Int) w hb' hb4' hWi (by omega) hwin hr' hq1 hq2 hs' (by omega) _ _ _ hc0 (by omega) hd1 hd2 (by omega)
    · by_cases h0 : s < W
      · have h00 := hq0 h0
        rw [expS, if_neg h, if_neg (by omega), show s = r by omega]
        exact rexp_mB0 (b : Int) (W : Int) (m : Int) (t : Int) ((m / W : Nat) : Int) (q : Int) (r : Int) (s : Int) w hb' hb4' hWi (by omega) hwin hr' hq1 hq2 hs' (by omega) (by omega)
      · have hlo : IntKind.u64.wrap ((s : Int) - (W : Int)) = ((s - W : Nat) : Int) := by rw [IntKind.wrap_u64]; omega
        have hhi : IntKind.u64.wrap (((s - W : Nat) : Int) + (W : Int)) = (s : Int) := by rw [IntKind.wrap_u64]; omega
        have hd1 : IntKind.u64.wrap ((m : Int) - ((s - W : Nat) : Int)) = ((m - (s - W) : Nat) : Int) := by rw [IntKind.wrap_u64]; omega
        have hd2 : IntKind.u64.wrap ((s : Int) - (m : Int)) = ((s - m : Nat) : Int) := by rw [IntKind.wrap_u64]; omega
        by_cases h2 : m - (s - W) < s - m
        · rw [expS, if_neg h, if_pos (by omega), if_pos h2]
          exact rexp_mB1 (b : Int) (W : Int) (m : Int) (t : Int) ((m / W : Nat) : Int) (q : Int) (r : Int) (s : Int) w hb' hb4' hWi (by omega) hwin hr' hq1 hq2 hs' (by omega) (by omega) _ _ _ _ hlo hhi (by omega) hd1 hd2 (by omega)
        · rw [expS, if_neg h, if_pos (by omega), if_neg h2]
          exact rexp_mB2 (b : Int) (W : Int) (m : Int) (t : Int) ((m / W : Nat) : Int) (q : Int) (r : Int) (s : Int) w hb' hb4' hWi (by omega) hwin hr' hq1 hq2 hs' (by omega) (by omega) _ _ _ _ hlo hhi (by omega) hd1 hd2 (by omega)
end Go.Proofs.Ytmffnfamdioaiaa
