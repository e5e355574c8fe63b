/-
  The walk through the law PnumBack.
-/
import Derived.Test.YtmffnfamdioaiaaPnKnown
namespace Go.Proofs.Ytmffnfamdioaiaa
open Go.RowKit
set_option linter.unusedVariables false

set_option maxRecDepth 10000 in
set_option maxHeartbeats 800000 in
theorem back_i1 (a k x : Int) (w : World) (h1 : 4611686018427387903 < a) :
    Calls Try.prog 4 #[.int .u64 a, .int .u64 k, .int .u64 x] w fun e w' => e = .returned (.bool true) ∧ Below w.heap.size w w' := by
  go_enter Try.func4, Try.ntmps4
  go_wp2_with fail
  refine (known_any _).mono ?_
  rintro e w1 ⟨rfl, hb1⟩
  have HB1 := Lib.hid hb1
  clear hb1
  go_wp2
  go_ret
  exact ⟨rfl, HB1.out⟩

set_option maxRecDepth 10000 in
set_option maxHeartbeats 800000 in
theorem back_i2 (a k x : Int) (w : World) (h1 : a ≤ 4611686018427387903) (h2 : k = 0) :
    Calls Try.prog 4 #[.int .u64 a, .int .u64 k, .int .u64 x] w fun e w' => e = .returned (.bool true) ∧ Below w.heap.size w w' := by
  go_enter Try.func4, Try.ntmps4
  go_wp2_with fail
  refine (known_any _).mono ?_
  rintro e w1 ⟨rfl, hb1⟩
  have HB1 := Lib.hid hb1
  clear hb1
  go_wp2
  go_ret
  exact ⟨rfl, HB1.out⟩

set_option maxRecDepth 10000 in
set_option maxHeartbeats 800000 in
theorem back_i3 (a k x : Int) (w : World) (h1 : a ≤ 4611686018427387903) (h2 : 0 < k) (h3 : 2147483647 < k) :
    Calls Try.prog 4 #[.int .u64 a, .int .u64 k, .int .u64 x] w fun e w' => e = .returned (.bool true) ∧ Below w.heap.size w w' := by
  go_enter Try.func4, Try.ntmps4
  go_wp2_with fail
  refine (known_any _).mono ?_
  rintro e w1 ⟨rfl, hb1⟩
  have HB1 := Lib.hid hb1
  clear hb1
  go_wp2
  go_ret
  exact ⟨rfl, HB1.out⟩

set_option maxRecDepth 10000 in
set_option maxHeartbeats 800000 in
theorem back_i4 (a k x : Int) (w : World) (h1 : a ≤ 4611686018427387903) (h2 : 0 < k) (h3 : k ≤ 2147483647) (d : Int) (hd : IntKind.u64.wrap (4611686018427387903 - a) = d) (h4 : d < k) :
    Calls Try.prog 4 #[.int .u64 a, .int .u64 k, .int .u64 x] w fun e w' => e = .returned (.bool true) ∧ Below w.heap.size w w' := by
  go_enter Try.func4, Try.ntmps4
  go_wp2_with fail
  refine (known_any _).mono ?_
  rintro e w1 ⟨rfl, hb1⟩
  have HB1 := Lib.hid hb1
  clear hb1
  go_wp2
  go_ret
  exact ⟨rfl, HB1.out⟩

set_option maxRecDepth 10000 in
set_option maxHeartbeats 800000 in
theorem back_i5 (a k x : Int) (w : World) (h1 : a ≤ 4611686018427387903) (h2 : 0 < k) (h3 : k ≤ 2147483647) (d : Int) (hd : IntKind.u64.wrap (4611686018427387903 - a) = d) (h4 : k ≤ d) (h5 : x ≤ a) :
    Calls Try.prog 4 #[.int .u64 a, .int .u64 k, .int .u64 x] w fun e w' => e = .returned (.bool true) ∧ Below w.heap.size w w' := by
  go_enter Try.func4, Try.ntmps4
  go_wp2_with fail
  refine (known_any _).mono ?_
  rintro e w1 ⟨rfl, hb1⟩
  have HB1 := Lib.hid hb1
  clear hb1
  go_wp2
  go_ret
  exact ⟨rfl, HB1.out⟩

set_option maxRecDepth 10000 in
set_option maxHeartbeats 800000 in
theorem back_i6 (a k x : Int) (w : World) (h1 : a ≤ 4611686018427387903) (h2 : 0 < k) (h3 : k ≤ 2147483647) (d : Int) (hd : IntKind.u64.wrap (4611686018427387903 - a) = d) (h4 : k ≤ d) (h5 : a < x) (f : Int) (hf : IntKind.u64.wrap (a + k) = f) (h6 : f < x) :
    Calls Try.prog 4 #[.int .u64 a, .int .u64 k, .int .u64 x] w fun e w' => e = .returned (.bool true) ∧ Below w.heap.size w w' := by
  go_enter Try.func4, Try.ntmps4
  go_wp2_with fail
  refine (known_any _).mono ?_
  rintro e w1 ⟨rfl, hb1⟩
  have HB1 := Lib.hid hb1
  clear hb1
  go_wp2
  go_ret
  exact ⟨rfl, HB1.out⟩

set_option maxRecDepth 10000 in
set_option maxHeartbeats 800000 in
theorem back_1w (a k x : Int) (w : World) (h1 : a ≤ 4611686018427387903) (h2 : 0 < k) (h3 : k ≤ 2147483647) (d : Int) (hd : IntKind.u64.wrap (4611686018427387903 - a) = d) (h4 : k ≤ d) (h5 : a < x) (f tr : Int) (hf : IntKind.u64.wrap (a + k) = f) (h6 : x ≤ f)
    (HY : ∀ w, Calls Try.prog 7 #[.int .u64 f, .int .u64 a, .bool true] w fun e w' => e = .returned (.int .i64 1) ∧ w = w')
    (HT : ∀ w, Calls Try.prog 9 #[.int .u64 f, .int .i64 1] w fun e w' => e = .returned (.int .u64 tr) ∧ w = w')
    (HE : ∀ w, Calls Try.prog 11 #[.int .u64 x, .int .u64 tr, .int .i64 1] w fun e w' => e = .returned (.int .u64 f) ∧ Below w.heap.size w w') :
    Calls Try.prog 4 #[.int .u64 a, .int .u64 k, .int .u64 x] w fun e w' => e = .returned (.bool true) ∧ Below w.heap.size w w' := by
  have hk0 : (k == 0) = false := beq_eq_false_iff_ne.2 (by omega)
  go_enter Try.func4, Try.ntmps4
  go_wp2_with fail
  refine (known_any _).mono ?_
  rintro e w1 ⟨rfl, hb1⟩
  have HB1 := Lib.hid hb1
  clear hb1
  go_wp2_with fail
  refine (HY _).mono ?_
  rintro e w1' ⟨rfl, rfl⟩
  go_wp2_with fail
  refine (HT _).mono ?_
  rintro e w1' ⟨rfl, rfl⟩
  go_wp2_with fail
  refine (HE _).mono ?_
  rintro e w2 ⟨rfl, hb2⟩
  have HB2 := Lib.hid (hb2.mono HB1.out.size)
  clear hb2
  go_wp2
  go_ret
  exact ⟨rfl, HB1.out.trans HB2.out⟩

theorem backN_1 (f x : Nat) (hf : f ≤ 4611686018427387903) (hx : x ≤ f) (hn : f - x < 128) : expN x (f % 256) 256 = f := by
  unfold expN
  rw [Nat.min_eq_left (by omega)]
  obtain ⟨s, hs⟩ : ∃ s, s = x / 256 * 256 + f % 256 % 256 := ⟨_, rfl⟩
  rw [← hs]
  unfold expS
  by_cases h : s ≤ x
  · rw [if_pos h]
    by_cases g : 4611686018427387903 < s + 256 ∨ x - s < s + 256 - x
    · rw [if_pos g]; omega
    · rw [if_neg g]; omega
  · rw [if_neg h]
    by_cases g : 256 ≤ s
    · rw [if_pos g]
      by_cases k : x - (s - 256) < s - x
      · rw [if_pos k]; omega
      · rw [if_neg k]; omega
    · rw [if_neg g]; omega

set_option maxRecDepth 10000 in
set_option maxHeartbeats 800000 in
theorem back_2w (a k x : Int) (w : World) (h1 : a ≤ 4611686018427387903) (h2 : 0 < k) (h3 : k ≤ 2147483647) (d : Int) (hd : IntKind.u64.wrap (4611686018427387903 - a) = d) (h4 : k ≤ d) (h5 : a < x) (f tr : Int) (hf : IntKind.u64.wrap (a + k) = f) (h6 : x ≤ f)
    (HY : ∀ w, Calls Try.prog 7 #[.int .u64 f, .int .u64 a, .bool true] w fun e w' => e = .returned (.int .i64 2) ∧ w = w')
    (HT : ∀ w, Calls Try.prog 9 #[.int .u64 f, .int .i64 2] w fun e w' => e = .returned (.int .u64 tr) ∧ w = w')
    (HE : ∀ w, Calls Try.prog 11 #[.int .u64 x, .int .u64 tr, .int .i64 2] w fun e w' => e = .returned (.int .u64 f) ∧ Below w.heap.size w w') :
    Calls Try.prog 4 #[.int .u64 a, .int .u64 k, .int .u64 x] w fun e w' => e = .returned (.bool true) ∧ Below w.heap.size w w' := by
  have hk0 : (k == 0) = false := beq_eq_false_iff_ne.2 (by omega)
  go_enter Try.func4, Try.ntmps4
  go_wp2_with fail
  refine (known_any _).mono ?_
  rintro e w1 ⟨rfl, hb1⟩
  have HB1 := Lib.hid hb1
  clear hb1
  go_wp2_with fail
  refine (HY _).mono ?_
  rintro e w1' ⟨rfl, rfl⟩
  go_wp2_with fail
  refine (HT _).mono ?_
  rintro e w1' ⟨rfl, rfl⟩
  go_wp2_with fail
  refine (HE _).mono ?_
  rintro e w2 ⟨rfl, hb2⟩
  have HB2 := Lib.hid (hb2.mono HB1.out.size)
  clear hb2
  go_wp2
  go_ret
  exact ⟨rfl, HB1.out.trans HB2.out⟩

theorem backN_2 (f x : Nat) (hf : f ≤ 4611686018427387903) (hx : x ≤ f) (hn : f - x < 32768) : expN x (f % 65536) 65536 = f := by
  unfold expN
  rw [Nat.min_eq_left (by omega)]
  obtain ⟨s, hs⟩ : ∃ s, s = x / 65536 * 65536 + f % 65536 % 65536 := ⟨_, rfl⟩
  rw [← hs]
  unfold expS
  by_cases h : s ≤ x
  · rw [if_pos h]
    by_cases g : 4611686018427387903 < s + 65536 ∨ x - s < s + 65536 - x
    · rw [if_pos g]; omega
    · rw [if_neg g]; omega
  · rw [if_neg h]
    by_cases g : 65536 ≤ s
    · rw [if_pos g]
      by_cases k : x - (s - 65536) < s - x
      · rw [if_pos k]; omega
      · rw [if_neg k]; omega
    · rw [if_neg g]; omega

set_option maxRecDepth 10000 in
set_option maxHeartbeats 800000 in
theorem back_3w (a k x : Int) (w : World) (h1 : a ≤ 4611686018427387903) (h2 : 0 < k) (h3 : k ≤ 2147483647) (d : Int) (hd : IntKind.u64.wrap (4611686018427387903 - a) = d) (h4 : k ≤ d) (h5 : a < x) (f tr : Int) (hf : IntKind.u64.wrap (a + k) = f) (h6 : x ≤ f)
    (HY : ∀ w, Calls Try.prog 7 #[.int .u64 f, .int .u64 a, .bool true] w fun e w' => e = .returned (.int .i64 3) ∧ w = w')
    (HT : ∀ w, Calls Try.prog 9 #[.int .u64 f, .int .i64 3] w fun e w' => e = .returned (.int .u64 tr) ∧ w = w')
    (HE : ∀ w, Calls Try.prog 11 #[.int .u64 x, .int .u64 tr, .int .i64 3] w fun e w' => e = .returned (.int .u64 f) ∧ Below w.heap.size w w') :
    Calls Try.prog 4 #[.int .u64 a, .int .u64 k, .int .u64 x] w fun e w' => e = .returned (.bool true) ∧ Below w.heap.size w w' := by
  have hk0 : (k == 0) = false := beq_eq_false_iff_ne.2 (by omega)
  go_enter Try.func4, Try.ntmps4
  go_wp2_with fail
  refine (known_any _).mono ?_
  rintro e w1 ⟨rfl, hb1⟩
  have HB1 := Lib.hid hb1
  clear hb1
  go_wp2_with fail
  refine (HY _).mono ?_
  rintro e w1' ⟨rfl, rfl⟩
  go_wp2_with fail
  refine (HT _).mono ?_
  rintro e w1' ⟨rfl, rfl⟩
  go_wp2_with fail
  refine (HE _).mono ?_
  rintro e w2 ⟨rfl, hb2⟩
  have HB2 := Lib.hid (hb2.mono HB1.out.size)
  clear hb2
  go_wp2
  go_ret
  exact ⟨rfl, HB1.out.trans HB2.out⟩

theorem backN_3 (f x : Nat) (hf : f ≤ 4611686018427387903) (hx : x ≤ f) (hn : f - x < 8388608) : expN x (f % 16777216) 16777216 = f := by
  unfold expN
  rw [Nat.min_eq_left (by omega)]
  obtain ⟨s, hs⟩ : ∃ s, s = x / 16777216 * 16777216 + f % 16777216 % 16777216 := ⟨_, rfl⟩
  rw [← hs]
  unfold expS
  by_cases h : s ≤ x
  · rw [if_pos h]
    by_cases g : 4611686018427387903 < s + 16777216 ∨ x - s < s + 16777216 - x
    · rw [if_pos g]; omega
    · rw [if_neg g]; omega
  · rw [if_neg h]
    by_cases g : 16777216 ≤ s
    · rw [if_pos g]
      by_cases k : x - (s - 16777216) < s - x
      · rw [if_pos k]; omega
      · rw [if_neg k]; omega
    · rw [if_neg g]; omega

set_option maxRecDepth 10000 in
set_option maxHeartbeats 800000 in
theorem back_4w (a k x : Int) (w : World) (h1 : a ≤ 4611686018427387903) (h2 : 0 < k) (h3 : k ≤ 2147483647) (d : Int) (hd : IntKind.u64.wrap (4611686018427387903 - a) = d) (h4 : k ≤ d) (h5 : a < x) (f tr : Int) (hf : IntKind.u64.wrap (a + k) = f) (h6 : x ≤ f)
    (HY : ∀ w, Calls Try.prog 7 #[.int .u64 f, .int .u64 a, .bool true] w fun e w' => e = .returned (.int .i64 4) ∧ w = w')
    (HT : ∀ w, Calls Try.prog 9 #[.int .u64 f, .int .i64 4] w fun e w' => e = .returned (.int .u64 tr) ∧ w = w')
    (HE : ∀ w, Calls Try.prog 11 #[.int .u64 x, .int .u64 tr, .int .i64 4] w fun e w' => e = .returned (.int .u64 f) ∧ Below w.heap.size w w') :
    Calls Try.prog 4 #[.int .u64 a, .int .u64 k, .int .u64 x] w fun e w' => e = .returned (.bool true) ∧ Below w.heap.size w w' := by
  have hk0 : (k == 0) = false := beq_eq_false_iff_ne.2 (by omega)
  go_enter Try.func4, Try.ntmps4
  go_wp2_with fail
  refine (known_any _).mono ?_
  rintro e w1 ⟨rfl, hb1⟩
  have HB1 := Lib.hid hb1
  clear hb1
  go_wp2_with fail
  refine (HY _).mono ?_
  rintro e w1' ⟨rfl, rfl⟩
  go_wp2_with fail
  refine (HT _).mono ?_
  rintro e w1' ⟨rfl, rfl⟩
  go_wp2_with fail
  refine (HE _).mono ?_
  rintro e w2 ⟨rfl, hb2⟩
  have HB2 := Lib.hid (hb2.mono HB1.out.size)
  clear hb2
  go_wp2
  go_ret
  exact ⟨rfl, HB1.out.trans HB2.out⟩

theorem backN_4 (f x : Nat) (hf : f ≤ 4611686018427387903) (hx : x ≤ f) (hn : f - x < 2147483648) : expN x (f % 4294967296) 4294967296 = f := by
  unfold expN
  rw [Nat.min_eq_left (by omega)]
  obtain ⟨s, hs⟩ : ∃ s, s = x / 4294967296 * 4294967296 + f % 4294967296 % 4294967296 := ⟨_, rfl⟩
  rw [← hs]
  unfold expS
  by_cases h : s ≤ x
  · rw [if_pos h]
    by_cases g : 4611686018427387903 < s + 4294967296 ∨ x - s < s + 4294967296 - x
    · rw [if_pos g]; omega
    · rw [if_neg g]; omega
  · rw [if_neg h]
    by_cases g : 4294967296 ≤ s
    · rw [if_pos g]
      by_cases k : x - (s - 4294967296) < s - x
      · rw [if_pos k]; omega
      · rw [if_neg k]; omega
    · rw [if_neg g]; omega

theorem back_any (a k x : Int) (w : World) (ha0 : 0 ≤ a) (ha : a < 18446744073709551616) (hk0 : 0 ≤ k) (hk : k < 18446744073709551616) (hx0 : 0 ≤ x) (hx : x < 18446744073709551616) :
    Calls Try.prog 4 #[.int .u64 a, .int .u64 k, .int .u64 x] w fun e w' => e = .returned (.bool true) ∧ Below w.heap.size w w' := by
  obtain ⟨a, rfl⟩ := Int.eq_ofNat_of_zero_le ha0
  obtain ⟨k, rfl⟩ := Int.eq_ofNat_of_zero_le hk0
  obtain ⟨x, rfl⟩ := Int.eq_ofNat_of_zero_le hx0
  by_cases h1 : 4611686018427387903 < a
  · exact back_i1 a k x w (by omega)
  by_cases h2 : k = 0
  · exact back_i2 a k x w (by omega) (by omega)
  by_cases h3 : 2147483647 < k
  · exact back_i3 a k x w (by omega) (by omega) (by omega)
  have hd : IntKind.u64.wrap ((4611686018427387903 : Int) - (a : Int)) = ((4611686018427387903 - a : Nat) : Int) := by rw [IntKind.wrap_u64]; omega
  by_cases h4 : 4611686018427387903 - a < k
  · exact back_i4 a k x w (by omega) (by omega) (by omega) _ hd (by omega)
  by_cases h5 : x ≤ a
  · exact back_i5 a k x w (by omega) (by omega) (by omega) _ hd (by omega) (by omega)
  have hf : IntKind.u64.wrap ((a : Int) + (k : Int)) = ((a + k : Nat) : Int) := by rw [IntKind.wrap_u64]; omega
  by_cases h6 : a + k < x
  · exact back_i6 a k x w (by omega) (by omega) (by omega) _ hd (by omega) (by omega) _ hf (by omega)
  have ho : openN (a + k) a true = k := by show a + k - min (a + k) a = k; omega
  by_cases g1 : k < 128
  · have HE := expand_1 x ((a + k) % 256)
    rw [backN_1 (a + k) x (by omega) (by omega) (by omega)] at HE
    exact back_1w a k x w (by omega) (by omega) (by omega) _ hd (by omega) (by omega) _ _ hf (by omega) (fun w' => bytes_1 (a + k) a true w' (by omega) (by omega) (by omega)) (trunc_1 (a + k)) HE
  by_cases g2 : k < 32768
  · have HE := expand_2 x ((a + k) % 65536)
    rw [backN_2 (a + k) x (by omega) (by omega) (by omega)] at HE
    exact back_2w a k x w (by omega) (by omega) (by omega) _ hd (by omega) (by omega) _ _ hf (by omega) (fun w' => bytes_2 (a + k) a true w' (by omega) (by omega) (by omega) (by omega)) (trunc_2 (a + k)) HE
  by_cases g3 : k < 8388608
  · have HE := expand_3 x ((a + k) % 16777216)
    rw [backN_3 (a + k) x (by omega) (by omega) (by omega)] at HE
    exact back_3w a k x w (by omega) (by omega) (by omega) _ hd (by omega) (by omega) _ _ hf (by omega) (fun w' => bytes_3 (a + k) a true w' (by omega) (by omega) (by omega) (by omega)) (trunc_3 (a + k)) HE
  · have HE := expand_4 x ((a + k) % 4294967296)
    rw [backN_4 (a + k) x (by omega) (by omega) (by omega)] at HE
    exact back_4w a k x w (by omega) (by omega) (by omega) _ hd (by omega) (by omega) _ _ hf (by omega) (fun w' => bytes_4 (a + k) a true w' (by omega) (by omega) (by omega)) (trunc_4 (a + k)) HE

end Go.Proofs.Ytmffnfamdioaiaa
