/-
  The walk through the document's own Bytes.
-/
import Derived.Test.YtmffnfamdioaiaaPnPlain
namespace Go.Proofs.Ytmffnfamdioaiaa
open Go.RowKit
set_option linter.unusedVariables false

set_option maxRecDepth 10000 in
set_option maxHeartbeats 400000 in
theorem rbytes_false_1 (x y : Int) (w : World) (h : x < 127) :
    Calls Try.prog 8 #[.int .u64 x, .int .u64 y, .bool false] w fun e w' => e = .returned (.int .i64 1) ∧ w = w' := by
  go_enter Try.func8, Try.ntmps8
  go_wp2
  refine wp_loop_rounds 1 ?_
  rw [rounds_succ]
  go_wp2_with first
    | (go_at_call 15; refine (window_1 _).mono ?_; rintro e w1 ⟨rfl, rfl⟩)
  go_ret
  exact ⟨rfl, rfl⟩

set_option maxRecDepth 10000 in
set_option maxHeartbeats 400000 in
theorem rbytes_false_2 (x y : Int) (w : World) (h0 : 127 ≤ x) (h : x < 32767) :
    Calls Try.prog 8 #[.int .u64 x, .int .u64 y, .bool false] w fun e w' => e = .returned (.int .i64 2) ∧ w = w' := by
  go_enter Try.func8, Try.ntmps8
  go_wp2
  refine wp_loop_rounds 2 ?_
  rw [rounds_succ]
  go_wp2_with first
    | (go_at_call 15; refine (window_1 _).mono ?_; rintro e w1 ⟨rfl, rfl⟩)
  rw [rounds_succ]
  go_wp2_with first
    | (go_at_call 15; refine (window_2 _).mono ?_; rintro e w1 ⟨rfl, rfl⟩)
  go_ret
  exact ⟨rfl, rfl⟩

set_option maxRecDepth 10000 in
set_option maxHeartbeats 400000 in
theorem rbytes_false_3 (x y : Int) (w : World) (h0 : 32767 ≤ x) (h : x < 8388607) :
    Calls Try.prog 8 #[.int .u64 x, .int .u64 y, .bool false] w fun e w' => e = .returned (.int .i64 3) ∧ w = w' := by
  go_enter Try.func8, Try.ntmps8
  go_wp2
  refine wp_loop_rounds 3 ?_
  rw [rounds_succ]
  go_wp2_with first
    | (go_at_call 15; refine (window_1 _).mono ?_; rintro e w1 ⟨rfl, rfl⟩)
  rw [rounds_succ]
  go_wp2_with first
    | (go_at_call 15; refine (window_2 _).mono ?_; rintro e w1 ⟨rfl, rfl⟩)
  rw [rounds_succ]
  go_wp2_with first
    | (go_at_call 15; refine (window_3 _).mono ?_; rintro e w1 ⟨rfl, rfl⟩)
  go_ret
  exact ⟨rfl, rfl⟩

set_option maxRecDepth 10000 in
set_option maxHeartbeats 400000 in
theorem rbytes_false_4 (x y : Int) (w : World) (h0 : 8388607 ≤ x) :
    Calls Try.prog 8 #[.int .u64 x, .int .u64 y, .bool false] w fun e w' => e = .returned (.int .i64 4) ∧ w = w' := by
  go_enter Try.func8, Try.ntmps8
  go_wp2
  refine wp_loop_rounds 4 ?_
  rw [rounds_succ]
  go_wp2_with first
    | (go_at_call 15; refine (window_1 _).mono ?_; rintro e w1 ⟨rfl, rfl⟩)
  rw [rounds_succ]
  go_wp2_with first
    | (go_at_call 15; refine (window_2 _).mono ?_; rintro e w1 ⟨rfl, rfl⟩)
  rw [rounds_succ]
  go_wp2_with first
    | (go_at_call 15; refine (window_3 _).mono ?_; rintro e w1 ⟨rfl, rfl⟩)
  rw [rounds_succ]
  go_wp2
  go_ret
  exact ⟨rfl, rfl⟩

set_option maxRecDepth 10000 in
set_option maxHeartbeats 400000 in
theorem rbytes_true_1 (x y : Int) (w : World) (d : Int) (hw : IntKind.u64.wrap (x - y) = d) (hl : y < x) (h : d < 128) :
    Calls Try.prog 8 #[.int .u64 x, .int .u64 y, .bool true] w fun e w' => e = .returned (.int .i64 1) ∧ w = w' := by
  go_enter Try.func8, Try.ntmps8
  go_wp2
  refine wp_loop_rounds 1 ?_
  rw [rounds_succ]
  go_wp2_with first
    | (go_at_call 15; refine (window_1 _).mono ?_; rintro e w1 ⟨rfl, rfl⟩)
  go_ret
  exact ⟨rfl, rfl⟩

set_option maxRecDepth 10000 in
set_option maxHeartbeats 400000 in
theorem rbytes_true_2 (x y : Int) (w : World) (d : Int) (hw : IntKind.u64.wrap (x - y) = d) (hl : y < x) (h0 : 128 ≤ d) (h : d < 32768) :
    Calls Try.prog 8 #[.int .u64 x, .int .u64 y, .bool true] w fun e w' => e = .returned (.int .i64 2) ∧ w = w' := by
  go_enter Try.func8, Try.ntmps8
  go_wp2
  refine wp_loop_rounds 2 ?_
  rw [rounds_succ]
  go_wp2_with first
    | (go_at_call 15; refine (window_1 _).mono ?_; rintro e w1 ⟨rfl, rfl⟩)
  rw [rounds_succ]
  go_wp2_with first
    | (go_at_call 15; refine (window_2 _).mono ?_; rintro e w1 ⟨rfl, rfl⟩)
  go_ret
  exact ⟨rfl, rfl⟩

set_option maxRecDepth 10000 in
set_option maxHeartbeats 400000 in
theorem rbytes_true_3 (x y : Int) (w : World) (d : Int) (hw : IntKind.u64.wrap (x - y) = d) (hl : y < x) (h0 : 32768 ≤ d) (h : d < 8388608) :
    Calls Try.prog 8 #[.int .u64 x, .int .u64 y, .bool true] w fun e w' => e = .returned (.int .i64 3) ∧ w = w' := by
  go_enter Try.func8, Try.ntmps8
  go_wp2
  refine wp_loop_rounds 3 ?_
  rw [rounds_succ]
  go_wp2_with first
    | (go_at_call 15; refine (window_1 _).mono ?_; rintro e w1 ⟨rfl, rfl⟩)
  rw [rounds_succ]
  go_wp2_with first
    | (go_at_call 15; refine (window_2 _).mono ?_; rintro e w1 ⟨rfl, rfl⟩)
  rw [rounds_succ]
  go_wp2_with first
    | (go_at_call 15; refine (window_3 _).mono ?_; rintro e w1 ⟨rfl, rfl⟩)
  go_ret
  exact ⟨rfl, rfl⟩

set_option maxRecDepth 10000 in
set_option maxHeartbeats 400000 in
theorem rbytes_true_4 (x y : Int) (w : World) (d : Int) (hw : IntKind.u64.wrap (x - y) = d) (hl : y < x) (h0 : 8388608 ≤ d) :
    Calls Try.prog 8 #[.int .u64 x, .int .u64 y, .bool true] w fun e w' => e = .returned (.int .i64 4) ∧ w = w' := by
  go_enter Try.func8, Try.ntmps8
  go_wp2
  refine wp_loop_rounds 4 ?_
  rw [rounds_succ]
  go_wp2_with first
    | (go_at_call 15; refine (window_1 _).mono ?_; rintro e w1 ⟨rfl, rfl⟩)
  rw [rounds_succ]
  go_wp2_with first
    | (go_at_call 15; refine (window_2 _).mono ?_; rintro e w1 ⟨rfl, rfl⟩)
  rw [rounds_succ]
  go_wp2_with first
    | (go_at_call 15; refine (window_3 _).mono ?_; rintro e w1 ⟨rfl, rfl⟩)
  rw [rounds_succ]
  go_wp2
  go_ret
  exact ⟨rfl, rfl⟩

set_option maxRecDepth 10000 in
set_option maxHeartbeats 400000 in
theorem rbytes_low (n a : Nat) (w : World) (hl : n ≤ a) :
    Calls Try.prog 8 #[.int .u64 (n : Int), .int .u64 (a : Int), .bool true] w fun e w' => e = .returned (.int .i64 1) ∧ w = w' := by
  go_enter Try.func8, Try.ntmps8
  go_wp2
  go_ret
  exact ⟨rfl, rfl⟩

theorem bytes_any (n a : Nat) (has : Bool) (w : World) (hn : n < 18446744073709551616) (ha : a < 18446744073709551616) :
    Calls Try.prog 7 #[.int .u64 (n : Int), .int .u64 (a : Int), .bool has] w fun e w' => e = .returned (.int .i64 ((needN (openN n a has) : Nat) : Int)) ∧ w = w' := by
  by_cases h1 : openN n a has < 128
  · rw [needN_1 h1]; exact bytes_1 n a has w hn ha h1
  · by_cases h2 : openN n a has < 32768
    · rw [needN_2 h1 h2]; exact bytes_2 n a has w hn ha (by omega) h2
    · by_cases h3 : openN n a has < 8388608
      · rw [needN_3 h2 h3]; exact bytes_3 n a has w hn ha (by omega) h3
      · rw [needN_4 h3]; exact bytes_4 n a has w hn ha (by omega)

theorem rbytes_any (n a : Nat) (has : Bool) (w : World) (hn : n < 18446744073709551616) (ha : a < 18446744073709551616) :
    Calls Try.prog 8 #[.int .u64 (n : Int), .int .u64 (a : Int), .bool has] w fun e w' => e = .returned (.int .i64 ((needN (openN n a has) : Nat) : Int)) ∧ w = w' := by
  cases has
  · have ho : openN n a false = max n ((n + 1) % 18446744073709551616) := rfl
    by_cases h1 : openN n a false < 128
    · rw [needN_1 h1]; exact rbytes_false_1 n a w (by omega)
    · by_cases h2 : openN n a false < 32768
      · rw [needN_2 h1 h2]; exact rbytes_false_2 n a w (by omega) (by omega)
      · by_cases h3 : openN n a false < 8388608
        · rw [needN_3 h2 h3]; exact rbytes_false_3 n a w (by omega) (by omega)
        · rw [needN_4 h3]; exact rbytes_false_4 n a w (by omega)
  · have ho : openN n a true = n - min n a := rfl
    by_cases hl : n ≤ a
    · rw [needN_1 (by omega)]; exact rbytes_low n a w hl
    · by_cases h1 : openN n a true < 128
      · rw [needN_1 h1]; exact rbytes_true_1 n a w _ (show IntKind.u64.wrap ((n : Int) - (a : Int)) = ((n - a : Nat) : Int) by rw [IntKind.wrap_u64]; omega) (by omega) (by omega)
      · by_cases h2 : openN n a true < 32768
        · rw [needN_2 h1 h2]; exact rbytes_true_2 n a w _ (show IntKind.u64.wrap ((n : Int) - (a : Int)) = ((n - a : Nat) : Int) by rw [IntKind.wrap_u64]; omega) (by omega) (by omega) (by omega)
        · by_cases h3 : openN n a true < 8388608
          · rw [needN_3 h2 h3]; exact rbytes_true_3 n a w _ (show IntKind.u64.wrap ((n : Int) - (a : Int)) = ((n - a : Nat) : Int) by rw [IntKind.wrap_u64]; omega) (by omega) (by omega) (by omega)
          · rw [needN_4 h3]; exact rbytes_true_4 n a w _ (show IntKind.u64.wrap ((n : Int) - (a : Int)) = ((n - a : Nat) : Int) by rw [IntKind.wrap_u64]; omega) (by omega) (by omega)

end Go.Proofs.Ytmffnfamdioaiaa
