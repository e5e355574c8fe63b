/-
  The walks through pnum's and the document's functions without closures: how many numbers so many bytes tell, low bytes, how many bytes a number needs.
-/
import Derived.Test.YtmffnfamdioaiaaRows
import Derived.WalkKit
import Derived.WalkSpells
import Derived.WalkLawsBesides
import Derived.LoopN
import Derived.Lib.Hide
import Derived.Test.YtmffnfamdioaiaaPnMath
namespace Go.Proofs.Ytmffnfamdioaiaa
open Go.RowKit
set_option linter.unusedVariables false

set_option maxRecDepth 10000 in
set_option maxHeartbeats 400000 in
theorem told_1 (w : World) : Calls Try.prog 14 #[.int .i64 1] w fun e w' => e = .returned (.int .u64 256) ∧ w = w' := by
  go_enter Try.func14, Try.ntmps14
  go_wp2
  go_ret
  exact ⟨rfl, rfl⟩

set_option maxRecDepth 10000 in
set_option maxHeartbeats 400000 in
theorem window_1 (w : World) : Calls Try.prog 15 #[.int .i64 1] w fun e w' => e = .returned (.int .u64 256) ∧ w = w' := by
  go_enter Try.func15, Try.ntmps15
  go_wp2
  refine wp_loop_rounds 2 ?_
  rw [rounds_succ]; go_wp2
  rw [rounds_succ]; go_wp2
  go_ret
  exact ⟨rfl, rfl⟩

theorem mayBe_1 (w : World) : Calls Try.prog 16 #[.int .i64 1] w fun e w' => e = .returned (.bool true) ∧ w = w' := by
  go_enter Try.func16, Try.ntmps16
  go_wp2
  go_ret
  exact ⟨rfl, rfl⟩

set_option maxRecDepth 10000 in
set_option maxHeartbeats 400000 in
theorem trunc_1 (n : Nat) (w : World) : Calls Try.prog 9 #[.int .u64 (n : Int), .int .i64 1] w fun e w' => e = .returned (.int .u64 ((n % 256 : Nat) : Int)) ∧ w = w' := by
  go_enter Try.func9, Try.ntmps9
  go_wp2_with first
    | (go_at_call 16; refine (mayBe_1 _).mono ?_; rintro e w1 ⟨rfl, rfl⟩)
    | (go_at_call 14; refine (told_1 _).mono ?_; rintro e w1 ⟨rfl, rfl⟩)
  go_ret
  exact ⟨by simp, rfl⟩

set_option maxRecDepth 10000 in
set_option maxHeartbeats 400000 in
theorem rtrunc_1 (n : Nat) (w : World) : Calls Try.prog 10 #[.int .u64 (n : Int), .int .i64 1] w fun e w' => e = .returned (.int .u64 ((n % 256 : Nat) : Int)) ∧ w = w' := by
  go_enter Try.func10, Try.ntmps10
  go_wp2_with first
    | (go_at_call 15; refine (window_1 _).mono ?_; rintro e w1 ⟨rfl, rfl⟩)
  go_ret
  exact ⟨by simp, rfl⟩

set_option maxRecDepth 10000 in
set_option maxHeartbeats 400000 in
theorem told_2 (w : World) : Calls Try.prog 14 #[.int .i64 2] w fun e w' => e = .returned (.int .u64 65536) ∧ w = w' := by
  go_enter Try.func14, Try.ntmps14
  go_wp2
  go_ret
  exact ⟨rfl, rfl⟩

set_option maxRecDepth 10000 in
set_option maxHeartbeats 400000 in
theorem window_2 (w : World) : Calls Try.prog 15 #[.int .i64 2] w fun e w' => e = .returned (.int .u64 65536) ∧ w = w' := by
  go_enter Try.func15, Try.ntmps15
  go_wp2
  refine wp_loop_rounds 3 ?_
  rw [rounds_succ]; go_wp2
  rw [rounds_succ]; go_wp2
  rw [rounds_succ]; go_wp2
  go_ret
  exact ⟨rfl, rfl⟩

theorem mayBe_2 (w : World) : Calls Try.prog 16 #[.int .i64 2] w fun e w' => e = .returned (.bool true) ∧ w = w' := by
  go_enter Try.func16, Try.ntmps16
  go_wp2
  go_ret
  exact ⟨rfl, rfl⟩

set_option maxRecDepth 10000 in
set_option maxHeartbeats 400000 in
theorem trunc_2 (n : Nat) (w : World) : Calls Try.prog 9 #[.int .u64 (n : Int), .int .i64 2] w fun e w' => e = .returned (.int .u64 ((n % 65536 : Nat) : Int)) ∧ w = w' := by
  go_enter Try.func9, Try.ntmps9
  go_wp2_with first
    | (go_at_call 16; refine (mayBe_2 _).mono ?_; rintro e w1 ⟨rfl, rfl⟩)
    | (go_at_call 14; refine (told_2 _).mono ?_; rintro e w1 ⟨rfl, rfl⟩)
  go_ret
  exact ⟨by simp, rfl⟩

set_option maxRecDepth 10000 in
set_option maxHeartbeats 400000 in
theorem rtrunc_2 (n : Nat) (w : World) : Calls Try.prog 10 #[.int .u64 (n : Int), .int .i64 2] w fun e w' => e = .returned (.int .u64 ((n % 65536 : Nat) : Int)) ∧ w = w' := by
  go_enter Try.func10, Try.ntmps10
  go_wp2_with first
    | (go_at_call 15; refine (window_2 _).mono ?_; rintro e w1 ⟨rfl, rfl⟩)
  go_ret
  exact ⟨by simp, rfl⟩

set_option maxRecDepth 10000 in
set_option maxHeartbeats 400000 in
theorem told_3 (w : World) : Calls Try.prog 14 #[.int .i64 3] w fun e w' => e = .returned (.int .u64 16777216) ∧ w = w' := by
  go_enter Try.func14, Try.ntmps14
  go_wp2
  go_ret
  exact ⟨rfl, rfl⟩

set_option maxRecDepth 10000 in
set_option maxHeartbeats 400000 in
theorem window_3 (w : World) : Calls Try.prog 15 #[.int .i64 3] w fun e w' => e = .returned (.int .u64 16777216) ∧ w = w' := by
  go_enter Try.func15, Try.ntmps15
  go_wp2
  refine wp_loop_rounds 4 ?_
  rw [rounds_succ]; go_wp2
  rw [rounds_succ]; go_wp2
  rw [rounds_succ]; go_wp2
  rw [rounds_succ]; go_wp2
  go_ret
  exact ⟨rfl, rfl⟩

theorem mayBe_3 (w : World) : Calls Try.prog 16 #[.int .i64 3] w fun e w' => e = .returned (.bool true) ∧ w = w' := by
  go_enter Try.func16, Try.ntmps16
  go_wp2
  go_ret
  exact ⟨rfl, rfl⟩

set_option maxRecDepth 10000 in
set_option maxHeartbeats 400000 in
theorem trunc_3 (n : Nat) (w : World) : Calls Try.prog 9 #[.int .u64 (n : Int), .int .i64 3] w fun e w' => e = .returned (.int .u64 ((n % 16777216 : Nat) : Int)) ∧ w = w' := by
  go_enter Try.func9, Try.ntmps9
  go_wp2_with first
    | (go_at_call 16; refine (mayBe_3 _).mono ?_; rintro e w1 ⟨rfl, rfl⟩)
    | (go_at_call 14; refine (told_3 _).mono ?_; rintro e w1 ⟨rfl, rfl⟩)
  go_ret
  exact ⟨by simp, rfl⟩

set_option maxRecDepth 10000 in
set_option maxHeartbeats 400000 in
theorem rtrunc_3 (n : Nat) (w : World) : Calls Try.prog 10 #[.int .u64 (n : Int), .int .i64 3] w fun e w' => e = .returned (.int .u64 ((n % 16777216 : Nat) : Int)) ∧ w = w' := by
  go_enter Try.func10, Try.ntmps10
  go_wp2_with first
    | (go_at_call 15; refine (window_3 _).mono ?_; rintro e w1 ⟨rfl, rfl⟩)
  go_ret
  exact ⟨by simp, rfl⟩

set_option maxRecDepth 10000 in
set_option maxHeartbeats 400000 in
theorem told_4 (w : World) : Calls Try.prog 14 #[.int .i64 4] w fun e w' => e = .returned (.int .u64 4294967296) ∧ w = w' := by
  go_enter Try.func14, Try.ntmps14
  go_wp2
  go_ret
  exact ⟨rfl, rfl⟩

set_option maxRecDepth 10000 in
set_option maxHeartbeats 400000 in
theorem window_4 (w : World) : Calls Try.prog 15 #[.int .i64 4] w fun e w' => e = .returned (.int .u64 4294967296) ∧ w = w' := by
  go_enter Try.func15, Try.ntmps15
  go_wp2
  refine wp_loop_rounds 5 ?_
  rw [rounds_succ]; go_wp2
  rw [rounds_succ]; go_wp2
  rw [rounds_succ]; go_wp2
  rw [rounds_succ]; go_wp2
  rw [rounds_succ]; go_wp2
  go_ret
  exact ⟨rfl, rfl⟩

theorem mayBe_4 (w : World) : Calls Try.prog 16 #[.int .i64 4] w fun e w' => e = .returned (.bool true) ∧ w = w' := by
  go_enter Try.func16, Try.ntmps16
  go_wp2
  go_ret
  exact ⟨rfl, rfl⟩

set_option maxRecDepth 10000 in
set_option maxHeartbeats 400000 in
theorem trunc_4 (n : Nat) (w : World) : Calls Try.prog 9 #[.int .u64 (n : Int), .int .i64 4] w fun e w' => e = .returned (.int .u64 ((n % 4294967296 : Nat) : Int)) ∧ w = w' := by
  go_enter Try.func9, Try.ntmps9
  go_wp2_with first
    | (go_at_call 16; refine (mayBe_4 _).mono ?_; rintro e w1 ⟨rfl, rfl⟩)
    | (go_at_call 14; refine (told_4 _).mono ?_; rintro e w1 ⟨rfl, rfl⟩)
  go_ret
  exact ⟨by simp, rfl⟩

set_option maxRecDepth 10000 in
set_option maxHeartbeats 400000 in
theorem rtrunc_4 (n : Nat) (w : World) : Calls Try.prog 10 #[.int .u64 (n : Int), .int .i64 4] w fun e w' => e = .returned (.int .u64 ((n % 4294967296 : Nat) : Int)) ∧ w = w' := by
  go_enter Try.func10, Try.ntmps10
  go_wp2_with first
    | (go_at_call 15; refine (window_4 _).mono ?_; rintro e w1 ⟨rfl, rfl⟩)
  go_ret
  exact ⟨by simp, rfl⟩

theorem mayBe_no (x : Int) (w : World) (h : x < 1 ∨ 4 < x) : Calls Try.prog 16 #[.int .i64 x] w fun e w' => e = .returned (.bool false) ∧ w = w' := by
  go_enter Try.func16, Try.ntmps16
  rcases h with h | h
  · go_wp2
    go_ret
    exact ⟨by simp, rfl⟩
  · go_wp2
    go_ret
    exact ⟨by simp; omega, rfl⟩

theorem trunc_no (n x : Int) (w : World) (h : x < 1 ∨ 4 < x) : Calls Try.prog 9 #[.int .u64 n, .int .i64 x] w fun e w' => e = .returned (.int .u64 0) ∧ w = w' := by
  go_enter Try.func9, Try.ntmps9
  go_wp2_with (go_at_call 16; refine (mayBe_no x _ h).mono ?_; rintro e w1 ⟨rfl, rfl⟩)
  go_ret
  exact ⟨rfl, rfl⟩

theorem expand_no (m n x : Int) (w : World) (h : x < 1 ∨ 4 < x) : Calls Try.prog 11 #[.int .u64 m, .int .u64 n, .int .i64 x] w fun e w' => e = .returned (.int .u64 0) ∧ Below w.heap.size w w' := by
  go_enter Try.func11, Try.ntmps11
  go_wp2_with (go_at_call 16; refine (mayBe_no x _ h).mono ?_; rintro e w1 ⟨rfl, rfl⟩)
  go_ret
  exact ⟨rfl, (Below.refl _ _).alloc (Nat.le_refl _) _⟩

theorem rtrunc_no (n x : Int) (w : World) (h : x < 1 ∨ 4 < x) : Calls Try.prog 10 #[.int .u64 n, .int .i64 x] w fun e w' => e = .returned (.int .u64 0) ∧ w = w' := by
  go_enter Try.func10, Try.ntmps10
  rcases h with h | h
  · go_wp2
    go_ret
    exact ⟨rfl, rfl⟩
  · go_wp2
    go_ret
    exact ⟨rfl, rfl⟩

theorem rexpand_no (m n x : Int) (w : World) (h : x < 1 ∨ 4 < x) : Calls Try.prog 12 #[.int .u64 m, .int .u64 n, .int .i64 x] w fun e w' => e = .returned (.int .u64 0) ∧ w = w' := by
  go_enter Try.func12, Try.ntmps12
  rcases h with h | h
  · go_wp2
    go_ret
    exact ⟨rfl, rfl⟩
  · go_wp2
    go_ret
    exact ⟨rfl, rfl⟩

set_option maxRecDepth 10000 in
set_option maxHeartbeats 400000 in
theorem unacked_any (n a : Nat) (has : Bool) (w : World) (hn : n < 18446744073709551616) (ha : a < 18446744073709551616) :
    Calls Try.prog 13 #[.int .u64 (n : Int), .int .u64 (a : Int), .bool has] w fun e w' => e = .returned (.int .u64 ((openN n a has : Nat) : Int)) ∧ w = w' := by
  cases has
  · by_cases h : 18446744073709551615 ≤ n
    · have hw : IntKind.u64.wrap ((n : Int) + 1) = 0 := by rw [show n = 18446744073709551615 by omega]; rfl
      have ho := Lib.hid (show openN n a false = n by rw [show n = 18446744073709551615 by omega]; rfl)
      go_enter Try.func13, Try.ntmps13
      go_wp2
      go_ret
      exact ⟨by rw [ho.out]; rfl, rfl⟩
    · have hw : IntKind.u64.wrap ((n : Int) + 1) = (n : Int) + 1 := by rw [IntKind.wrap_u64]; omega
      have ho := Lib.hid (show openN n a false = n + 1 by simp [openN]; omega)
      go_enter Try.func13, Try.ntmps13
      go_wp2
      go_ret
      exact ⟨by rw [ho.out]; simp, rfl⟩
  · by_cases h : n ≤ a
    · have ho := Lib.hid (show openN n a true = 0 by simp [openN]; omega)
      go_enter Try.func13, Try.ntmps13
      go_wp2
      go_ret
      exact ⟨by rw [ho.out]; rfl, rfl⟩
    · have hw : IntKind.u64.wrap ((n : Int) - (a : Int)) = (n : Int) - a := by rw [IntKind.wrap_u64]; omega
      have ho := Lib.hid (show openN n a true = n - a by simp [openN]; omega)
      go_enter Try.func13, Try.ntmps13
      go_wp2
      go_ret
      exact ⟨by rw [ho.out]; simp; omega, rfl⟩

set_option maxRecDepth 10000 in
set_option maxHeartbeats 400000 in
theorem bytes_1 (n a : Nat) (has : Bool) (w : World) (hn : n < 18446744073709551616) (ha : a < 18446744073709551616) (h : openN n a has < 128) :
    Calls Try.prog 7 #[.int .u64 (n : Int), .int .u64 (a : Int), .bool has] w fun e w' => e = .returned (.int .i64 1) ∧ w = w' := by
  go_enter Try.func7, Try.ntmps7
  go_wp2_with first
    | (go_at_call 13; refine (unacked_any n a has _ hn ha).mono ?_; rintro e w1 ⟨rfl, rfl⟩; generalize hx : ((openN n a has : Nat) : Int) = x at *)
  refine wp_loop_rounds 1 ?_
  rw [rounds_succ]
  go_wp2_with first
    | (go_at_call 14; refine (told_1 _).mono ?_; rintro e w1 ⟨rfl, rfl⟩)
  go_ret
  exact ⟨rfl, rfl⟩

set_option maxRecDepth 10000 in
set_option maxHeartbeats 400000 in
theorem bytes_2 (n a : Nat) (has : Bool) (w : World) (hn : n < 18446744073709551616) (ha : a < 18446744073709551616) (h0 : 128 ≤ openN n a has) (h : openN n a has < 32768) :
    Calls Try.prog 7 #[.int .u64 (n : Int), .int .u64 (a : Int), .bool has] w fun e w' => e = .returned (.int .i64 2) ∧ w = w' := by
  go_enter Try.func7, Try.ntmps7
  go_wp2_with first
    | (go_at_call 13; refine (unacked_any n a has _ hn ha).mono ?_; rintro e w1 ⟨rfl, rfl⟩; generalize hx : ((openN n a has : Nat) : Int) = x at *)
  refine wp_loop_rounds 2 ?_
  rw [rounds_succ]
  go_wp2_with first
    | (go_at_call 14; refine (told_1 _).mono ?_; rintro e w1 ⟨rfl, rfl⟩)
  rw [rounds_succ]
  go_wp2_with first
    | (go_at_call 14; refine (told_2 _).mono ?_; rintro e w1 ⟨rfl, rfl⟩)
  go_ret
  exact ⟨rfl, rfl⟩

set_option maxRecDepth 10000 in
set_option maxHeartbeats 400000 in
theorem bytes_3 (n a : Nat) (has : Bool) (w : World) (hn : n < 18446744073709551616) (ha : a < 18446744073709551616) (h0 : 32768 ≤ openN n a has) (h : openN n a has < 8388608) :
    Calls Try.prog 7 #[.int .u64 (n : Int), .int .u64 (a : Int), .bool has] w fun e w' => e = .returned (.int .i64 3) ∧ w = w' := by
  go_enter Try.func7, Try.ntmps7
  go_wp2_with first
    | (go_at_call 13; refine (unacked_any n a has _ hn ha).mono ?_; rintro e w1 ⟨rfl, rfl⟩; generalize hx : ((openN n a has : Nat) : Int) = x at *)
  refine wp_loop_rounds 3 ?_
  rw [rounds_succ]
  go_wp2_with first
    | (go_at_call 14; refine (told_1 _).mono ?_; rintro e w1 ⟨rfl, rfl⟩)
  rw [rounds_succ]
  go_wp2_with first
    | (go_at_call 14; refine (told_2 _).mono ?_; rintro e w1 ⟨rfl, rfl⟩)
  rw [rounds_succ]
  go_wp2_with first
    | (go_at_call 14; refine (told_3 _).mono ?_; rintro e w1 ⟨rfl, rfl⟩)
  go_ret
  exact ⟨rfl, rfl⟩

set_option maxRecDepth 10000 in
set_option maxHeartbeats 400000 in
theorem bytes_4 (n a : Nat) (has : Bool) (w : World) (hn : n < 18446744073709551616) (ha : a < 18446744073709551616) (h0 : 8388608 ≤ openN n a has) :
    Calls Try.prog 7 #[.int .u64 (n : Int), .int .u64 (a : Int), .bool has] w fun e w' => e = .returned (.int .i64 4) ∧ w = w' := by
  go_enter Try.func7, Try.ntmps7
  go_wp2_with first
    | (go_at_call 13; refine (unacked_any n a has _ hn ha).mono ?_; rintro e w1 ⟨rfl, rfl⟩; generalize hx : ((openN n a has : Nat) : Int) = x at *)
  refine wp_loop_rounds 4 ?_
  rw [rounds_succ]
  go_wp2_with first
    | (go_at_call 14; refine (told_1 _).mono ?_; rintro e w1 ⟨rfl, rfl⟩)
  rw [rounds_succ]
  go_wp2_with first
    | (go_at_call 14; refine (told_2 _).mono ?_; rintro e w1 ⟨rfl, rfl⟩)
  rw [rounds_succ]
  go_wp2_with first
    | (go_at_call 14; refine (told_3 _).mono ?_; rintro e w1 ⟨rfl, rfl⟩)
  rw [rounds_succ]
  go_wp2
  go_ret
  exact ⟨rfl, rfl⟩

end Go.Proofs.Ytmffnfamdioaiaa
