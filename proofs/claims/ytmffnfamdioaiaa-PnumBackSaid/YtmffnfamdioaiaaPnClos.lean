/-
  The walks through pnum's closures, cmp.Compare and the loops of slices.IndexFunc over three numbers.
-/
import Derived.Deep.QuietTactic
import Derived.Deep.RegionWith
import Derived.Test.YtmffnfamdioaiaaPnPlain
namespace Go.Proofs.Ytmffnfamdioaiaa
open Go.RowKit
set_option linter.unusedVariables false

/-- How far two numbers lie apart. -/
def farN (n x : Nat) : Nat := max n x - min n x

set_option maxRecDepth 10000 in
set_option maxHeartbeats 400000 in
theorem far_any (n x B : Nat) (w : World) (hn : n < 18446744073709551616) (hx : x < 18446744073709551616) (hB : w.cell? ⟨B, 0, none⟩ = some (.int .u64 (x : Int))) :
    Calls Try.prog 17 #[.int .u64 (n : Int), .pointer (some ⟨B, 0, none⟩)] w fun e w' => e = .returned (.int .u64 ((farN n x : Nat) : Int)) ∧ w = w' := by
  rcases Nat.lt_trichotomy n x with h | h | h
  · have hw : IntKind.u64.wrap ((x : Int) - (n : Int)) = (x : Int) - n := by rw [IntKind.wrap_u64]; omega
    have ho := Lib.hid (show farN n x = x - n by unfold farN; omega)
    go_enter Try.func17, Try.ntmps17
    go_wp2
    go_ret
    exact ⟨by rw [ho.out]; simp; omega, rfl⟩
  · subst h
    have ho := Lib.hid (show farN n n = 0 by simp [farN])
    go_enter Try.func17, Try.ntmps17
    go_wp2
    go_ret
    exact ⟨by rw [ho.out]; rfl, rfl⟩
  · have hw : IntKind.u64.wrap ((n : Int) - (x : Int)) = (n : Int) - x := by rw [IntKind.wrap_u64]; omega
    have ho := Lib.hid (show farN n x = n - x by unfold farN; omega)
    go_enter Try.func17, Try.ntmps17
    go_wp2
    go_ret
    exact ⟨by rw [ho.out]; simp; omega, rfl⟩

theorem isNaN_any (n : Int) (w : World) :
    Calls Try.prog 24 #[.int .u64 n] w fun e w' => e = .returned (.bool false) ∧ w = w' := by
  go_enter Try.func24, Try.ntmps24
  go_wp2
  go_ret
  exact ⟨by simp, rfl⟩

/-- What a comparison answers. -/
def cmpN (a b : Nat) : Int := if a < b then -1 else if b < a then 1 else 0

set_option maxRecDepth 10000 in
set_option maxHeartbeats 400000 in
theorem cmp_any (a b : Nat) (w : World) :
    Calls Try.prog 21 #[.int .u64 (a : Int), .int .u64 (b : Int)] w fun e w' => e = .returned (.int .i64 (cmpN a b)) ∧ w = w' := by
  by_cases h : a < b
  · have ho := Lib.hid (show cmpN a b = -1 by simp [cmpN, h])
    go_enter Try.func21, Try.ntmps21
    go_wp2_with (go_at_call 24; refine (isNaN_any _ _).mono ?_; rintro e w1 ⟨rfl, rfl⟩)
    go_ret
    exact ⟨by rw [ho.out]; rfl, rfl⟩
  · by_cases h2 : b < a
    · have ho := Lib.hid (show cmpN a b = 1 by simp [cmpN, h, h2])
      go_enter Try.func21, Try.ntmps21
      go_wp2_with (go_at_call 24; refine (isNaN_any _ _).mono ?_; rintro e w1 ⟨rfl, rfl⟩)
      go_ret
      exact ⟨by rw [ho.out]; rfl, rfl⟩
    · have ho := Lib.hid (show cmpN a b = 0 by simp [cmpN, h, h2])
      go_enter Try.func21, Try.ntmps21
      go_wp2_with (go_at_call 24; refine (isNaN_any _ _).mono ?_; rintro e w1 ⟨rfl, rfl⟩)
      go_ret
      exact ⟨by rw [ho.out]; rfl, rfl⟩

set_option maxRecDepth 10000 in
set_option maxHeartbeats 400000 in
theorem isAbove_any (x : Int) (w : World) :
    Calls Try.prog 23 #[.int .u64 x] w fun e w' => e = .returned (.bool (decide (4611686018427387903 < x))) ∧ w = w' := by
  go_enter Try.func23, Try.ntmps23
  go_wp2
  go_ret
  exact ⟨rfl, rfl⟩

theorem isAbove_yes (x : Int) (w : World) (h : 4611686018427387903 < x) :
    Calls Try.prog 23 #[.int .u64 x] w fun e w' => e = .returned (.bool true) ∧ w = w' := by
  have := isAbove_any x w
  rwa [decide_eq_true h] at this

theorem isAbove_no (x : Int) (w : World) (h : x ≤ 4611686018427387903) :
    Calls Try.prog 23 #[.int .u64 x] w fun e w' => e = .returned (.bool false) ∧ w = w' := by
  have := isAbove_any x w
  rwa [decide_eq_false (by omega)] at this

set_option maxRecDepth 10000 in
set_option maxHeartbeats 400000 in
theorem index_0 (b : Nat) (x0 x1 x2 : Int) (w : World) (h0 : w.cell? ⟨b, 0, none⟩ = some (.int .u64 x0)) (h1 : w.cell? ⟨b, 1, none⟩ = some (.int .u64 x1)) (h2 : w.cell? ⟨b, 2, none⟩ = some (.int .u64 x2)) (hx0 : 4611686018427387903 < x0) :
    Calls Try.prog 25 #[.slice (some ⟨b, 0, none⟩) 3 3, .func (.func 23) #[] #[]] w fun e w' => e = .returned (.int .i64 0) ∧ w = w' := by
  go_enter Try.func25, Try.ntmps25
  go_wp2_with fail
  refine wp_loop_rounds 1 ?_
  rw [rounds_succ]
  go_wp2_with (go_at_call 23; refine (isAbove_yes _ _ hx0).mono ?_; rintro e w1 ⟨rfl, rfl⟩)
  go_ret
  exact ⟨rfl, rfl⟩

set_option maxRecDepth 10000 in
set_option maxHeartbeats 400000 in
theorem index_2 (b : Nat) (x0 x1 x2 : Int) (w : World) (h0 : w.cell? ⟨b, 0, none⟩ = some (.int .u64 x0)) (h1 : w.cell? ⟨b, 1, none⟩ = some (.int .u64 x1)) (h2 : w.cell? ⟨b, 2, none⟩ = some (.int .u64 x2)) (hx0 : x0 ≤ 4611686018427387903) (hx1 : x1 ≤ 4611686018427387903) (hx2 : 4611686018427387903 < x2) :
    Calls Try.prog 25 #[.slice (some ⟨b, 0, none⟩) 3 3, .func (.func 23) #[] #[]] w fun e w' => e = .returned (.int .i64 2) ∧ w = w' := by
  go_enter Try.func25, Try.ntmps25
  go_wp2_with fail
  refine wp_loop_rounds 3 ?_
  rw [rounds_succ]
  go_wp2_with (go_at_call 23; refine (isAbove_no _ _ hx0).mono ?_; rintro e w1 ⟨rfl, rfl⟩)
  rw [rounds_succ]
  go_wp2_with (go_at_call 23; refine (isAbove_no _ _ hx1).mono ?_; rintro e w1 ⟨rfl, rfl⟩)
  rw [rounds_succ]
  go_wp2_with (go_at_call 23; refine (isAbove_yes _ _ hx2).mono ?_; rintro e w1 ⟨rfl, rfl⟩)
  go_ret
  exact ⟨rfl, rfl⟩

set_option maxRecDepth 10000 in
set_option maxHeartbeats 400000 in
theorem index_n (b : Nat) (x0 x1 x2 : Int) (w : World) (h0 : w.cell? ⟨b, 0, none⟩ = some (.int .u64 x0)) (h1 : w.cell? ⟨b, 1, none⟩ = some (.int .u64 x1)) (h2 : w.cell? ⟨b, 2, none⟩ = some (.int .u64 x2)) (hx0 : x0 ≤ 4611686018427387903) (hx1 : x1 ≤ 4611686018427387903) (hx2 : x2 ≤ 4611686018427387903) :
    Calls Try.prog 25 #[.slice (some ⟨b, 0, none⟩) 3 3, .func (.func 23) #[] #[]] w fun e w' => e = .returned (.int .i64 (-1)) ∧ w = w' := by
  go_enter Try.func25, Try.ntmps25
  go_wp2_with fail
  refine wp_loop_rounds 4 ?_
  rw [rounds_succ]
  go_wp2_with (go_at_call 23; refine (isAbove_no _ _ hx0).mono ?_; rintro e w1 ⟨rfl, rfl⟩)
  rw [rounds_succ]
  go_wp2_with (go_at_call 23; refine (isAbove_no _ _ hx1).mono ?_; rintro e w1 ⟨rfl, rfl⟩)
  rw [rounds_succ]
  go_wp2_with (go_at_call 23; refine (isAbove_no _ _ hx2).mono ?_; rintro e w1 ⟨rfl, rfl⟩)
  rw [rounds_succ]
  go_wp2_with fail
  go_ret
  exact ⟨rfl, rfl⟩

end Go.Proofs.Ytmffnfamdioaiaa
