/-
  The walks through span's small functions: empty, side, the closures that choose, the comparison of two ranges.
-/
import Derived.Test.YtaemfoelhijbjaaSpKit
import Derived.Sort.Grow
import Derived.Test.YtaemfoelhijbjaaChecked
namespace Go.Proofs.Ytaemfoelhijbjaa
open Go.RowKit
set_option linter.unusedVariables false

theorem empty_any (x y : Nat) (w : World) :
    Calls Try.prog 26 #[.agg #[.int .u64 (x : Int), .int .u64 (y : Int)]] w fun e w' => e = .returned (.bool (decide (y ≤ x))) ∧ ∃ q os', w' = Go.Sort.grow (w.drewN q) os' := by
  go_enter Try.func26, Try.ntmps26
  go_wp2
  go_ret
  exact ⟨by simp, 0, _, by rw [Go.Sort.alloc_eq_grow]; rfl⟩

/-- What side tells. -/
def sideS (x y n : Nat) : Int := if y ≤ n then -1 else if n < x then 1 else 0

theorem side_any (x y n : Nat) (w : World) :
    Calls Try.prog 23 #[.agg #[.int .u64 (x : Int), .int .u64 (y : Int)], .int .u64 (n : Int)] w fun e w' => e = .returned (.int .i64 (sideS x y n)) ∧ Below w.heap.size w w' := by
  by_cases h1 : y ≤ n
  · have ho := Lib.hid (show sideS x y n = -1 by simp [sideS, h1])
    have t1 : decide (y ≤ n) = true := decide_eq_true h1
    go_enter Try.func23, Try.ntmps23
    go_wp2
    go_ret
    exact ⟨by rw [ho.out]; rfl, (Below.refl _ _).alloc (Nat.le_refl _) _⟩
  · by_cases h2 : n < x
    · have ho := Lib.hid (show sideS x y n = 1 by simp [sideS, h1, h2])
      have t1 : decide (y ≤ n) = false := decide_eq_false h1
      have t2 : decide (n < x) = true := decide_eq_true h2
      go_enter Try.func23, Try.ntmps23
      go_wp2
      go_ret
      exact ⟨by rw [ho.out]; rfl, (Below.refl _ _).alloc (Nat.le_refl _) _⟩
    · have ho := Lib.hid (show sideS x y n = 0 by simp [sideS, h1, h2])
      have t1 : decide (y ≤ n) = false := decide_eq_false h1
      have t2 : decide (n < x) = false := decide_eq_false h2
      go_enter Try.func23, Try.ntmps23
      go_wp2
      go_ret
      exact ⟨by rw [ho.out]; rfl, (Below.refl _ _).alloc (Nat.le_refl _) _⟩

theorem addf_any (a b : Bool) (w : World) : Calls Try.prog 25 #[.bool a, .bool b] w fun e w' => e = .returned (.bool (a || b)) ∧ w = w' := by
  cases a <;> cases b <;>
  · go_enter Try.func25, Try.ntmps25
    go_wp2
    go_ret
    exact ⟨rfl, rfl⟩
theorem cutf_any (a b : Bool) (w : World) : Calls Try.prog 27 #[.bool a, .bool b] w fun e w' => e = .returned (.bool (a && !b)) ∧ w = w' := by
  cases a <;> cases b <;>
  · go_enter Try.func27, Try.ntmps27
    go_wp2
    go_ret
    exact ⟨rfl, rfl⟩

theorem isNaNS_any (n : Int) (w : World) :
    Calls Try.prog 38 #[.int .u64 n] w fun e w' => e = .returned (.bool false) ∧ w = w' := by
  go_enter Try.func38, Try.ntmps38
  go_wp2
  go_ret
  exact ⟨by simp, rfl⟩

/-- What a comparison answers. -/
def cmpS (a b : Nat) : Int := if a < b then -1 else if b < a then 1 else 0

theorem cmpS_any (a b : Nat) (w : World) :
    Calls Try.prog 32 #[.int .u64 (a : Int), .int .u64 (b : Int)] w fun e w' => e = .returned (.int .i64 (cmpS a b)) ∧ w = w' := by
  by_cases h : a < b
  · have ho := Lib.hid (show cmpS a b = -1 by simp [cmpS, h])
    go_enter Try.func32, Try.ntmps32
    go_wp2_with (go_at_call 38; refine (isNaNS_any _ _).mono ?_; rintro e w1 ⟨rfl, rfl⟩)
    go_ret
    exact ⟨by rw [ho.out]; rfl, rfl⟩
  · by_cases h2 : b < a
    · have ho := Lib.hid (show cmpS a b = 1 by simp [cmpS, h, h2])
      go_enter Try.func32, Try.ntmps32
      go_wp2_with (go_at_call 38; refine (isNaNS_any _ _).mono ?_; rintro e w1 ⟨rfl, rfl⟩)
      go_ret
      exact ⟨by rw [ho.out]; rfl, rfl⟩
    · have ho := Lib.hid (show cmpS a b = 0 by simp [cmpS, h, h2])
      have t1 : decide (a < b) = false := decide_eq_false h
      have t2 : decide (b < a) = false := decide_eq_false h2
      go_enter Try.func32, Try.ntmps32
      go_wp2_with (go_at_call 38; refine (isNaNS_any _ _).mono ?_; rintro e w1 ⟨rfl, rfl⟩)
      go_ret
      exact ⟨by rw [ho.out]; rfl, rfl⟩

/-- The comparison by which the ranges are sorted. -/
theorem byFrom_any (x y : Nat × Nat) (w : World) :
    Calls Try.prog 31 #[.agg #[.int .u64 (x.1 : Int), .int .u64 (x.2 : Int)], .agg #[.int .u64 (y.1 : Int), .int .u64 (y.2 : Int)]] w fun e w' => e = .returned (.int .i64 (cmpS x.1 y.1)) ∧ ∃ q os', w' = Go.Sort.grow (w.drewN q) os' := by
  have hcon := fun W' => cmpS_any x.1 y.1 W'
  generalize cmpS x.1 y.1 = r at hcon ⊢
  go_enter Try.func31, Try.ntmps31
  go_wp2_with (go_at_call 32; refine (hcon _).mono ?_; rintro e w' ⟨rfl, rfl⟩)
  go_ret
  exact ⟨rfl, 0, _, by rw [Go.Sort.alloc_eq_grow, Go.Sort.alloc_eq_grow, Go.Sort.grow_grow]; rfl⟩

theorem below_of_grow {w w' : World} (h : ∃ q os', w' = Go.Sort.grow (w.drewN q) os') : Below w.heap.size w w' := by
  obtain ⟨q, os, rfl⟩ := h
  have h1 := below_drewN (Below.refl w.heap.size w) q
  refine h1.trans ⟨rfl, rfl, rfl, by simp, fun k hk => ?_⟩
  exact Go.Sort.heap_grow_old _ _ (by simpa using hk)

end Go.Proofs.Ytaemfoelhijbjaa
