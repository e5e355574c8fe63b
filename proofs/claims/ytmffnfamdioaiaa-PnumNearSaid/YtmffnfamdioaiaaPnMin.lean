/-
  The walks through pnum.Expand's comparison and slices.MinFunc over one, two or three numbers.
-/
import Derived.Deep.QuietTactic
import Derived.Deep.RegionWith
import Derived.Test.YtmffnfamdioaiaaPnClos
namespace Go.Proofs.Ytmffnfamdioaiaa
open Go.RowKit
set_option linter.unusedVariables false

set_option maxRecDepth 10000 in
set_option maxHeartbeats 400000 in
theorem byFar_any (a b x B F : Nat) (w : World) (ha : a < 18446744073709551616) (hb : b < 18446744073709551616) (hx : x < 18446744073709551616) (hB : w.cell? ⟨B, 0, none⟩ = some (.int .u64 (x : Int)))
    (hF : w.cell? ⟨F, 0, none⟩ = some (.func (.func 17) #[] #[.pointer (some ⟨B, 0, none⟩)])) :
    Calls Try.prog 20 #[.int .u64 (a : Int), .int .u64 (b : Int), .pointer (some ⟨F, 0, none⟩)] w fun e w' => e = .returned (.int .i64 (cmpN (farN a x) (farN b x))) ∧ ∃ m, w' = w.drewN m := by
  go_enter Try.func20, Try.ntmps20
  go_wp2_with fail
  go_quiet (first
    | (go_at_call_of 17 (Value.int .u64 (a : Int)); refine Calls.quiet_of_same ((far_any a x B _ ha hx (by simpa using hB)).mono fun _ _ h => ⟨h.1, h.2.symm⟩))
    | (go_at_call_of 17 (Value.int .u64 (b : Int)); refine Calls.quiet_of_same ((far_any b x B _ hb hx (by simpa using hB)).mono fun _ _ h => ⟨h.1, h.2.symm⟩))
    | (go_at_call 21; refine Calls.quiet_of_same ((cmp_any _ _ _).mono fun _ _ h => ⟨h.1, h.2.symm⟩)))
  go_wp2
  go_ret
  exact ⟨rfl, _, rfl⟩


/-- The nearer one of two, the first if they are as near. -/
def pick (x a b : Nat) : Nat := if farN b x < farN a x then b else a

theorem pick_yes {x a b : Nat} (h : farN b x < farN a x) : pick x a b = b := if_pos h
theorem pick_no {x a b : Nat} (h : ¬ farN b x < farN a x) : pick x a b = a := if_neg h
theorem pick_lt {x a b : Nat} (ha : a < 18446744073709551616) (hb : b < 18446744073709551616) : pick x a b < 18446744073709551616 := by unfold pick; split <;> assumption
theorem cmpN_yes {a b : Nat} (h : a < b) : cmpN a b < 0 := by rw [cmpN, if_pos h]; decide
theorem cmpN_no {a b : Nat} (h : ¬ a < b) : 0 ≤ cmpN a b := by rw [cmpN, if_neg h]; split <;> decide

set_option maxRecDepth 10000 in
set_option maxHeartbeats 400000 in
theorem min_1 (x0 x b B F : Nat) (w : World) (k0 : x0 < 18446744073709551616) (hx : x < 18446744073709551616) (h0 : w.cell? ⟨b, 0, none⟩ = some (.int .u64 (x0 : Int))) (hB : w.cell? ⟨B, 0, none⟩ = some (.int .u64 (x : Int)))
    (hF : w.cell? ⟨F, 0, none⟩ = some (.func (.func 17) #[] #[.pointer (some ⟨B, 0, none⟩)])) :
    Calls Try.prog 18 #[.slice (some ⟨b, 0, none⟩) 1 3, .func (.func 20) #[] #[.pointer (some ⟨F, 0, none⟩)]] w fun e w' => e = .returned (.int .u64 ((x0 : Nat) : Int)) ∧ ∃ m, w' = w.drewN m := by
  go_enter Try.func18, Try.ntmps18
  go_wp2_with fail
  refine wp_loop_rounds 1 ?_
  rw [rounds_succ]
  go_wp2
  go_ret
  exact ⟨rfl, 0, rfl⟩

set_option maxRecDepth 10000 in
set_option maxHeartbeats 400000 in
theorem min_2 (x0 x1 x b B F : Nat) (w : World) (k0 : x0 < 18446744073709551616) (k1 : x1 < 18446744073709551616) (hx : x < 18446744073709551616) (h0 : w.cell? ⟨b, 0, none⟩ = some (.int .u64 (x0 : Int))) (h1 : w.cell? ⟨b, 1, none⟩ = some (.int .u64 (x1 : Int))) (hB : w.cell? ⟨B, 0, none⟩ = some (.int .u64 (x : Int)))
    (hF : w.cell? ⟨F, 0, none⟩ = some (.func (.func 17) #[] #[.pointer (some ⟨B, 0, none⟩)])) :
    Calls Try.prog 18 #[.slice (some ⟨b, 0, none⟩) 2 3, .func (.func 20) #[] #[.pointer (some ⟨F, 0, none⟩)]] w fun e w' => e = .returned (.int .u64 ((pick x x0 x1 : Nat) : Int)) ∧ ∃ m, w' = w.drewN m := by
  by_cases g1 : farN x1 x < farN x0 x
  · have c1h := cmpN_yes g1
    rw [pick_yes g1]
    go_enter Try.func18, Try.ntmps18
    go_wp2_with fail
    refine wp_loop_rounds 2 ?_
    rw [rounds_succ]
    go_wp2_with (go_at_call 20; refine (byFar_any x1 x0 x B F _ k1 k0 hx (by simpa using hB) (by simpa using hF)).mono ?_; rintro e w1 ⟨rfl, q, rfl⟩; generalize cmpN (farN x1 x) (farN x0 x) = c1 at c1h)
    rw [rounds_succ]
    go_wp2
    go_ret
    exact ⟨rfl, _, rfl⟩
  · have c1h := cmpN_no g1
    rw [pick_no g1]
    go_enter Try.func18, Try.ntmps18
    go_wp2_with fail
    refine wp_loop_rounds 2 ?_
    rw [rounds_succ]
    go_wp2_with (go_at_call 20; refine (byFar_any x1 x0 x B F _ k1 k0 hx (by simpa using hB) (by simpa using hF)).mono ?_; rintro e w1 ⟨rfl, q, rfl⟩; generalize cmpN (farN x1 x) (farN x0 x) = c1 at c1h)
    rw [rounds_succ]
    go_wp2
    go_ret
    exact ⟨rfl, _, rfl⟩

set_option maxRecDepth 10000 in
set_option maxHeartbeats 400000 in
theorem min_3 (x0 x1 x2 x b B F : Nat) (w : World) (k0 : x0 < 18446744073709551616) (k1 : x1 < 18446744073709551616) (k2 : x2 < 18446744073709551616) (hx : x < 18446744073709551616) (h0 : w.cell? ⟨b, 0, none⟩ = some (.int .u64 (x0 : Int))) (h1 : w.cell? ⟨b, 1, none⟩ = some (.int .u64 (x1 : Int))) (h2 : w.cell? ⟨b, 2, none⟩ = some (.int .u64 (x2 : Int))) (hB : w.cell? ⟨B, 0, none⟩ = some (.int .u64 (x : Int)))
    (hF : w.cell? ⟨F, 0, none⟩ = some (.func (.func 17) #[] #[.pointer (some ⟨B, 0, none⟩)])) :
    Calls Try.prog 18 #[.slice (some ⟨b, 0, none⟩) 3 3, .func (.func 20) #[] #[.pointer (some ⟨F, 0, none⟩)]] w fun e w' => e = .returned (.int .u64 ((pick x (pick x x0 x1) x2 : Nat) : Int)) ∧ ∃ m, w' = w.drewN m := by
  by_cases g1 : farN x1 x < farN x0 x
  · have c1h := cmpN_yes g1
    rw [pick_yes g1]
    by_cases g2 : farN x2 x < farN x1 x
    · have c2h := cmpN_yes g2
      rw [pick_yes g2]
      go_enter Try.func18, Try.ntmps18
      go_wp2_with fail
      refine wp_loop_rounds 3 ?_
      rw [rounds_succ]
      go_wp2_with (go_at_call 20; refine (byFar_any x1 x0 x B F _ k1 k0 hx (by simpa using hB) (by simpa using hF)).mono ?_; rintro e w1 ⟨rfl, q, rfl⟩; generalize cmpN (farN x1 x) (farN x0 x) = c1 at c1h)
      rw [rounds_succ]
      go_wp2_with (go_at_call 20; refine (byFar_any x2 x1 x B F _ k2 k1 hx (by simpa using hB) (by simpa using hF)).mono ?_; rintro e w1 ⟨rfl, q, rfl⟩; generalize cmpN (farN x2 x) (farN x1 x) = c2 at c2h)
      rw [rounds_succ]
      go_wp2
      go_ret
      exact ⟨rfl, _, rfl⟩
    · have c2h := cmpN_no g2
      rw [pick_no g2]
      go_enter Try.func18, Try.ntmps18
      go_wp2_with fail
      refine wp_loop_rounds 3 ?_
      rw [rounds_succ]
      go_wp2_with (go_at_call 20; refine (byFar_any x1 x0 x B F _ k1 k0 hx (by simpa using hB) (by simpa using hF)).mono ?_; rintro e w1 ⟨rfl, q, rfl⟩; generalize cmpN (farN x1 x) (farN x0 x) = c1 at c1h)
      rw [rounds_succ]
      go_wp2_with (go_at_call 20; refine (byFar_any x2 x1 x B F _ k2 k1 hx (by simpa using hB) (by simpa using hF)).mono ?_; rintro e w1 ⟨rfl, q, rfl⟩; generalize cmpN (farN x2 x) (farN x1 x) = c2 at c2h)
      rw [rounds_succ]
      go_wp2
      go_ret
      exact ⟨rfl, _, rfl⟩
  · have c1h := cmpN_no g1
    rw [pick_no g1]
    by_cases g2 : farN x2 x < farN x0 x
    · have c2h := cmpN_yes g2
      rw [pick_yes g2]
      go_enter Try.func18, Try.ntmps18
      go_wp2_with fail
      refine wp_loop_rounds 3 ?_
      rw [rounds_succ]
      go_wp2_with (go_at_call 20; refine (byFar_any x1 x0 x B F _ k1 k0 hx (by simpa using hB) (by simpa using hF)).mono ?_; rintro e w1 ⟨rfl, q, rfl⟩; generalize cmpN (farN x1 x) (farN x0 x) = c1 at c1h)
      rw [rounds_succ]
      go_wp2_with (go_at_call 20; refine (byFar_any x2 x0 x B F _ k2 k0 hx (by simpa using hB) (by simpa using hF)).mono ?_; rintro e w1 ⟨rfl, q, rfl⟩; generalize cmpN (farN x2 x) (farN x0 x) = c2 at c2h)
      rw [rounds_succ]
      go_wp2
      go_ret
      exact ⟨rfl, _, rfl⟩
    · have c2h := cmpN_no g2
      rw [pick_no g2]
      go_enter Try.func18, Try.ntmps18
      go_wp2_with fail
      refine wp_loop_rounds 3 ?_
      rw [rounds_succ]
      go_wp2_with (go_at_call 20; refine (byFar_any x1 x0 x B F _ k1 k0 hx (by simpa using hB) (by simpa using hF)).mono ?_; rintro e w1 ⟨rfl, q, rfl⟩; generalize cmpN (farN x1 x) (farN x0 x) = c1 at c1h)
      rw [rounds_succ]
      go_wp2_with (go_at_call 20; refine (byFar_any x2 x0 x B F _ k2 k0 hx (by simpa using hB) (by simpa using hF)).mono ?_; rintro e w1 ⟨rfl, q, rfl⟩; generalize cmpN (farN x2 x) (farN x0 x) = c2 at c2h)
      rw [rounds_succ]
      go_wp2
      go_ret
      exact ⟨rfl, _, rfl⟩

end Go.Proofs.Ytmffnfamdioaiaa
