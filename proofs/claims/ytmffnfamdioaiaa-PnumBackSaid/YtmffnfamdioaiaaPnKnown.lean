/-
  pnum.Expand and the document's own Expand at one to four bytes; the chapter's examples.
-/
import Derived.Test.YtmffnfamdioaiaaPnBoth
namespace Go.Proofs.Ytmffnfamdioaiaa
open Go.RowKit
set_option linter.unusedVariables false

theorem expand_1 (m t : Nat) (w : World) :
    Calls Try.prog 11 #[.int .u64 (m : Int), .int .u64 (t : Int), .int .i64 1] w fun e w' => e = .returned (.int .u64 ((expN m t 256 : Nat) : Int)) ∧ Below w.heap.size w w' :=
  expand_w 1 256 m t w (by decide) (by decide) (by omega) mayBe_1 told_1

theorem rexpand_1 (m t : Nat) (w : World) :
    Calls Try.prog 12 #[.int .u64 (m : Int), .int .u64 (t : Int), .int .i64 1] w fun e w' => e = .returned (.int .u64 ((expN m t 256 : Nat) : Int)) ∧ w = w' :=
  rexpand_w 1 256 m t w (by decide) (by decide) (by decide) (by decide) (by omega) window_1

theorem expand_2 (m t : Nat) (w : World) :
    Calls Try.prog 11 #[.int .u64 (m : Int), .int .u64 (t : Int), .int .i64 2] w fun e w' => e = .returned (.int .u64 ((expN m t 65536 : Nat) : Int)) ∧ Below w.heap.size w w' :=
  expand_w 2 65536 m t w (by decide) (by decide) (by omega) mayBe_2 told_2

theorem rexpand_2 (m t : Nat) (w : World) :
    Calls Try.prog 12 #[.int .u64 (m : Int), .int .u64 (t : Int), .int .i64 2] w fun e w' => e = .returned (.int .u64 ((expN m t 65536 : Nat) : Int)) ∧ w = w' :=
  rexpand_w 2 65536 m t w (by decide) (by decide) (by decide) (by decide) (by omega) window_2

theorem expand_3 (m t : Nat) (w : World) :
    Calls Try.prog 11 #[.int .u64 (m : Int), .int .u64 (t : Int), .int .i64 3] w fun e w' => e = .returned (.int .u64 ((expN m t 16777216 : Nat) : Int)) ∧ Below w.heap.size w w' :=
  expand_w 3 16777216 m t w (by decide) (by decide) (by omega) mayBe_3 told_3

theorem rexpand_3 (m t : Nat) (w : World) :
    Calls Try.prog 12 #[.int .u64 (m : Int), .int .u64 (t : Int), .int .i64 3] w fun e w' => e = .returned (.int .u64 ((expN m t 16777216 : Nat) : Int)) ∧ w = w' :=
  rexpand_w 3 16777216 m t w (by decide) (by decide) (by decide) (by decide) (by omega) window_3

theorem expand_4 (m t : Nat) (w : World) :
    Calls Try.prog 11 #[.int .u64 (m : Int), .int .u64 (t : Int), .int .i64 4] w fun e w' => e = .returned (.int .u64 ((expN m t 4294967296 : Nat) : Int)) ∧ Below w.heap.size w w' :=
  expand_w 4 4294967296 m t w (by decide) (by decide) (by omega) mayBe_4 told_4

theorem rexpand_4 (m t : Nat) (w : World) :
    Calls Try.prog 12 #[.int .u64 (m : Int), .int .u64 (t : Int), .int .i64 4] w fun e w' => e = .returned (.int .u64 ((expN m t 4294967296 : Nat) : Int)) ∧ w = w' :=
  rexpand_w 4 4294967296 m t w (by decide) (by decide) (by decide) (by decide) (by omega) window_4

theorem exa_1 (w : World) : Calls Try.prog 7 #[.int .u64 11295746, .int .u64 11266227, .bool true] w fun e w' => e = .returned (.int .i64 2) ∧ w = w' :=
  bytes_2 11295746 11266227 true w (by decide) (by decide) (by decide) (by decide)
theorem exa_2 (w : World) : Calls Try.prog 7 #[.int .u64 11331838, .int .u64 11266227, .bool true] w fun e w' => e = .returned (.int .i64 3) ∧ w = w' :=
  bytes_3 11331838 11266227 true w (by decide) (by decide) (by decide) (by decide)
theorem exa_3 (w : World) : Calls Try.prog 9 #[.int .u64 11295746, .int .i64 2] w fun e w' => e = .returned (.int .u64 23554) ∧ w = w' :=
  trunc_2 11295746 w
theorem exa_4 (w : World) : Calls Try.prog 11 #[.int .u64 2821665003, .int .u64 39730, .int .i64 2] w fun e w' => e = .returned (.int .u64 2821692210) ∧ Below w.heap.size w w' := by
  have h := expand_2 2821665003 39730 w
  rw [show expN 2821665003 39730 65536 = 2821692210 by decide] at h
  exact h
theorem exa_5 (w : World) : Calls Try.prog 7 #[.int .u64 0, .int .u64 0, .bool false] w fun e w' => e = .returned (.int .i64 1) ∧ w = w' :=
  bytes_1 0 0 false w (by decide) (by decide) (by decide)
theorem exa_6 (w : World) : Calls Try.prog 7 #[.int .u64 127, .int .u64 0, .bool false] w fun e w' => e = .returned (.int .i64 2) ∧ w = w' :=
  bytes_2 127 0 false w (by decide) (by decide) (by decide) (by decide)
theorem exa_7 (w : World) : Calls Try.prog 11 #[.int .u64 0, .int .u64 255, .int .i64 1] w fun e w' => e = .returned (.int .u64 255) ∧ Below w.heap.size w w' := by
  have h := expand_1 0 255 w
  rw [show expN 0 255 256 = 255 by decide] at h
  exact h
theorem exa_8 (w : World) : Calls Try.prog 11 #[.int .u64 300, .int .u64 40, .int .i64 1] w fun e w' => e = .returned (.int .u64 296) ∧ Below w.heap.size w w' := by
  have h := expand_1 300 40 w
  rw [show expN 300 40 256 = 296 by decide] at h
  exact h
theorem exa_9 (w : World) : Calls Try.prog 9 #[.int .u64 5, .int .i64 0] w fun e w' => e = .returned (.int .u64 0) ∧ w = w' :=
  trunc_no 5 0 w (.inl (by decide))

set_option maxRecDepth 10000 in
set_option maxHeartbeats 800000 in
theorem known_any (w : World) : Calls Try.prog 6 #[] w fun e w' => e = .returned (.bool true) ∧ Below w.heap.size w w' := by
  go_enter Try.func6, Try.ntmps6
  go_wp2_with fail
  refine (exa_1 _).mono ?_
  rintro e w1 ⟨rfl, rfl⟩
  go_wp2_with fail
  refine (exa_2 _).mono ?_
  rintro e w1 ⟨rfl, rfl⟩
  go_wp2_with fail
  refine (exa_3 _).mono ?_
  rintro e w1 ⟨rfl, rfl⟩
  go_wp2_with fail
  refine (exa_4 _).mono ?_
  rintro e w1 ⟨rfl, hb1⟩
  go_wp2_with fail
  refine (exa_5 _).mono ?_
  rintro e w1' ⟨rfl, rfl⟩
  go_wp2_with fail
  refine (exa_6 _).mono ?_
  rintro e w1' ⟨rfl, rfl⟩
  go_wp2_with fail
  refine (exa_7 _).mono ?_
  rintro e w2 ⟨rfl, hb2⟩
  go_wp2_with fail
  refine (exa_8 _).mono ?_
  rintro e w3 ⟨rfl, hb3⟩
  go_wp2_with fail
  refine (exa_9 _).mono ?_
  rintro e w3' ⟨rfl, rfl⟩
  go_wp2
  go_ret
  exact ⟨rfl, hb1.trans ((hb2.mono hb1.size).trans (hb3.mono (Nat.le_trans hb1.size hb2.size)))⟩

end Go.Proofs.Ytmffnfamdioaiaa
