/-
  The walks through the document's own Expand, a way each.
-/
import Derived.Test.YtmffnfamdioaiaaPnRef
namespace Go.Proofs.Ytmffnfamdioaiaa
open Go.RowKit
set_option linter.unusedVariables false

set_option maxRecDepth 10000 in
set_option maxHeartbeats 800000 in
theorem rexp_mA1 (b W m t q0 q r s : Int) (w : World) (hb : 1 ≤ b) (hb4 : b ≤ 4) (hW0 : W ≠ 0) (hm : m ≤ 4611686018427387903) (hwin : ∀ w, Calls Try.prog 15 #[.int .i64 b] w fun e w' => e = .returned (.int .u64 W) ∧ w = w') (hr : t.tmod W = r) (hq0 : IntKind.u64.wrap (m.tdiv W) = q0) (hq : IntKind.u64.wrap (q0 * W) = q) (hs : IntKind.u64.wrap (q + r) = s) (h : s ≤ m) (hi : Int) (hhi : IntKind.u64.wrap (s + W) = hi) (h1 : 4611686018427387903 < hi) :
    Calls Try.prog 12 #[.int .u64 m, .int .u64 t, .int .i64 b] w fun e w' => e = .returned (.int .u64 s) ∧ w = w' := by
  go_enter Try.func12, Try.ntmps12
  go_wp2_with (go_at_call 15; refine (hwin _).mono ?_; rintro e w1 ⟨rfl, rfl⟩)
  go_ret
  exact ⟨rfl, rfl⟩

set_option maxRecDepth 10000 in
set_option maxHeartbeats 800000 in
theorem rexp_mA2 (b W m t q0 q r s : Int) (w : World) (hb : 1 ≤ b) (hb4 : b ≤ 4) (hW0 : W ≠ 0) (hm : m ≤ 4611686018427387903) (hwin : ∀ w, Calls Try.prog 15 #[.int .i64 b] w fun e w' => e = .returned (.int .u64 W) ∧ w = w') (hr : t.tmod W = r) (hq0 : IntKind.u64.wrap (m.tdiv W) = q0) (hq : IntKind.u64.wrap (q0 * W) = q) (hs : IntKind.u64.wrap (q + r) = s) (h : s ≤ m) (hi d1 d2 : Int) (hhi : IntKind.u64.wrap (s + W) = hi) (h1 : hi ≤ 4611686018427387903) (hd1 : IntKind.u64.wrap (m - s) = d1) (hd2 : IntKind.u64.wrap (hi - m) = d2) (h2 : d1 < d2) :
    Calls Try.prog 12 #[.int .u64 m, .int .u64 t, .int .i64 b] w fun e w' => e = .returned (.int .u64 s) ∧ w = w' := by
  go_enter Try.func12, Try.ntmps12
  go_wp2_with (go_at_call 15; refine (hwin _).mono ?_; rintro e w1 ⟨rfl, rfl⟩)
  go_ret
  exact ⟨rfl, rfl⟩

set_option maxRecDepth 10000 in
set_option maxHeartbeats 800000 in
theorem rexp_mA3 (b W m t q0 q r s : Int) (w : World) (hb : 1 ≤ b) (hb4 : b ≤ 4) (hW0 : W ≠ 0) (hm : m ≤ 4611686018427387903) (hwin : ∀ w, Calls Try.prog 15 #[.int .i64 b] w fun e w' => e = .returned (.int .u64 W) ∧ w = w') (hr : t.tmod W = r) (hq0 : IntKind.u64.wrap (m.tdiv W) = q0) (hq : IntKind.u64.wrap (q0 * W) = q) (hs : IntKind.u64.wrap (q + r) = s) (h : s ≤ m) (hi d1 d2 : Int) (hhi : IntKind.u64.wrap (s + W) = hi) (h1 : hi ≤ 4611686018427387903) (hd1 : IntKind.u64.wrap (m - s) = d1) (hd2 : IntKind.u64.wrap (hi - m) = d2) (h2 : d2 ≤ d1) :
    Calls Try.prog 12 #[.int .u64 m, .int .u64 t, .int .i64 b] w fun e w' => e = .returned (.int .u64 hi) ∧ w = w' := by
  go_enter Try.func12, Try.ntmps12
  go_wp2_with (go_at_call 15; refine (hwin _).mono ?_; rintro e w1 ⟨rfl, rfl⟩)
  go_ret
  exact ⟨rfl, rfl⟩

set_option maxRecDepth 10000 in
set_option maxHeartbeats 800000 in
theorem rexp_mB0 (b W m t q0 q r s : Int) (w : World) (hb : 1 ≤ b) (hb4 : b ≤ 4) (hW0 : W ≠ 0) (hm : m ≤ 4611686018427387903) (hwin : ∀ w, Calls Try.prog 15 #[.int .i64 b] w fun e w' => e = .returned (.int .u64 W) ∧ w = w') (hr : t.tmod W = r) (hq0 : IntKind.u64.wrap (m.tdiv W) = q0) (hq : IntKind.u64.wrap (q0 * W) = q) (hs : IntKind.u64.wrap (q + r) = s) (h : m < s) (h0 : s < W) :
    Calls Try.prog 12 #[.int .u64 m, .int .u64 t, .int .i64 b] w fun e w' => e = .returned (.int .u64 r) ∧ w = w' := by
  have hd : decide (W ≤ s) = false := decide_eq_false (by omega)
  go_enter Try.func12, Try.ntmps12
  go_wp2_with (go_at_call 15; refine (hwin _).mono ?_; rintro e w1 ⟨rfl, rfl⟩)
  go_ret
  exact ⟨rfl, rfl⟩

set_option maxRecDepth 10000 in
set_option maxHeartbeats 800000 in
theorem rexp_mB1 (b W m t q0 q r s : Int) (w : World) (hb : 1 ≤ b) (hb4 : b ≤ 4) (hW0 : W ≠ 0) (hm : m ≤ 4611686018427387903) (hwin : ∀ w, Calls Try.prog 15 #[.int .i64 b] w fun e w' => e = .returned (.int .u64 W) ∧ w = w') (hr : t.tmod W = r) (hq0 : IntKind.u64.wrap (m.tdiv W) = q0) (hq : IntKind.u64.wrap (q0 * W) = q) (hs : IntKind.u64.wrap (q + r) = s) (h : m < s) (h0 : W ≤ s) (lo hi d1 d2 : Int) (hlo : IntKind.u64.wrap (s - W) = lo) (hhi : IntKind.u64.wrap (lo + W) = hi) (h1 : hi ≤ 4611686018427387903) (hd1 : IntKind.u64.wrap (m - lo) = d1) (hd2 : IntKind.u64.wrap (hi - m) = d2) (h2 : d1 < d2) :
    Calls Try.prog 12 #[.int .u64 m, .int .u64 t, .int .i64 b] w fun e w' => e = .returned (.int .u64 lo) ∧ w = w' := by
  go_enter Try.func12, Try.ntmps12
  go_wp2_with (go_at_call 15; refine (hwin _).mono ?_; rintro e w1 ⟨rfl, rfl⟩)
  go_ret
  exact ⟨rfl, rfl⟩

set_option maxRecDepth 10000 in
set_option maxHeartbeats 800000 in
theorem rexp_mB2 (b W m t q0 q r s : Int) (w : World) (hb : 1 ≤ b) (hb4 : b ≤ 4) (hW0 : W ≠ 0) (hm : m ≤ 4611686018427387903) (hwin : ∀ w, Calls Try.prog 15 #[.int .i64 b] w fun e w' => e = .returned (.int .u64 W) ∧ w = w') (hr : t.tmod W = r) (hq0 : IntKind.u64.wrap (m.tdiv W) = q0) (hq : IntKind.u64.wrap (q0 * W) = q) (hs : IntKind.u64.wrap (q + r) = s) (h : m < s) (h0 : W ≤ s) (lo hi d1 d2 : Int) (hlo : IntKind.u64.wrap (s - W) = lo) (hhi : IntKind.u64.wrap (lo + W) = hi) (h1 : hi ≤ 4611686018427387903) (hd1 : IntKind.u64.wrap (m - lo) = d1) (hd2 : IntKind.u64.wrap (hi - m) = d2) (h2 : d2 ≤ d1) :
    Calls Try.prog 12 #[.int .u64 m, .int .u64 t, .int .i64 b] w fun e w' => e = .returned (.int .u64 hi) ∧ w = w' := by
  go_enter Try.func12, Try.ntmps12
  go_wp2_with (go_at_call 15; refine (hwin _).mono ?_; rintro e w1 ⟨rfl, rfl⟩)
  go_ret
  exact ⟨rfl, rfl⟩

set_option maxRecDepth 10000 in
set_option maxHeartbeats 800000 in
theorem rexp_kA1 (b W m t q0 q r s : Int) (w : World) (hb : 1 ≤ b) (hb4 : b ≤ 4) (hW0 : W ≠ 0) (hm : 4611686018427387903 < m) (hwin : ∀ w, Calls Try.prog 15 #[.int .i64 b] w fun e w' => e = .returned (.int .u64 W) ∧ w = w') (hr : t.tmod W = r) (hq0 : IntKind.u64.wrap ((4611686018427387903 : Int).tdiv W) = q0) (hq : IntKind.u64.wrap (q0 * W) = q) (hs : IntKind.u64.wrap (q + r) = s) (h : s ≤ (4611686018427387903 : Int)) (hi : Int) (hhi : IntKind.u64.wrap (s + W) = hi) (h1 : 4611686018427387903 < hi) :
    Calls Try.prog 12 #[.int .u64 m, .int .u64 t, .int .i64 b] w fun e w' => e = .returned (.int .u64 s) ∧ w = w' := by
  go_enter Try.func12, Try.ntmps12
  go_wp2_with (go_at_call 15; refine (hwin _).mono ?_; rintro e w1 ⟨rfl, rfl⟩)
  go_ret
  exact ⟨rfl, rfl⟩

set_option maxRecDepth 10000 in
set_option maxHeartbeats 800000 in
theorem rexp_kA2 (b W m t q0 q r s : Int) (w : World) (hb : 1 ≤ b) (hb4 : b ≤ 4) (hW0 : W ≠ 0) (hm : 4611686018427387903 < m) (hwin : ∀ w, Calls Try.prog 15 #[.int .i64 b] w fun e w' => e = .returned (.int .u64 W) ∧ w = w') (hr : t.tmod W = r) (hq0 : IntKind.u64.wrap ((4611686018427387903 : Int).tdiv W) = q0) (hq : IntKind.u64.wrap (q0 * W) = q) (hs : IntKind.u64.wrap (q + r) = s) (h : s ≤ (4611686018427387903 : Int)) (hi d1 d2 : Int) (hhi : IntKind.u64.wrap (s + W) = hi) (h1 : hi ≤ 4611686018427387903) (hd1 : IntKind.u64.wrap ((4611686018427387903 : Int) - s) = d1) (hd2 : IntKind.u64.wrap (hi - (4611686018427387903 : Int)) = d2) (h2 : d1 < d2) :
    Calls Try.prog 12 #[.int .u64 m, .int .u64 t, .int .i64 b] w fun e w' => e = .returned (.int .u64 s) ∧ w = w' := by
  go_enter Try.func12, Try.ntmps12
  go_wp2_with (go_at_call 15; refine (hwin _).mono ?_; rintro e w1 ⟨rfl, rfl⟩)
  go_ret
  exact ⟨rfl, rfl⟩

set_option maxRecDepth 10000 in
set_option maxHeartbeats 800000 in
theorem rexp_kA3 (b W m t q0 q r s : Int) (w : World) (hb : 1 ≤ b) (hb4 : b ≤ 4) (hW0 : W ≠ 0) (hm : 4611686018427387903 < m) (hwin : ∀ w, Calls Try.prog 15 #[.int .i64 b] w fun e w' => e = .returned (.int .u64 W) ∧ w = w') (hr : t.tmod W = r) (hq0 : IntKind.u64.wrap ((4611686018427387903 : Int).tdiv W) = q0) (hq : IntKind.u64.wrap (q0 * W) = q) (hs : IntKind.u64.wrap (q + r) = s) (h : s ≤ (4611686018427387903 : Int)) (hi d1 d2 : Int) (hhi : IntKind.u64.wrap (s + W) = hi) (h1 : hi ≤ 4611686018427387903) (hd1 : IntKind.u64.wrap ((4611686018427387903 : Int) - s) = d1) (hd2 : IntKind.u64.wrap (hi - (4611686018427387903 : Int)) = d2) (h2 : d2 ≤ d1) :
    Calls Try.prog 12 #[.int .u64 m, .int .u64 t, .int .i64 b] w fun e w' => e = .returned (.int .u64 hi) ∧ w = w' := by
  go_enter Try.func12, Try.ntmps12
  go_wp2_with (go_at_call 15; refine (hwin _).mono ?_; rintro e w1 ⟨rfl, rfl⟩)
  go_ret
  exact ⟨rfl, rfl⟩

set_option maxRecDepth 10000 in
set_option maxHeartbeats 800000 in
theorem rexp_kB0 (b W m t q0 q r s : Int) (w : World) (hb : 1 ≤ b) (hb4 : b ≤ 4) (hW0 : W ≠ 0) (hm : 4611686018427387903 < m) (hwin : ∀ w, Calls Try.prog 15 #[.int .i64 b] w fun e w' => e = .returned (.int .u64 W) ∧ w = w') (hr : t.tmod W = r) (hq0 : IntKind.u64.wrap ((4611686018427387903 : Int).tdiv W) = q0) (hq : IntKind.u64.wrap (q0 * W) = q) (hs : IntKind.u64.wrap (q + r) = s) (h : (4611686018427387903 : Int) < s) (h0 : s < W) :
    Calls Try.prog 12 #[.int .u64 m, .int .u64 t, .int .i64 b] w fun e w' => e = .returned (.int .u64 r) ∧ w = w' := by
  have hd : decide (W ≤ s) = false := decide_eq_false (by omega)
  go_enter Try.func12, Try.ntmps12
  go_wp2_with (go_at_call 15; refine (hwin _).mono ?_; rintro e w1 ⟨rfl, rfl⟩)
  go_ret
  exact ⟨rfl, rfl⟩

set_option maxRecDepth 10000 in
set_option maxHeartbeats 800000 in
theorem rexp_kB1 (b W m t q0 q r s : Int) (w : World) (hb : 1 ≤ b) (hb4 : b ≤ 4) (hW0 : W ≠ 0) (hm : 4611686018427387903 < m) (hwin : ∀ w, Calls Try.prog 15 #[.int .i64 b] w fun e w' => e = .returned (.int .u64 W) ∧ w = w') (hr : t.tmod W = r) (hq0 : IntKind.u64.wrap ((4611686018427387903 : Int).tdiv W) = q0) (hq : IntKind.u64.wrap (q0 * W) = q) (hs : IntKind.u64.wrap (q + r) = s) (h : (4611686018427387903 : Int) < s) (h0 : W ≤ s) (lo hi d1 d2 : Int) (hlo : IntKind.u64.wrap (s - W) = lo) (hhi : IntKind.u64.wrap (lo + W) = hi) (h1 : hi ≤ 4611686018427387903) (hd1 : IntKind.u64.wrap ((4611686018427387903 : Int) - lo) = d1) (hd2 : IntKind.u64.wrap (hi - (4611686018427387903 : Int)) = d2) (h2 : d1 < d2) :
    Calls Try.prog 12 #[.int .u64 m, .int .u64 t, .int .i64 b] w fun e w' => e = .returned (.int .u64 lo) ∧ w = w' := by
  go_enter Try.func12, Try.ntmps12
  go_wp2_with (go_at_call 15; refine (hwin _).mono ?_; rintro e w1 ⟨rfl, rfl⟩)
  go_ret
  exact ⟨rfl, rfl⟩

set_option maxRecDepth 10000 in
set_option maxHeartbeats 800000 in
theorem rexp_kB2 (b W m t q0 q r s : Int) (w : World) (hb : 1 ≤ b) (hb4 : b ≤ 4) (hW0 : W ≠ 0) (hm : 4611686018427387903 < m) (hwin : ∀ w, Calls Try.prog 15 #[.int .i64 b] w fun e w' => e = .returned (.int .u64 W) ∧ w = w') (hr : t.tmod W = r) (hq0 : IntKind.u64.wrap ((4611686018427387903 : Int).tdiv W) = q0) (hq : IntKind.u64.wrap (q0 * W) = q) (hs : IntKind.u64.wrap (q + r) = s) (h : (4611686018427387903 : Int) < s) (h0 : W ≤ s) (lo hi d1 d2 : Int) (hlo : IntKind.u64.wrap (s - W) = lo) (hhi : IntKind.u64.wrap (lo + W) = hi) (h1 : hi ≤ 4611686018427387903) (hd1 : IntKind.u64.wrap ((4611686018427387903 : Int) - lo) = d1) (hd2 : IntKind.u64.wrap (hi - (4611686018427387903 : Int)) = d2) (h2 : d2 ≤ d1) :
    Calls Try.prog 12 #[.int .u64 m, .int .u64 t, .int .i64 b] w fun e w' => e = .returned (.int .u64 hi) ∧ w = w' := by
  go_enter Try.func12, Try.ntmps12
  go_wp2_with (go_at_call 15; refine (hwin _).mono ?_; rintro e w1 ⟨rfl, rfl⟩)
  go_ret
  exact ⟨rfl, rfl⟩

end Go.Proofs.Ytmffnfamdioaiaa
