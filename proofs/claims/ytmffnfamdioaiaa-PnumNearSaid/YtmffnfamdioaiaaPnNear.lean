/-
  The walk through the law PnumNear.
-/
import Derived.Test.YtmffnfamdioaiaaPnKnown
namespace Go.Proofs.Ytmffnfamdioaiaa
open Go.RowKit
set_option linter.unusedVariables false

/-- The nearest number's low bytes, and how near it is: 1 bytes. -/
theorem nearest_1 (m t : Nat) (hm : m ≤ 4611686018427387903) : expN m t 256 % 256 = t % 256 ∧ expN m t 256 ≤ 4611686018427387903 ∧
    ((m ≤ expN m t 256 ∧ expN m t 256 - m ≤ 128) ∨ (m ≤ expN m t 256 ∧ 128 < expN m t 256 - m ∧ expN m t 256 < 256) ∨ (expN m t 256 < m ∧ m - expN m t 256 < 128) ∨
      (expN m t 256 < m ∧ 128 ≤ m - expN m t 256 ∧ m - expN m t 256 ≤ 256 ∧ 4611686018427387903 < expN m t 256 + 256)) := by
  unfold expN
  rw [Nat.min_eq_left hm]
  obtain ⟨s, hs⟩ : ∃ s, s = m / 256 * 256 + t % 256 := ⟨_, rfl⟩
  rw [← hs]
  unfold expS
  by_cases h : s ≤ m
  · rw [if_pos h]
    by_cases g : 4611686018427387903 < s + 256 ∨ m - s < s + 256 - m
    · rw [if_pos g]; omega
    · rw [if_neg g]; omega
  · rw [if_neg h]
    by_cases g : 256 ≤ s
    · rw [if_pos g]
      by_cases k : m - (s - 256) < s - m
      · rw [if_pos k]; omega
      · rw [if_neg k]; omega
    · rw [if_neg g]; omega

set_option maxRecDepth 10000 in
set_option maxHeartbeats 800000 in
theorem near_1i (x t y r d : Int) (w : World) (hx : x ≤ 4611686018427387903) (hy : y ≤ 4611686018427387903) (hr1 : y.tmod 256 = r) (hr2 : t.tmod 256 = r)
    (HE : ∀ w, Calls Try.prog 11 #[.int .u64 x, .int .u64 t, .int .i64 1] w fun e w' => e = .returned (.int .u64 y) ∧ Below w.heap.size w w') (h : x ≤ y) (hd : IntKind.u64.wrap (y - x) = d) (h1 : d ≤ 128) :
    Calls Try.prog 5 #[.int .u64 x, .int .u64 t, .int .i64 1] w fun e w' => e = .returned (.bool true) ∧ Below w.heap.size w w' := by
  go_enter Try.func5, Try.ntmps5
  go_wp2_with fail
  refine (known_any _).mono ?_
  rintro e w1 ⟨rfl, hb1⟩
  have HB1 := Lib.hid hb1
  clear hb1
  go_wp2_with fail
  refine (HE _).mono ?_
  rintro e w2 ⟨rfl, hb2⟩
  have HB2 := Lib.hid (hb2.mono HB1.out.size)
  clear hb2
  go_wp2_with fail
  go_quiet (fail)
  go_wp2
  go_ret
  exact ⟨rfl, below_drawn (HB1.out.trans HB2.out) nq⟩

set_option maxRecDepth 10000 in
set_option maxHeartbeats 800000 in
theorem near_1ii (x t y r d : Int) (w : World) (hx : x ≤ 4611686018427387903) (hy : y ≤ 4611686018427387903) (hr1 : y.tmod 256 = r) (hr2 : t.tmod 256 = r)
    (HE : ∀ w, Calls Try.prog 11 #[.int .u64 x, .int .u64 t, .int .i64 1] w fun e w' => e = .returned (.int .u64 y) ∧ Below w.heap.size w w') (h : x ≤ y) (hd : IntKind.u64.wrap (y - x) = d) (h1 : 128 < d) (h2 : y < 256) :
    Calls Try.prog 5 #[.int .u64 x, .int .u64 t, .int .i64 1] w fun e w' => e = .returned (.bool true) ∧ Below w.heap.size w w' := by
  go_enter Try.func5, Try.ntmps5
  go_wp2_with fail
  refine (known_any _).mono ?_
  rintro e w1 ⟨rfl, hb1⟩
  have HB1 := Lib.hid hb1
  clear hb1
  go_wp2_with fail
  refine (HE _).mono ?_
  rintro e w2 ⟨rfl, hb2⟩
  have HB2 := Lib.hid (hb2.mono HB1.out.size)
  clear hb2
  go_wp2_with fail
  go_quiet (fail)
  go_wp2
  go_ret
  exact ⟨rfl, below_drawn (HB1.out.trans HB2.out) nq⟩

set_option maxRecDepth 10000 in
set_option maxHeartbeats 800000 in
theorem near_1iii (x t y r d : Int) (w : World) (hx : x ≤ 4611686018427387903) (hy : y ≤ 4611686018427387903) (hr1 : y.tmod 256 = r) (hr2 : t.tmod 256 = r)
    (HE : ∀ w, Calls Try.prog 11 #[.int .u64 x, .int .u64 t, .int .i64 1] w fun e w' => e = .returned (.int .u64 y) ∧ Below w.heap.size w w') (h : y < x) (hd : IntKind.u64.wrap (x - y) = d) (h1 : d < 128) :
    Calls Try.prog 5 #[.int .u64 x, .int .u64 t, .int .i64 1] w fun e w' => e = .returned (.bool true) ∧ Below w.heap.size w w' := by
  go_enter Try.func5, Try.ntmps5
  go_wp2_with fail
  refine (known_any _).mono ?_
  rintro e w1 ⟨rfl, hb1⟩
  have HB1 := Lib.hid hb1
  clear hb1
  go_wp2_with fail
  refine (HE _).mono ?_
  rintro e w2 ⟨rfl, hb2⟩
  have HB2 := Lib.hid (hb2.mono HB1.out.size)
  clear hb2
  go_wp2_with fail
  go_quiet (fail)
  go_wp2
  go_ret
  exact ⟨rfl, below_drawn (HB1.out.trans HB2.out) nq⟩

set_option maxRecDepth 10000 in
set_option maxHeartbeats 800000 in
theorem near_1iv (x t y r d : Int) (w : World) (hx : x ≤ 4611686018427387903) (hy : y ≤ 4611686018427387903) (hr1 : y.tmod 256 = r) (hr2 : t.tmod 256 = r)
    (HE : ∀ w, Calls Try.prog 11 #[.int .u64 x, .int .u64 t, .int .i64 1] w fun e w' => e = .returned (.int .u64 y) ∧ Below w.heap.size w w') (h : y < x) (hd : IntKind.u64.wrap (x - y) = d) (h1 : 128 ≤ d) (h2 : d ≤ 256) (u : Int) (hu : IntKind.u64.wrap (y + 256) = u) (h3 : 4611686018427387903 < u) :
    Calls Try.prog 5 #[.int .u64 x, .int .u64 t, .int .i64 1] w fun e w' => e = .returned (.bool true) ∧ Below w.heap.size w w' := by
  go_enter Try.func5, Try.ntmps5
  go_wp2_with fail
  refine (known_any _).mono ?_
  rintro e w1 ⟨rfl, hb1⟩
  have HB1 := Lib.hid hb1
  clear hb1
  go_wp2_with fail
  refine (HE _).mono ?_
  rintro e w2 ⟨rfl, hb2⟩
  have HB2 := Lib.hid (hb2.mono HB1.out.size)
  clear hb2
  go_wp2_with fail
  go_quiet (fail)
  go_wp2
  go_ret
  exact ⟨rfl, below_drawn (HB1.out.trans HB2.out) nq⟩

set_option maxRecDepth 10000 in
set_option maxHeartbeats 800000 in
theorem near_1far (x t : Int) (w : World) (hx : 4611686018427387903 < x) :
    Calls Try.prog 5 #[.int .u64 x, .int .u64 t, .int .i64 1] w fun e w' => e = .returned (.bool true) ∧ Below w.heap.size w w' := by
  go_enter Try.func5, Try.ntmps5
  go_wp2_with fail
  refine (known_any _).mono ?_
  rintro e w1 ⟨rfl, hb1⟩
  have HB1 := Lib.hid hb1
  clear hb1
  go_wp2
  go_ret
  exact ⟨rfl, HB1.out⟩

theorem near_1 (m t : Nat) (w : World) (hm : m < 18446744073709551616) :
    Calls Try.prog 5 #[.int .u64 (m : Int), .int .u64 (t : Int), .int .i64 1] w fun e w' => e = .returned (.bool true) ∧ Below w.heap.size w w' := by
  by_cases h : m ≤ 4611686018427387903
  · obtain ⟨hl, hv, hn⟩ := nearest_1 m t h
    have HE := expand_1 m t
    generalize expN m t 256 = v at *
    have hr1 : (v : Int).tmod 256 = ((v % 256 : Nat) : Int) := tmod_nat v 256
    have hr2 : (t : Int).tmod 256 = ((v % 256 : Nat) : Int) := by rw [hl]; exact tmod_nat t 256
    rcases hn with ⟨h1, h2⟩ | ⟨h1, h2, h3⟩ | ⟨h1, h2⟩ | ⟨h1, h2, h3, h4⟩
    · exact near_1i m t v _ ((v - m : Nat) : Int) w (by omega) (by omega) hr1 hr2 HE (by omega) (by rw [IntKind.wrap_u64]; omega) (by omega)
    · exact near_1ii m t v _ ((v - m : Nat) : Int) w (by omega) (by omega) hr1 hr2 HE (by omega) (by rw [IntKind.wrap_u64]; omega) (by omega) (by omega)
    · exact near_1iii m t v _ ((m - v : Nat) : Int) w (by omega) (by omega) hr1 hr2 HE (by omega) (by rw [IntKind.wrap_u64]; omega) (by omega)
    · exact near_1iv m t v _ ((m - v : Nat) : Int) w (by omega) (by omega) hr1 hr2 HE (by omega) (by rw [IntKind.wrap_u64]; omega) (by omega) (by omega) ((v + 256 : Nat) : Int) (by rw [IntKind.wrap_u64]; omega) (by omega)
  · exact near_1far m t w (by omega)

/-- The nearest number's low bytes, and how near it is: 2 bytes. -/
theorem nearest_2 (m t : Nat) (hm : m ≤ 4611686018427387903) : expN m t 65536 % 65536 = t % 65536 ∧ expN m t 65536 ≤ 4611686018427387903 ∧
    ((m ≤ expN m t 65536 ∧ expN m t 65536 - m ≤ 32768) ∨ (m ≤ expN m t 65536 ∧ 32768 < expN m t 65536 - m ∧ expN m t 65536 < 65536) ∨ (expN m t 65536 < m ∧ m - expN m t 65536 < 32768) ∨
      (expN m t 65536 < m ∧ 32768 ≤ m - expN m t 65536 ∧ m - expN m t 65536 ≤ 65536 ∧ 4611686018427387903 < expN m t 65536 + 65536)) := by
  unfold expN
  rw [Nat.min_eq_left hm]
  obtain ⟨s, hs⟩ : ∃ s, s = m / 65536 * 65536 + t % 65536 := ⟨_, rfl⟩
  rw [← hs]
  unfold expS
  by_cases h : s ≤ m
  · rw [if_pos h]
    by_cases g : 4611686018427387903 < s + 65536 ∨ m - s < s + 65536 - m
    · rw [if_pos g]; omega
    · rw [if_neg g]; omega
  · rw [if_neg h]
    by_cases g : 65536 ≤ s
    · rw [if_pos g]
      by_cases k : m - (s - 65536) < s - m
      · rw [if_pos k]; omega
      · rw [if_neg k]; omega
    · rw [if_neg g]; omega

set_option maxRecDepth 10000 in
set_option maxHeartbeats 800000 in
theorem near_2i (x t y r d : Int) (w : World) (hx : x ≤ 4611686018427387903) (hy : y ≤ 4611686018427387903) (hr1 : y.tmod 65536 = r) (hr2 : t.tmod 65536 = r)
    (HE : ∀ w, Calls Try.prog 11 #[.int .u64 x, .int .u64 t, .int .i64 2] w fun e w' => e = .returned (.int .u64 y) ∧ Below w.heap.size w w') (h : x ≤ y) (hd : IntKind.u64.wrap (y - x) = d) (h1 : d ≤ 32768) :
    Calls Try.prog 5 #[.int .u64 x, .int .u64 t, .int .i64 2] w fun e w' => e = .returned (.bool true) ∧ Below w.heap.size w w' := by
  go_enter Try.func5, Try.ntmps5
  go_wp2_with fail
  refine (known_any _).mono ?_
  rintro e w1 ⟨rfl, hb1⟩
  have HB1 := Lib.hid hb1
  clear hb1
  go_wp2_with fail
  refine (HE _).mono ?_
  rintro e w2 ⟨rfl, hb2⟩
  have HB2 := Lib.hid (hb2.mono HB1.out.size)
  clear hb2
  go_wp2_with fail
  go_quiet (fail)
  go_wp2
  go_ret
  exact ⟨rfl, below_drawn (HB1.out.trans HB2.out) nq⟩

set_option maxRecDepth 10000 in
set_option maxHeartbeats 800000 in
theorem near_2ii (x t y r d : Int) (w : World) (hx : x ≤ 4611686018427387903) (hy : y ≤ 4611686018427387903) (hr1 : y.tmod 65536 = r) (hr2 : t.tmod 65536 = r)
    (HE : ∀ w, Calls Try.prog 11 #[.int .u64 x, .int .u64 t, .int .i64 2] w fun e w' => e = .returned (.int .u64 y) ∧ Below w.heap.size w w') (h : x ≤ y) (hd : IntKind.u64.wrap (y - x) = d) (h1 : 32768 < d) (h2 : y < 65536) :
    Calls Try.prog 5 #[.int .u64 x, .int .u64 t, .int .i64 2] w fun e w' => e = .returned (.bool true) ∧ Below w.heap.size w w' := by
  go_enter Try.func5, Try.ntmps5
  go_wp2_with fail
  refine (known_any _).mono ?_
  rintro e w1 ⟨rfl, hb1⟩
  have HB1 := Lib.hid hb1
  clear hb1
  go_wp2_with fail
  refine (HE _).mono ?_
  rintro e w2 ⟨rfl, hb2⟩
  have HB2 := Lib.hid (hb2.mono HB1.out.size)
  clear hb2
  go_wp2_with fail
  go_quiet (fail)
  go_wp2
  go_ret
  exact ⟨rfl, below_drawn (HB1.out.trans HB2.out) nq⟩

set_option maxRecDepth 10000 in
set_option maxHeartbeats 800000 in
theorem near_2iii (x t y r d : Int) (w : World) (hx : x ≤ 4611686018427387903) (hy : y ≤ 4611686018427387903) (hr1 : y.tmod 65536 = r) (hr2 : t.tmod 65536 = r)
    (HE : ∀ w, Calls Try.prog 11 #[.int .u64 x, .int .u64 t, .int .i64 2] w fun e w' => e = .returned (.int .u64 y) ∧ Below w.heap.size w w') (h : y < x) (hd : IntKind.u64.wrap (x - y) = d) (h1 : d < 32768) :
    Calls Try.prog 5 #[.int .u64 x, .int .u64 t, .int .i64 2] w fun e w' => e = .returned (.bool true) ∧ Below w.heap.size w w' := by
  go_enter Try.func5, Try.ntmps5
  go_wp2_with fail
  refine (known_any _).mono ?_
  rintro e w1 ⟨rfl, hb1⟩
  have HB1 := Lib.hid hb1
  clear hb1
  go_wp2_with fail
  refine (HE _).mono ?_
  rintro e w2 ⟨rfl, hb2⟩
  have HB2 := Lib.hid (hb2.mono HB1.out.size)
  clear hb2
  go_wp2_with fail
  go_quiet (fail)
  go_wp2
  go_ret
  exact ⟨rfl, below_drawn (HB1.out.trans HB2.out) nq⟩

set_option maxRecDepth 10000 in
set_option maxHeartbeats 800000 in
theorem near_2iv (x t y r d : Int) (w : World) (hx : x ≤ 4611686018427387903) (hy : y ≤ 4611686018427387903) (hr1 : y.tmod 65536 = r) (hr2 : t.tmod 65536 = r)
    (HE : ∀ w, Calls Try.prog 11 #[.int .u64 x, .int .u64 t, .int .i64 2] w fun e w' => e = .returned (.int .u64 y) ∧ Below w.heap.size w w') (h : y < x) (hd : IntKind.u64.wrap (x - y) = d) (h1 : 32768 ≤ d) (h2 : d ≤ 65536) (u : Int) (hu : IntKind.u64.wrap (y + 65536) = u) (h3 : 4611686018427387903 < u) :
    Calls Try.prog 5 #[.int .u64 x, .int .u64 t, .int .i64 2] w fun e w' => e = .returned (.bool true) ∧ Below w.heap.size w w' := by
  go_enter Try.func5, Try.ntmps5
  go_wp2_with fail
  refine (known_any _).mono ?_
  rintro e w1 ⟨rfl, hb1⟩
  have HB1 := Lib.hid hb1
  clear hb1
  go_wp2_with fail
  refine (HE _).mono ?_
  rintro e w2 ⟨rfl, hb2⟩
  have HB2 := Lib.hid (hb2.mono HB1.out.size)
  clear hb2
  go_wp2_with fail
  go_quiet (fail)
  go_wp2
  go_ret
  exact ⟨rfl, below_drawn (HB1.out.trans HB2.out) nq⟩

set_option maxRecDepth 10000 in
set_option maxHeartbeats 800000 in
theorem near_2far (x t : Int) (w : World) (hx : 4611686018427387903 < x) :
    Calls Try.prog 5 #[.int .u64 x, .int .u64 t, .int .i64 2] w fun e w' => e = .returned (.bool true) ∧ Below w.heap.size w w' := by
  go_enter Try.func5, Try.ntmps5
  go_wp2_with fail
  refine (known_any _).mono ?_
  rintro e w1 ⟨rfl, hb1⟩
  have HB1 := Lib.hid hb1
  clear hb1
  go_wp2
  go_ret
  exact ⟨rfl, HB1.out⟩

theorem near_2 (m t : Nat) (w : World) (hm : m < 18446744073709551616) :
    Calls Try.prog 5 #[.int .u64 (m : Int), .int .u64 (t : Int), .int .i64 2] w fun e w' => e = .returned (.bool true) ∧ Below w.heap.size w w' := by
  by_cases h : m ≤ 4611686018427387903
  · obtain ⟨hl, hv, hn⟩ := nearest_2 m t h
    have HE := expand_2 m t
    generalize expN m t 65536 = v at *
    have hr1 : (v : Int).tmod 65536 = ((v % 65536 : Nat) : Int) := tmod_nat v 65536
    have hr2 : (t : Int).tmod 65536 = ((v % 65536 : Nat) : Int) := by rw [hl]; exact tmod_nat t 65536
    rcases hn with ⟨h1, h2⟩ | ⟨h1, h2, h3⟩ | ⟨h1, h2⟩ | ⟨h1, h2, h3, h4⟩
    · exact near_2i m t v _ ((v - m : Nat) : Int) w (by omega) (by omega) hr1 hr2 HE (by omega) (by rw [IntKind.wrap_u64]; omega) (by omega)
    · exact near_2ii m t v _ ((v - m : Nat) : Int) w (by omega) (by omega) hr1 hr2 HE (by omega) (by rw [IntKind.wrap_u64]; omega) (by omega) (by omega)
    · exact near_2iii m t v _ ((m - v : Nat) : Int) w (by omega) (by omega) hr1 hr2 HE (by omega) (by rw [IntKind.wrap_u64]; omega) (by omega)
    · exact near_2iv m t v _ ((m - v : Nat) : Int) w (by omega) (by omega) hr1 hr2 HE (by omega) (by rw [IntKind.wrap_u64]; omega) (by omega) (by omega) ((v + 65536 : Nat) : Int) (by rw [IntKind.wrap_u64]; omega) (by omega)
  · exact near_2far m t w (by omega)

/-- The nearest number's low bytes, and how near it is: 3 bytes. -/
theorem nearest_3 (m t : Nat) (hm : m ≤ 4611686018427387903) : expN m t 16777216 % 16777216 = t % 16777216 ∧ expN m t 16777216 ≤ 4611686018427387903 ∧
    ((m ≤ expN m t 16777216 ∧ expN m t 16777216 - m ≤ 8388608) ∨ (m ≤ expN m t 16777216 ∧ 8388608 < expN m t 16777216 - m ∧ expN m t 16777216 < 16777216) ∨ (expN m t 16777216 < m ∧ m - expN m t 16777216 < 8388608) ∨
      (expN m t 16777216 < m ∧ 8388608 ≤ m - expN m t 16777216 ∧ m - expN m t 16777216 ≤ 16777216 ∧ 4611686018427387903 < expN m t 16777216 + 16777216)) := by
  unfold expN
  rw [Nat.min_eq_left hm]
  obtain ⟨s, hs⟩ : ∃ s, s = m / 16777216 * 16777216 + t % 16777216 := ⟨_, rfl⟩
  rw [← hs]
  unfold expS
  by_cases h : s ≤ m
  · rw [if_pos h]
    by_cases g : 4611686018427387903 < s + 16777216 ∨ m - s < s + 16777216 - m
    · rw [if_pos g]; omega
    · rw [if_neg g]; omega
  · rw [if_neg h]
    by_cases g : 16777216 ≤ s
    · rw [if_pos g]
      by_cases k : m - (s - 16777216) < s - m
      · rw [if_pos k]; omega
      · rw [if_neg k]; omega
    · rw [if_neg g]; omega

set_option maxRecDepth 10000 in
set_option maxHeartbeats 800000 in
theorem near_3i (x t y r d : Int) (w : World) (hx : x ≤ 4611686018427387903) (hy : y ≤ 4611686018427387903) (hr1 : y.tmod 16777216 = r) (hr2 : t.tmod 16777216 = r)
    (HE : ∀ w, Calls Try.prog 11 #[.int .u64 x, .int .u64 t, .int .i64 3] w fun e w' => e = .returned (.int .u64 y) ∧ Below w.heap.size w w') (h : x ≤ y) (hd : IntKind.u64.wrap (y - x) = d) (h1 : d ≤ 8388608) :
    Calls Try.prog 5 #[.int .u64 x, .int .u64 t, .int .i64 3] w fun e w' => e = .returned (.bool true) ∧ Below w.heap.size w w' := by
  go_enter Try.func5, Try.ntmps5
  go_wp2_with fail
  refine (known_any _).mono ?_
  rintro e w1 ⟨rfl, hb1⟩
  have HB1 := Lib.hid hb1
  clear hb1
  go_wp2_with fail
  refine (HE _).mono ?_
  rintro e w2 ⟨rfl, hb2⟩
  have HB2 := Lib.hid (hb2.mono HB1.out.size)
  clear hb2
  go_wp2_with fail
  go_quiet (fail)
  go_wp2
  go_ret
  exact ⟨rfl, below_drawn (HB1.out.trans HB2.out) nq⟩

set_option maxRecDepth 10000 in
set_option maxHeartbeats 800000 in
theorem near_3ii (x t y r d : Int) (w : World) (hx : x ≤ 4611686018427387903) (hy : y ≤ 4611686018427387903) (hr1 : y.tmod 16777216 = r) (hr2 : t.tmod 16777216 = r)
    (HE : ∀ w, Calls Try.prog 11 #[.int .u64 x, .int .u64 t, .int .i64 3] w fun e w' => e = .returned (.int .u64 y) ∧ Below w.heap.size w w') (h : x ≤ y) (hd : IntKind.u64.wrap (y - x) = d) (h1 : 8388608 < d) (h2 : y < 16777216) :
    Calls Try.prog 5 #[.int .u64 x, .int .u64 t, .int .i64 3] w fun e w' => e = .returned (.bool true) ∧ Below w.heap.size w w' := by
  go_enter Try.func5, Try.ntmps5
  go_wp2_with fail
  refine (known_any _).mono ?_
  rintro e w1 ⟨rfl, hb1⟩
  have HB1 := Lib.hid hb1
  clear hb1
  go_wp2_with fail
  refine (HE _).mono ?_
  rintro e w2 ⟨rfl, hb2⟩
  have HB2 := Lib.hid (hb2.mono HB1.out.size)
  clear hb2
  go_wp2_with fail
  go_quiet (fail)
  go_wp2
  go_ret
  exact ⟨rfl, below_drawn (HB1.out.trans HB2.out) nq⟩

set_option maxRecDepth 10000 in
set_option maxHeartbeats 800000 in
theorem near_3iii (x t y r d : Int) (w : World) (hx : x ≤ 4611686018427387903) (hy : y ≤ 4611686018427387903) (hr1 : y.tmod 16777216 = r) (hr2 : t.tmod 16777216 = r)
    (HE : ∀ w, Calls Try.prog 11 #[.int .u64 x, .int .u64 t, .int .i64 3] w fun e w' => e = .returned (.int .u64 y) ∧ Below w.heap.size w w') (h : y < x) (hd : IntKind.u64.wrap (x - y) = d) (h1 : d < 8388608) :
    Calls Try.prog 5 #[.int .u64 x, .int .u64 t, .int .i64 3] w fun e w' => e = .returned (.bool true) ∧ Below w.heap.size w w' := by
  go_enter Try.func5, Try.ntmps5
  go_wp2_with fail
  refine (known_any _).mono ?_
  rintro e w1 ⟨rfl, hb1⟩
  have HB1 := Lib.hid hb1
  clear hb1
  go_wp2_with fail
  refine (HE _).mono ?_
  rintro e w2 ⟨rfl, hb2⟩
  have HB2 := Lib.hid (hb2.mono HB1.out.size)
  clear hb2
  go_wp2_with fail
  go_quiet (fail)
  go_wp2
  go_ret
  exact ⟨rfl, below_drawn (HB1.out.trans HB2.out) nq⟩

set_option maxRecDepth 10000 in
set_option maxHeartbeats 800000 in
theorem near_3iv (x t y r d : Int) (w : World) (hx : x ≤ 4611686018427387903) (hy : y ≤ 4611686018427387903) (hr1 : y.tmod 16777216 = r) (hr2 : t.tmod 16777216 = r)
    (HE : ∀ w, Calls Try.prog 11 #[.int .u64 x, .int .u64 t, .int .i64 3] w fun e w' => e = .returned (.int .u64 y) ∧ Below w.heap.size w w') (h : y < x) (hd : IntKind.u64.wrap (x - y) = d) (h1 : 8388608 ≤ d) (h2 : d ≤ 16777216) (u : Int) (hu : IntKind.u64.wrap (y + 16777216) = u) (h3 : 4611686018427387903 < u) :
    Calls Try.prog 5 #[.int .u64 x, .int .u64 t, .int .i64 3] w fun e w' => e = .returned (.bool true) ∧ Below w.heap.size w w' := by
  go_enter Try.func5, Try.ntmps5
  go_wp2_with fail
  refine (known_any _).mono ?_
  rintro e w1 ⟨rfl, hb1⟩
  have HB1 := Lib.hid hb1
  clear hb1
  go_wp2_with fail
  refine (HE _).mono ?_
  rintro e w2 ⟨rfl, hb2⟩
  have HB2 := Lib.hid (hb2.mono HB1.out.size)
  clear hb2
  go_wp2_with fail
  go_quiet (fail)
  go_wp2
  go_ret
  exact ⟨rfl, below_drawn (HB1.out.trans HB2.out) nq⟩

set_option maxRecDepth 10000 in
set_option maxHeartbeats 800000 in
theorem near_3far (x t : Int) (w : World) (hx : 4611686018427387903 < x) :
    Calls Try.prog 5 #[.int .u64 x, .int .u64 t, .int .i64 3] w fun e w' => e = .returned (.bool true) ∧ Below w.heap.size w w' := by
  go_enter Try.func5, Try.ntmps5
  go_wp2_with fail
  refine (known_any _).mono ?_
  rintro e w1 ⟨rfl, hb1⟩
  have HB1 := Lib.hid hb1
  clear hb1
  go_wp2
  go_ret
  exact ⟨rfl, HB1.out⟩

theorem near_3 (m t : Nat) (w : World) (hm : m < 18446744073709551616) :
    Calls Try.prog 5 #[.int .u64 (m : Int), .int .u64 (t : Int), .int .i64 3] w fun e w' => e = .returned (.bool true) ∧ Below w.heap.size w w' := by
  by_cases h : m ≤ 4611686018427387903
  · obtain ⟨hl, hv, hn⟩ := nearest_3 m t h
    have HE := expand_3 m t
    generalize expN m t 16777216 = v at *
    have hr1 : (v : Int).tmod 16777216 = ((v % 16777216 : Nat) : Int) := tmod_nat v 16777216
    have hr2 : (t : Int).tmod 16777216 = ((v % 16777216 : Nat) : Int) := by rw [hl]; exact tmod_nat t 16777216
    rcases hn with ⟨h1, h2⟩ | ⟨h1, h2, h3⟩ | ⟨h1, h2⟩ | ⟨h1, h2, h3, h4⟩
    · exact near_3i m t v _ ((v - m : Nat) : Int) w (by omega) (by omega) hr1 hr2 HE (by omega) (by rw [IntKind.wrap_u64]; omega) (by omega)
    · exact near_3ii m t v _ ((v - m : Nat) : Int) w (by omega) (by omega) hr1 hr2 HE (by omega) (by rw [IntKind.wrap_u64]; omega) (by omega) (by omega)
    · exact near_3iii m t v _ ((m - v : Nat) : Int) w (by omega) (by omega) hr1 hr2 HE (by omega) (by rw [IntKind.wrap_u64]; omega) (by omega)
    · exact near_3iv m t v _ ((m - v : Nat) : Int) w (by omega) (by omega) hr1 hr2 HE (by omega) (by rw [IntKind.wrap_u64]; omega) (by omega) (by omega) ((v + 16777216 : Nat) : Int) (by rw [IntKind.wrap_u64]; omega) (by omega)
  · exact near_3far m t w (by omega)

/-- The nearest number's low bytes, and how near it is: 4 bytes. -/
theorem nearest_4 (m t : Nat) (hm : m ≤ 4611686018427387903) : expN m t 4294967296 % 4294967296 = t % 4294967296 ∧ expN m t 4294967296 ≤ 4611686018427387903 ∧
    ((m ≤ expN m t 4294967296 ∧ expN m t 4294967296 - m ≤ 2147483648) ∨ (m ≤ expN m t 4294967296 ∧ 2147483648 < expN m t 4294967296 - m ∧ expN m t 4294967296 < 4294967296) ∨ (expN m t 4294967296 < m ∧ m - expN m t 4294967296 < 2147483648) ∨
      (expN m t 4294967296 < m ∧ 2147483648 ≤ m - expN m t 4294967296 ∧ m - expN m t 4294967296 ≤ 4294967296 ∧ 4611686018427387903 < expN m t 4294967296 + 4294967296)) := by
  unfold expN
  rw [Nat.min_eq_left hm]
  obtain ⟨s, hs⟩ : ∃ s, s = m / 4294967296 * 4294967296 + t % 4294967296 := ⟨_, rfl⟩
  rw [← hs]
  unfold expS
  by_cases h : s ≤ m
  · rw [if_pos h]
    by_cases g : 4611686018427387903 < s + 4294967296 ∨ m - s < s + 4294967296 - m
    · rw [if_pos g]; omega
    · rw [if_neg g]; omega
  · rw [if_neg h]
    by_cases g : 4294967296 ≤ s
    · rw [if_pos g]
      by_cases k : m - (s - 4294967296) < s - m
      · rw [if_pos k]; omega
      · rw [if_neg k]; omega
    · rw [if_neg g]; omega

set_option maxRecDepth 10000 in
set_option maxHeartbeats 800000 in
theorem near_4i (x t y r d : Int) (w : World) (hx : x ≤ 4611686018427387903) (hy : y ≤ 4611686018427387903) (hr1 : y.tmod 4294967296 = r) (hr2 : t.tmod 4294967296 = r)
    (HE : ∀ w, Calls Try.prog 11 #[.int .u64 x, .int .u64 t, .int .i64 4] w fun e w' => e = .returned (.int .u64 y) ∧ Below w.heap.size w w') (h : x ≤ y) (hd : IntKind.u64.wrap (y - x) = d) (h1 : d ≤ 2147483648) :
    Calls Try.prog 5 #[.int .u64 x, .int .u64 t, .int .i64 4] w fun e w' => e = .returned (.bool true) ∧ Below w.heap.size w w' := by
  go_enter Try.func5, Try.ntmps5
  go_wp2_with fail
  refine (known_any _).mono ?_
  rintro e w1 ⟨rfl, hb1⟩
  have HB1 := Lib.hid hb1
  clear hb1
  go_wp2_with fail
  refine (HE _).mono ?_
  rintro e w2 ⟨rfl, hb2⟩
  have HB2 := Lib.hid (hb2.mono HB1.out.size)
  clear hb2
  go_wp2_with fail
  go_quiet (fail)
  go_wp2
  go_ret
  exact ⟨rfl, below_drawn (HB1.out.trans HB2.out) nq⟩

set_option maxRecDepth 10000 in
set_option maxHeartbeats 800000 in
theorem near_4ii (x t y r d : Int) (w : World) (hx : x ≤ 4611686018427387903) (hy : y ≤ 4611686018427387903) (hr1 : y.tmod 4294967296 = r) (hr2 : t.tmod 4294967296 = r)
    (HE : ∀ w, Calls Try.prog 11 #[.int .u64 x, .int .u64 t, .int .i64 4] w fun e w' => e = .returned (.int .u64 y) ∧ Below w.heap.size w w') (h : x ≤ y) (hd : IntKind.u64.wrap (y - x) = d) (h1 : 2147483648 < d) (h2 : y < 4294967296) :
    Calls Try.prog 5 #[.int .u64 x, .int .u64 t, .int .i64 4] w fun e w' => e = .returned (.bool true) ∧ Below w.heap.size w w' := by
  go_enter Try.func5, Try.ntmps5
  go_wp2_with fail
  refine (known_any _).mono ?_
  rintro e w1 ⟨rfl, hb1⟩
  have HB1 := Lib.hid hb1
  clear hb1
  go_wp2_with fail
  refine (HE _).mono ?_
  rintro e w2 ⟨rfl, hb2⟩
  have HB2 := Lib.hid (hb2.mono HB1.out.size)
  clear hb2
  go_wp2_with fail
  go_quiet (fail)
  go_wp2
  go_ret
  exact ⟨rfl, below_drawn (HB1.out.trans HB2.out) nq⟩

set_option maxRecDepth 10000 in
set_option maxHeartbeats 800000 in
theorem near_4iii (x t y r d : Int) (w : World) (hx : x ≤ 4611686018427387903) (hy : y ≤ 4611686018427387903) (hr1 : y.tmod 4294967296 = r) (hr2 : t.tmod 4294967296 = r)
    (HE : ∀ w, Calls Try.prog 11 #[.int .u64 x, .int .u64 t, .int .i64 4] w fun e w' => e = .returned (.int .u64 y) ∧ Below w.heap.size w w') (h : y < x) (hd : IntKind.u64.wrap (x - y) = d) (h1 : d < 2147483648) :
    Calls Try.prog 5 #[.int .u64 x, .int .u64 t, .int .i64 4] w fun e w' => e = .returned (.bool true) ∧ Below w.heap.size w w' := by
  go_enter Try.func5, Try.ntmps5
  go_wp2_with fail
  refine (known_any _).mono ?_
  rintro e w1 ⟨rfl, hb1⟩
  have HB1 := Lib.hid hb1
  clear hb1
  go_wp2_with fail
  refine (HE _).mono ?_
  rintro e w2 ⟨rfl, hb2⟩
  have HB2 := Lib.hid (hb2.mono HB1.out.size)
  clear hb2
  go_wp2_with fail
  go_quiet (fail)
  go_wp2
  go_ret
  exact ⟨rfl, below_drawn (HB1.out.trans HB2.out) nq⟩

set_option maxRecDepth 10000 in
set_option maxHeartbeats 800000 in
theorem near_4iv (x t y r d : Int) (w : World) (hx : x ≤ 4611686018427387903) (hy : y ≤ 4611686018427387903) (hr1 : y.tmod 4294967296 = r) (hr2 : t.tmod 4294967296 = r)
    (HE : ∀ w, Calls Try.prog 11 #[.int .u64 x, .int .u64 t, .int .i64 4] w fun e w' => e = .returned (.int .u64 y) ∧ Below w.heap.size w w') (h : y < x) (hd : IntKind.u64.wrap (x - y) = d) (h1 : 2147483648 ≤ d) (h2 : d ≤ 4294967296) (u : Int) (hu : IntKind.u64.wrap (y + 4294967296) = u) (h3 : 4611686018427387903 < u) :
    Calls Try.prog 5 #[.int .u64 x, .int .u64 t, .int .i64 4] w fun e w' => e = .returned (.bool true) ∧ Below w.heap.size w w' := by
  go_enter Try.func5, Try.ntmps5
  go_wp2_with fail
  refine (known_any _).mono ?_
  rintro e w1 ⟨rfl, hb1⟩
  have HB1 := Lib.hid hb1
  clear hb1
  go_wp2_with fail
  refine (HE _).mono ?_
  rintro e w2 ⟨rfl, hb2⟩
  have HB2 := Lib.hid (hb2.mono HB1.out.size)
  clear hb2
  go_wp2_with fail
  go_quiet (fail)
  go_wp2
  go_ret
  exact ⟨rfl, below_drawn (HB1.out.trans HB2.out) nq⟩

set_option maxRecDepth 10000 in
set_option maxHeartbeats 800000 in
theorem near_4far (x t : Int) (w : World) (hx : 4611686018427387903 < x) :
    Calls Try.prog 5 #[.int .u64 x, .int .u64 t, .int .i64 4] w fun e w' => e = .returned (.bool true) ∧ Below w.heap.size w w' := by
  go_enter Try.func5, Try.ntmps5
  go_wp2_with fail
  refine (known_any _).mono ?_
  rintro e w1 ⟨rfl, hb1⟩
  have HB1 := Lib.hid hb1
  clear hb1
  go_wp2
  go_ret
  exact ⟨rfl, HB1.out⟩

theorem near_4 (m t : Nat) (w : World) (hm : m < 18446744073709551616) :
    Calls Try.prog 5 #[.int .u64 (m : Int), .int .u64 (t : Int), .int .i64 4] w fun e w' => e = .returned (.bool true) ∧ Below w.heap.size w w' := by
  by_cases h : m ≤ 4611686018427387903
  · obtain ⟨hl, hv, hn⟩ := nearest_4 m t h
    have HE := expand_4 m t
    generalize expN m t 4294967296 = v at *
    have hr1 : (v : Int).tmod 4294967296 = ((v % 4294967296 : Nat) : Int) := tmod_nat v 4294967296
    have hr2 : (t : Int).tmod 4294967296 = ((v % 4294967296 : Nat) : Int) := by rw [hl]; exact tmod_nat t 4294967296
    rcases hn with ⟨h1, h2⟩ | ⟨h1, h2, h3⟩ | ⟨h1, h2⟩ | ⟨h1, h2, h3, h4⟩
    · exact near_4i m t v _ ((v - m : Nat) : Int) w (by omega) (by omega) hr1 hr2 HE (by omega) (by rw [IntKind.wrap_u64]; omega) (by omega)
    · exact near_4ii m t v _ ((v - m : Nat) : Int) w (by omega) (by omega) hr1 hr2 HE (by omega) (by rw [IntKind.wrap_u64]; omega) (by omega) (by omega)
    · exact near_4iii m t v _ ((m - v : Nat) : Int) w (by omega) (by omega) hr1 hr2 HE (by omega) (by rw [IntKind.wrap_u64]; omega) (by omega)
    · exact near_4iv m t v _ ((m - v : Nat) : Int) w (by omega) (by omega) hr1 hr2 HE (by omega) (by rw [IntKind.wrap_u64]; omega) (by omega) (by omega) ((v + 4294967296 : Nat) : Int) (by rw [IntKind.wrap_u64]; omega) (by omega)
  · exact near_4far m t w (by omega)

set_option maxRecDepth 10000 in
set_option maxHeartbeats 800000 in
theorem near_low (x t b : Int) (w : World) (hx : b < 1) :
    Calls Try.prog 5 #[.int .u64 x, .int .u64 t, .int .i64 b] w fun e w' => e = .returned (.bool true) ∧ Below w.heap.size w w' := by
  go_enter Try.func5, Try.ntmps5
  go_wp2_with fail
  refine (known_any _).mono ?_
  rintro e w1 ⟨rfl, hb1⟩
  have HB1 := Lib.hid hb1
  clear hb1
  go_wp2
  go_ret
  exact ⟨rfl, HB1.out⟩

set_option maxRecDepth 10000 in
set_option maxHeartbeats 800000 in
theorem near_high (x t b : Int) (w : World) (hx : 4 < b) :
    Calls Try.prog 5 #[.int .u64 x, .int .u64 t, .int .i64 b] w fun e w' => e = .returned (.bool true) ∧ Below w.heap.size w w' := by
  go_enter Try.func5, Try.ntmps5
  go_wp2_with fail
  refine (known_any _).mono ?_
  rintro e w1 ⟨rfl, hb1⟩
  have HB1 := Lib.hid hb1
  clear hb1
  go_wp2
  go_ret
  exact ⟨rfl, HB1.out⟩

theorem near_any (n o b : Int) (w : World) (hn0 : 0 ≤ n) (hn : n < 18446744073709551616) (ho0 : 0 ≤ o) (ho : o < 18446744073709551616) :
    Calls Try.prog 5 #[.int .u64 n, .int .u64 o, .int .i64 b] w fun e w' => e = .returned (.bool true) ∧ Below w.heap.size w w' := by
  obtain ⟨n, rfl⟩ := Int.eq_ofNat_of_zero_le hn0
  obtain ⟨o, rfl⟩ := Int.eq_ofNat_of_zero_le ho0
  by_cases h : b < 1
  · exact near_low n o b w h
  · by_cases h' : 4 < b
    · exact near_high n o b w h'
    · have : b = 1 ∨ b = 2 ∨ b = 3 ∨ b = 4 := by omega
      rcases this with rfl | rfl | rfl | rfl
      · exact near_1 n o w (by omega)
      · exact near_2 n o w (by omega)
      · exact near_3 n o w (by omega)
      · exact near_4 n o w (by omega)

end Go.Proofs.Ytmffnfamdioaiaa
