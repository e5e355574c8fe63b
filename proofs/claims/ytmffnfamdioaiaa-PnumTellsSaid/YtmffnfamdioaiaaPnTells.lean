/-
  The walk through the law PnumTells.
-/
import Derived.Test.YtmffnfamdioaiaaPnKnown
namespace Go.Proofs.Ytmffnfamdioaiaa
open Go.RowKit
set_option linter.unusedVariables false

set_option maxRecDepth 10000 in
set_option maxHeartbeats 800000 in
theorem tells_1 (n o : Nat) (has : Bool) (w : World) (hn : n < 18446744073709551616) (ho : o < 18446744073709551616) :
    Calls Try.prog 3 #[.int .u64 (n : Int), .int .u64 (o : Int), .bool has, .int .i64 1] w fun e w' => e = .returned (.bool true) ∧ Below w.heap.size w w' := by
  have HY := Lib.hid (bytes_any n o has)
  have HZ := Lib.hid (rbytes_any n o has)
  go_enter Try.func3, Try.ntmps3
  go_wp2_with fail
  refine (known_any _).mono ?_
  rintro e w1 ⟨rfl, hb1⟩
  have HB1 := Lib.hid hb1
  clear hb1
  go_wp2_with fail
  refine (HY.out w1 hn ho).mono ?_
  rintro e w1' ⟨rfl, rfl⟩
  generalize ((needN (openN n o has) : Nat) : Int) = v1 at *
  go_wp2_with fail
  refine (HZ.out w1 hn ho).mono ?_
  rintro e w1' ⟨rfl, rfl⟩
  go_wp2_with fail
  refine (trunc_1 n w1).mono ?_
  rintro e w1' ⟨rfl, rfl⟩
  go_wp2_with fail
  refine (rtrunc_1 n w1).mono ?_
  rintro e w1' ⟨rfl, rfl⟩
  go_wp2_with fail
  refine (expand_1 o n w1).mono ?_
  rintro e w2 ⟨rfl, hb2⟩
  have HB2 := Lib.hid hb2
  clear hb2
  go_wp2_with fail
  refine (rexpand_1 o n w2).mono ?_
  rintro e w2' ⟨rfl, rfl⟩
  go_wp2
  go_ret
  exact ⟨rfl, HB1.out.trans (HB2.out.mono HB1.out.size)⟩

set_option maxRecDepth 10000 in
set_option maxHeartbeats 800000 in
theorem tells_2 (n o : Nat) (has : Bool) (w : World) (hn : n < 18446744073709551616) (ho : o < 18446744073709551616) :
    Calls Try.prog 3 #[.int .u64 (n : Int), .int .u64 (o : Int), .bool has, .int .i64 2] w fun e w' => e = .returned (.bool true) ∧ Below w.heap.size w w' := by
  have HY := Lib.hid (bytes_any n o has)
  have HZ := Lib.hid (rbytes_any n o has)
  go_enter Try.func3, Try.ntmps3
  go_wp2_with fail
  refine (known_any _).mono ?_
  rintro e w1 ⟨rfl, hb1⟩
  have HB1 := Lib.hid hb1
  clear hb1
  go_wp2_with fail
  refine (HY.out w1 hn ho).mono ?_
  rintro e w1' ⟨rfl, rfl⟩
  generalize ((needN (openN n o has) : Nat) : Int) = v1 at *
  go_wp2_with fail
  refine (HZ.out w1 hn ho).mono ?_
  rintro e w1' ⟨rfl, rfl⟩
  go_wp2_with fail
  refine (trunc_2 n w1).mono ?_
  rintro e w1' ⟨rfl, rfl⟩
  go_wp2_with fail
  refine (rtrunc_2 n w1).mono ?_
  rintro e w1' ⟨rfl, rfl⟩
  go_wp2_with fail
  refine (expand_2 o n w1).mono ?_
  rintro e w2 ⟨rfl, hb2⟩
  have HB2 := Lib.hid hb2
  clear hb2
  go_wp2_with fail
  refine (rexpand_2 o n w2).mono ?_
  rintro e w2' ⟨rfl, rfl⟩
  go_wp2
  go_ret
  exact ⟨rfl, HB1.out.trans (HB2.out.mono HB1.out.size)⟩

set_option maxRecDepth 10000 in
set_option maxHeartbeats 800000 in
theorem tells_3 (n o : Nat) (has : Bool) (w : World) (hn : n < 18446744073709551616) (ho : o < 18446744073709551616) :
    Calls Try.prog 3 #[.int .u64 (n : Int), .int .u64 (o : Int), .bool has, .int .i64 3] w fun e w' => e = .returned (.bool true) ∧ Below w.heap.size w w' := by
  have HY := Lib.hid (bytes_any n o has)
  have HZ := Lib.hid (rbytes_any n o has)
  go_enter Try.func3, Try.ntmps3
  go_wp2_with fail
  refine (known_any _).mono ?_
  rintro e w1 ⟨rfl, hb1⟩
  have HB1 := Lib.hid hb1
  clear hb1
  go_wp2_with fail
  refine (HY.out w1 hn ho).mono ?_
  rintro e w1' ⟨rfl, rfl⟩
  generalize ((needN (openN n o has) : Nat) : Int) = v1 at *
  go_wp2_with fail
  refine (HZ.out w1 hn ho).mono ?_
  rintro e w1' ⟨rfl, rfl⟩
  go_wp2_with fail
  refine (trunc_3 n w1).mono ?_
  rintro e w1' ⟨rfl, rfl⟩
  go_wp2_with fail
  refine (rtrunc_3 n w1).mono ?_
  rintro e w1' ⟨rfl, rfl⟩
  go_wp2_with fail
  refine (expand_3 o n w1).mono ?_
  rintro e w2 ⟨rfl, hb2⟩
  have HB2 := Lib.hid hb2
  clear hb2
  go_wp2_with fail
  refine (rexpand_3 o n w2).mono ?_
  rintro e w2' ⟨rfl, rfl⟩
  go_wp2
  go_ret
  exact ⟨rfl, HB1.out.trans (HB2.out.mono HB1.out.size)⟩

set_option maxRecDepth 10000 in
set_option maxHeartbeats 800000 in
theorem tells_4 (n o : Nat) (has : Bool) (w : World) (hn : n < 18446744073709551616) (ho : o < 18446744073709551616) :
    Calls Try.prog 3 #[.int .u64 (n : Int), .int .u64 (o : Int), .bool has, .int .i64 4] w fun e w' => e = .returned (.bool true) ∧ Below w.heap.size w w' := by
  have HY := Lib.hid (bytes_any n o has)
  have HZ := Lib.hid (rbytes_any n o has)
  go_enter Try.func3, Try.ntmps3
  go_wp2_with fail
  refine (known_any _).mono ?_
  rintro e w1 ⟨rfl, hb1⟩
  have HB1 := Lib.hid hb1
  clear hb1
  go_wp2_with fail
  refine (HY.out w1 hn ho).mono ?_
  rintro e w1' ⟨rfl, rfl⟩
  generalize ((needN (openN n o has) : Nat) : Int) = v1 at *
  go_wp2_with fail
  refine (HZ.out w1 hn ho).mono ?_
  rintro e w1' ⟨rfl, rfl⟩
  go_wp2_with fail
  refine (trunc_4 n w1).mono ?_
  rintro e w1' ⟨rfl, rfl⟩
  go_wp2_with fail
  refine (rtrunc_4 n w1).mono ?_
  rintro e w1' ⟨rfl, rfl⟩
  go_wp2_with fail
  refine (expand_4 o n w1).mono ?_
  rintro e w2 ⟨rfl, hb2⟩
  have HB2 := Lib.hid hb2
  clear hb2
  go_wp2_with fail
  refine (rexpand_4 o n w2).mono ?_
  rintro e w2' ⟨rfl, rfl⟩
  go_wp2
  go_ret
  exact ⟨rfl, HB1.out.trans (HB2.out.mono HB1.out.size)⟩

set_option maxRecDepth 10000 in
set_option maxHeartbeats 800000 in
theorem tells_no (n o : Nat) (has : Bool) (b : Int) (w : World) (hn : n < 18446744073709551616) (ho : o < 18446744073709551616) (hx : b < 1 ∨ 4 < b) :
    Calls Try.prog 3 #[.int .u64 (n : Int), .int .u64 (o : Int), .bool has, .int .i64 b] w fun e w' => e = .returned (.bool true) ∧ Below w.heap.size w w' := by
  have HY := Lib.hid (bytes_any n o has)
  have HZ := Lib.hid (rbytes_any n o has)
  go_enter Try.func3, Try.ntmps3
  go_wp2_with fail
  refine (known_any _).mono ?_
  rintro e w1 ⟨rfl, hb1⟩
  have HB1 := Lib.hid hb1
  clear hb1
  go_wp2_with fail
  refine (HY.out w1 hn ho).mono ?_
  rintro e w1' ⟨rfl, rfl⟩
  generalize ((needN (openN n o has) : Nat) : Int) = v1 at *
  go_wp2_with fail
  refine (HZ.out w1 hn ho).mono ?_
  rintro e w1' ⟨rfl, rfl⟩
  go_wp2_with fail
  refine (trunc_no n b w1 hx).mono ?_
  rintro e w1' ⟨rfl, rfl⟩
  go_wp2_with fail
  refine (rtrunc_no n b w1 hx).mono ?_
  rintro e w1' ⟨rfl, rfl⟩
  go_wp2_with fail
  refine (expand_no o n b w1 hx).mono ?_
  rintro e w2 ⟨rfl, hb2⟩
  have HB2 := Lib.hid hb2
  clear hb2
  go_wp2_with fail
  refine (rexpand_no o n b w2 hx).mono ?_
  rintro e w2' ⟨rfl, rfl⟩
  go_wp2
  go_ret
  exact ⟨rfl, HB1.out.trans (HB2.out.mono HB1.out.size)⟩

theorem tells_any (n o b : Int) (has : Bool) (w : World) (hn0 : 0 ≤ n) (hn : n < 18446744073709551616) (ho0 : 0 ≤ o) (ho : o < 18446744073709551616) :
    Calls Try.prog 3 #[.int .u64 n, .int .u64 o, .bool has, .int .i64 b] w fun e w' => e = .returned (.bool true) ∧ Below w.heap.size w w' := by
  obtain ⟨n, rfl⟩ := Int.eq_ofNat_of_zero_le hn0
  obtain ⟨o, rfl⟩ := Int.eq_ofNat_of_zero_le ho0
  by_cases h : b < 1 ∨ 4 < b
  · exact tells_no n o has b w (by omega) (by omega) h
  · have : b = 1 ∨ b = 2 ∨ b = 3 ∨ b = 4 := by omega
    rcases this with rfl | rfl | rfl | rfl
    · exact tells_1 n o has w (by omega) (by omega)
    · exact tells_2 n o has w (by omega) (by omega)
    · exact tells_3 n o has w (by omega) (by omega)
    · exact tells_4 n o has w (by omega) (by omega)

end Go.Proofs.Ytmffnfamdioaiaa
