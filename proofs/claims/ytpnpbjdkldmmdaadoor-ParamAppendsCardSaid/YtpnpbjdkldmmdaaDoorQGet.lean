/-
  Transport parameters: where each stands, and whether a number may be told.
-/
import Derived.Test.YtpnpbjdkldmmdaaDoorQMath
import Derived.Test.YtpnpbjdkldmmdaaDoorWh
import Derived.Test.YtpnpbjdkldmmdaaDoorSize
import Derived.BigQuiet
namespace Go.Proofs.YtpnpbjdkldmmdaaDoor
open Go.RowKit
set_option linter.unusedVariables false

/-- The parameters' cells. -/
def prC (A0 : Option Addr) (c0 : Nat) (A1 : Option Addr) (c1 : Nat) (p : PQ) : Array Value :=
  #[.slice A0 p.orig.length c0, .slice A1 p.cid.length c1, .int .u64 (p.idle : Int), .int .u64 (p.data : Int), .int .u64 (p.sOwn : Int), .int .u64 (p.sPeer : Int), .int .u64 (p.sUni : Int), .int .u64 (p.bidi : Int), .int .u64 (p.uni : Int),
    .int .u64 (p.ackD : Int), .int .u64 (p.cidL : Int), .bool p.has] ++ (p.tok.map cell8).toArray

theorem prC_0 (A0 : Option Addr) (c0 : Nat) (A1 : Option Addr) (c1 : Nat) (p : PQ) : (prC A0 c0 A1 c1 p)[0]? = some (.slice A0 p.orig.length c0) := by simp [prC]
theorem prC_1 (A0 : Option Addr) (c0 : Nat) (A1 : Option Addr) (c1 : Nat) (p : PQ) : (prC A0 c0 A1 c1 p)[1]? = some (.slice A1 p.cid.length c1) := by simp [prC]
theorem prC_has (A0 : Option Addr) (c0 : Nat) (A1 : Option Addr) (c1 : Nat) (p : PQ) : (prC A0 c0 A1 c1 p)[11]? = some (.bool p.has) := by simp [prC]
theorem prC_num (A0 : Option Addr) (c0 : Nat) (A1 : Option Addr) (c1 : Nat) (p : PQ) (id : Nat) (h : nIdx id ≠ 0) : (prC A0 c0 A1 c1 p)[nIdx id]? = some (.int .u64 (p.num id : Int)) := by
  rcases nIdx_cases id with e | e
  · rcases e with rfl | rfl | rfl | rfl | rfl | rfl | rfl | rfl | rfl <;> simp [prC, nIdx, PQ.num]
  · exact absurd e.2.2.2.2.2.2.2.2.2 h
theorem prC_tok (A0 : Option Addr) (c0 : Nat) (A1 : Option Addr) (c1 : Nat) (p : PQ) (i : Nat) : (prC A0 c0 A1 c1 p)[12 + i]? = (p.tok[i]?).map cell8 := by
  unfold prC
  rw [Array.getElem?_append_right (by simp)]
  simp
theorem prC_size (A0 : Option Addr) (c0 : Nat) (A1 : Option Addr) (c1 : Nat) (p : PQ) : (prC A0 c0 A1 c1 p).size = 12 + p.tok.length := by simp [prC]; omega

/-- The address of a parameter with a number. -/
def numP (b id : Nat) : Value := if nIdx id = 0 then .pointer none else .pointer (some ⟨b, nIdx id, none⟩)

set_option maxRecDepth 10000 in
set_option maxHeartbeats 800000 in
theorem numberOf_any (b id : Nat) (w : World) : Calls Tryd.prog 33 #[.pointer (some ⟨b, 0, none⟩), .int .u64 (id : Int)] w fun e w' => e = .returned (numP b id) ∧ w = w' := by
  rcases nIdx_cases id with h | ⟨h1, h2, h3, h4, h5, h6, h7, h8, h9, h10⟩
  · rcases h with rfl | rfl | rfl | rfl | rfl | rfl | rfl | rfl | rfl
    all_goals
      go_enter Tryd.func33, Tryd.ntmps33
      go_wp2
      go_ret
      exact ⟨rfl, rfl⟩
  · have hp : numP b id = .pointer none := by unfold numP; rw [if_pos h10]
    rw [hp]
    clear hp h10
    have t1 : ((id : Int) == 1) = false := by rw [beq_eq_false_iff_ne]; omega
    have t4 : ((id : Int) == 4) = false := by rw [beq_eq_false_iff_ne]; omega
    have t5 : ((id : Int) == 5) = false := by rw [beq_eq_false_iff_ne]; omega
    have t6 : ((id : Int) == 6) = false := by rw [beq_eq_false_iff_ne]; omega
    have t7 : ((id : Int) == 7) = false := by rw [beq_eq_false_iff_ne]; omega
    have t8 : ((id : Int) == 8) = false := by rw [beq_eq_false_iff_ne]; omega
    have t9 : ((id : Int) == 9) = false := by rw [beq_eq_false_iff_ne]; omega
    have t11 : ((id : Int) == 11) = false := by rw [beq_eq_false_iff_ne]; omega
    have t14 : ((id : Int) == 14) = false := by rw [beq_eq_false_iff_ne]; omega
    clear h1 h2 h3 h4 h5 h6 h7 h8 h9
    go_enter Tryd.func33, Tryd.ntmps33
    go_wp2
    go_ret
    exact ⟨rfl, rfl⟩

def bytP (b id : Nat) : Value := if id = 0 then .pointer (some ⟨b, 0, none⟩) else if id = 15 then .pointer (some ⟨b, 1, none⟩) else .pointer none

set_option maxRecDepth 10000 in
set_option maxHeartbeats 800000 in
theorem bytesOf_any (b id : Nat) (w : World) : Calls Tryd.prog 35 #[.pointer (some ⟨b, 0, none⟩), .int .u64 (id : Int)] w fun e w' => e = .returned (bytP b id) ∧ w = w' := by
  by_cases h0 : id = 0
  · subst h0
    go_enter Tryd.func35, Tryd.ntmps35
    go_wp2
    go_ret
    exact ⟨rfl, rfl⟩
  · by_cases h1 : id = 15
    · subst h1
      go_enter Tryd.func35, Tryd.ntmps35
      go_wp2
      go_ret
      exact ⟨rfl, rfl⟩
    · have hp : bytP b id = .pointer none := by unfold bytP; rw [if_neg h0, if_neg h1]
      rw [hp]
      clear hp
      have t0 : ((id : Int) == 0) = false := by rw [beq_eq_false_iff_ne]; omega
      have t1 : ((id : Int) == 15) = false := by rw [beq_eq_false_iff_ne]; omega
      clear h0 h1
      go_enter Tryd.func35, Tryd.ntmps35
      go_wp2
      go_ret
      exact ⟨rfl, rfl⟩

theorem numP_none {b id : Nat} (h : nIdx id = 0) : numP b id = .pointer none := if_pos h
theorem numP_some {b id : Nat} (h : nIdx id ≠ 0) : numP b id = .pointer (some ⟨b, nIdx id, none⟩) := if_neg h
theorem bytP_0 (b : Nat) : bytP b 0 = .pointer (some ⟨b, 0, none⟩) := rfl
theorem bytP_15 (b : Nat) : bytP b 15 = .pointer (some ⟨b, 1, none⟩) := rfl
theorem bytP_none {b id : Nat} (h0 : id ≠ 0) (h1 : id ≠ 15) : bytP b id = .pointer none := by unfold bytP; rw [if_neg h0, if_neg h1]
theorem nIdx_ne {id : Nat} (h : nIdx id ≠ 0) : id ≠ 2 ∧ id ≠ 0 ∧ id ≠ 15 := ⟨fun e => h (by rw [e]; rfl), fun e => h (by rw [e]; rfl), fun e => h (by rw [e]; rfl)⟩

theorem ret_bool {a b : Bool} (h : a = b) : Ending.returned (.bool a) = .returned (.bool b) := by rw [h]

set_option maxRecDepth 10000 in
set_option maxHeartbeats 800000 in
theorem mayTell_any (id n : Nat) (w : World) : Calls Tryd.prog 34 #[.int .u64 (id : Int), .int .u64 (n : Int)] w fun e w' => e = .returned (.bool (fitsB id n)) ∧ w = w' := by
  obtain ⟨x, hx⟩ : ∃ x : Int, x = (n : Int) := ⟨_, rfl⟩
  have hx0 : 0 ≤ x := by omega
  have HF := Lib.hid hx
  rw [← hx]
  clear hx
  by_cases h8 : id = 8
  · subst h8
    go_enter Tryd.func34, Tryd.ntmps34
    go_wp2
    all_goals
      go_ret
      refine ⟨ret_bool ?_, rfl⟩
      have hx := HF.out
      first | (simp [fitsB]; done) | (simp [fitsB] <;> omega) | (rw [Bool.eq_iff_iff]; simp [fitsB] <;> omega)
  by_cases h9 : id = 9
  · subst h9
    go_enter Tryd.func34, Tryd.ntmps34
    go_wp2
    all_goals
      go_ret
      refine ⟨ret_bool ?_, rfl⟩
      have hx := HF.out
      first | (simp [fitsB]; done) | (simp [fitsB] <;> omega) | (rw [Bool.eq_iff_iff]; simp [fitsB] <;> omega)
  by_cases h11 : id = 11
  · subst h11
    go_enter Tryd.func34, Tryd.ntmps34
    go_wp2
    all_goals
      go_ret
      refine ⟨ret_bool ?_, rfl⟩
      have hx := HF.out
      first | (simp [fitsB]; done) | (simp [fitsB] <;> omega) | (rw [Bool.eq_iff_iff]; simp [fitsB] <;> omega)
  by_cases h14 : id = 14
  · subst h14
    go_enter Tryd.func34, Tryd.ntmps34
    go_wp2
    all_goals
      go_ret
      refine ⟨ret_bool ?_, rfl⟩
      have hx := HF.out
      first | (simp [fitsB]; done) | (simp [fitsB] <;> omega) | (rw [Bool.eq_iff_iff]; simp [fitsB] <;> omega)
  have t8 : ((id : Int) == 8) = false := by rw [beq_eq_false_iff_ne]; omega
  have t9 : ((id : Int) == 9) = false := by rw [beq_eq_false_iff_ne]; omega
  have t11 : ((id : Int) == 11) = false := by rw [beq_eq_false_iff_ne]; omega
  have t14 : ((id : Int) == 14) = false := by rw [beq_eq_false_iff_ne]; omega
  have HN := Lib.hid (And.intro h8 (And.intro h9 (And.intro h11 h14)))
  clear h8 h9 h11 h14
  skip
  go_enter Tryd.func34, Tryd.ntmps34
  go_wp2
  all_goals
    go_ret
    refine ⟨ret_bool ?_, rfl⟩
    have hx := HF.out
    obtain ⟨h8, h9, h11, h14⟩ := HN.out
    first | (simp [fitsB, h8, h9, h11, h14] <;> omega) | (rw [Bool.eq_iff_iff]; simp [fitsB, h8, h9, h11, h14] <;> omega)

end Go.Proofs.YtpnpbjdkldmmdaaDoor
