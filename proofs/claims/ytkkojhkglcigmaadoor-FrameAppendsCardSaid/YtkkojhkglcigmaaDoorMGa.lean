/-
  The walk through hostlerref02.has.
  The walk through hostlerref02.Form: made by tools/gen_form.py.
  hostlerref02.May and frame.May are one, in plain mathematics.
-/
import Derived.Test.YtkkojhkglcigmaaDoorPut
import Derived.Test.YtkkojhkglcigmaaDoorMay
namespace Go.Proofs.YtkkojhkglcigmaaDoor

section
open Go.RowKit
set_option linter.unusedVariables false

/-- Is a letter in a form? -/
def hasB (l : List UInt8) (c : Nat) : Bool := l.any fun x => x.toNat == c

def strV (l : List UInt8) : ByteArray := ⟨l.toArray⟩

theorem strV_size (l : List UInt8) : (strV l).size = l.length := rfl

theorem strV_get (l : List UInt8) (k : Nat) (x : UInt8) (hx : l[k]? = some x) (h : k < (strV l).size) : (strV l)[k]'h = x := by
  have h1 : k < l.length := h
  rw [List.getElem?_eq_getElem h1] at hx
  exact Option.some.inj hx

theorem hasB_take (l : List UInt8) (c k : Nat) (x : UInt8) (hx : l[k]? = some x) (h : hasB (l.take k) c = false) (hn : (x.toNat == c) = false) : hasB (l.take (k + 1)) c = false := by
  unfold hasB at *
  rw [List.take_add_one, hx, List.any_append, h]
  simp [hn]

theorem hasB_yes (l : List UInt8) (c k : Nat) (x : UInt8) (hx : l[k]? = some x) (hn : (x.toNat == c) = true) : hasB l c = true := by
  unfold hasB
  rw [List.any_eq_true]
  exact ⟨x, List.mem_of_getElem? hx, hn⟩

set_option maxRecDepth 10000 in
set_option maxHeartbeats 800000 in
theorem has_any (l : List UInt8) (c : Nat) (w : World) (hl : l.length ≤ 100) :
    Calls Tryd.prog 36 #[.string (strV l), .int .u8 (c : Int)] w fun e w' => e = .returned (.bool (hasB l c)) ∧ w = w' := by
  have HS := Lib.hid (strV_size l)
  have HG := Lib.hid (strV_get l)
  have hsz : (strV l).size ≤ 100 := hl
  clear hl
  generalize strV l = s at *
  go_enter Tryd.func36, Tryd.ntmps36
  go_wp2
  go_loop [4, 5] (fun v i => ∃ k : Nat, k ≤ s.size ∧ i = .int .i64 (k : Int) ∧ Hid (hasB (l.take k) c = false)) (fun _ i => s.size - (intOf i).toNat)
  case atStart => exact ⟨0, Nat.zero_le _, rfl, Lib.hid rfl⟩
  case round =>
    obtain ⟨k, hk, rfl, hno⟩ := hrel
    by_cases hlt : k < s.size
    · have d1 : decide ((k : Int) < (s.size : Int)) = true := decide_eq_true (by omega)
      obtain ⟨x, hx⟩ : ∃ x, l[k]? = some x := ⟨_, List.getElem?_eq_getElem (by rw [← HS.out]; exact hlt)⟩
      have hget : ∀ h, s[k]'h = x := fun h => HG.out k x hx h
      have HX := Lib.hid hx
      have HN := hasB_take l c k x hx hno.out
      have HY := hasB_yes l c k x hx
      have HN := Lib.hid HN
      have HY := Lib.hid HY
      clear hx
      by_cases he : x.toNat = c
      · have t : ((x.toNat : Int) == (c : Int)) = true := by simp; omega
        have HB : Hid (hasB l c = true) := HY.out (by simp; omega)
        clear he
        go_wp2
        go_ret
        exact ⟨by rw [HB.out]; rfl, rfl⟩
      · have t : ((x.toNat : Int) == (c : Int)) = false := by rw [beq_eq_false_iff_ne]; omega
        have HB : Hid (hasB (l.take (k + 1)) c = false) := HN.out (by simp; omega)
        clear he
        go_wp2
        go_round
        case rel => exact ⟨k + 1, by omega, by go_num, HB⟩
        case measure => simp [intOf]; omega
    · have d1 : decide ((k : Int) < (s.size : Int)) = false := decide_eq_false (by omega)
      have HB : Hid (hasB l c = false) := by
        have h := hno.out
        rw [List.take_of_length_le (by rw [← HS.out]; omega)] at h
        exact h
      go_wp2
      go_ret
      exact ⟨by rw [HB.out]; rfl, rfl⟩
end

section
open Go.RowKit
set_option linter.unusedVariables false

/-- A kind's letters. -/
def formL (k : Nat) : List UInt8 :=
  match k with
  | 0 => [80]
  | 1 => []
  | 2 => [65]
  | 3 => [69]
  | 4 => [105, 99, 109]
  | 5 => [105, 99]
  | 6 => [111, 100]
  | 7 => [100]
  | 8 => [83]
  | 16 => [109]
  | 17 => [105, 109]
  | 18 => [109]
  | 19 => [109]
  | 20 => [109]
  | 21 => [105, 109]
  | 22 => [109]
  | 23 => [109]
  | 24 => [105, 109, 67]
  | 25 => [105]
  | 26 => [68]
  | 27 => [68]
  | 28 => [99, 109, 100]
  | 29 => [99, 100]
  | 30 => []
  | _ => []
/-- Is there such a kind? -/
def formK (k : Nat) : Bool := decide (k = 0 ∨ k = 1 ∨ k = 2 ∨ k = 3 ∨ k = 4 ∨ k = 5 ∨ k = 6 ∨ k = 7 ∨ k = 8 ∨ k = 16 ∨ k = 17 ∨ k = 18 ∨ k = 19 ∨ k = 20 ∨ k = 21 ∨ k = 22 ∨ k = 23 ∨ k = 24 ∨ k = 25 ∨ k = 26 ∨ k = 27 ∨ k = 28 ∨ k = 29 ∨ k = 30)

set_option maxRecDepth 10000 in
theorem form_0 (w : World) : Calls Tryd.prog 13 #[.int .u64 0] w fun e w' => e = .returned (.tuple #[.string (strV (formL 0)), .bool (formK 0)]) ∧ w = w' := by
  go_enter Tryd.func13, Tryd.ntmps13
  go_wp2
  go_ret2
  exact ⟨rfl, rfl⟩

set_option maxRecDepth 10000 in
theorem form_1 (w : World) : Calls Tryd.prog 13 #[.int .u64 1] w fun e w' => e = .returned (.tuple #[.string (strV (formL 1)), .bool (formK 1)]) ∧ w = w' := by
  go_enter Tryd.func13, Tryd.ntmps13
  go_wp2
  go_ret2
  exact ⟨rfl, rfl⟩

set_option maxRecDepth 10000 in
theorem form_2 (w : World) : Calls Tryd.prog 13 #[.int .u64 2] w fun e w' => e = .returned (.tuple #[.string (strV (formL 2)), .bool (formK 2)]) ∧ w = w' := by
  go_enter Tryd.func13, Tryd.ntmps13
  go_wp2
  go_ret2
  exact ⟨rfl, rfl⟩

set_option maxRecDepth 10000 in
theorem form_3 (w : World) : Calls Tryd.prog 13 #[.int .u64 3] w fun e w' => e = .returned (.tuple #[.string (strV (formL 3)), .bool (formK 3)]) ∧ w = w' := by
  go_enter Tryd.func13, Tryd.ntmps13
  go_wp2
  go_ret2
  exact ⟨rfl, rfl⟩

set_option maxRecDepth 10000 in
theorem form_4 (w : World) : Calls Tryd.prog 13 #[.int .u64 4] w fun e w' => e = .returned (.tuple #[.string (strV (formL 4)), .bool (formK 4)]) ∧ w = w' := by
  go_enter Tryd.func13, Tryd.ntmps13
  go_wp2
  go_ret2
  exact ⟨rfl, rfl⟩

set_option maxRecDepth 10000 in
theorem form_5 (w : World) : Calls Tryd.prog 13 #[.int .u64 5] w fun e w' => e = .returned (.tuple #[.string (strV (formL 5)), .bool (formK 5)]) ∧ w = w' := by
  go_enter Tryd.func13, Tryd.ntmps13
  go_wp2
  go_ret2
  exact ⟨rfl, rfl⟩

set_option maxRecDepth 10000 in
theorem form_6 (w : World) : Calls Tryd.prog 13 #[.int .u64 6] w fun e w' => e = .returned (.tuple #[.string (strV (formL 6)), .bool (formK 6)]) ∧ w = w' := by
  go_enter Tryd.func13, Tryd.ntmps13
  go_wp2
  go_ret2
  exact ⟨rfl, rfl⟩

set_option maxRecDepth 10000 in
theorem form_7 (w : World) : Calls Tryd.prog 13 #[.int .u64 7] w fun e w' => e = .returned (.tuple #[.string (strV (formL 7)), .bool (formK 7)]) ∧ w = w' := by
  go_enter Tryd.func13, Tryd.ntmps13
  go_wp2
  go_ret2
  exact ⟨rfl, rfl⟩

set_option maxRecDepth 10000 in
theorem form_8 (w : World) : Calls Tryd.prog 13 #[.int .u64 8] w fun e w' => e = .returned (.tuple #[.string (strV (formL 8)), .bool (formK 8)]) ∧ w = w' := by
  go_enter Tryd.func13, Tryd.ntmps13
  go_wp2
  go_ret2
  exact ⟨rfl, rfl⟩

set_option maxRecDepth 10000 in
theorem form_9 (w : World) : Calls Tryd.prog 13 #[.int .u64 9] w fun e w' => e = .returned (.tuple #[.string (strV (formL 9)), .bool (formK 9)]) ∧ w = w' := by
  go_enter Tryd.func13, Tryd.ntmps13
  go_wp2
  go_ret2
  exact ⟨rfl, rfl⟩

set_option maxRecDepth 10000 in
theorem form_10 (w : World) : Calls Tryd.prog 13 #[.int .u64 10] w fun e w' => e = .returned (.tuple #[.string (strV (formL 10)), .bool (formK 10)]) ∧ w = w' := by
  go_enter Tryd.func13, Tryd.ntmps13
  go_wp2
  go_ret2
  exact ⟨rfl, rfl⟩

set_option maxRecDepth 10000 in
theorem form_11 (w : World) : Calls Tryd.prog 13 #[.int .u64 11] w fun e w' => e = .returned (.tuple #[.string (strV (formL 11)), .bool (formK 11)]) ∧ w = w' := by
  go_enter Tryd.func13, Tryd.ntmps13
  go_wp2
  go_ret2
  exact ⟨rfl, rfl⟩

set_option maxRecDepth 10000 in
theorem form_12 (w : World) : Calls Tryd.prog 13 #[.int .u64 12] w fun e w' => e = .returned (.tuple #[.string (strV (formL 12)), .bool (formK 12)]) ∧ w = w' := by
  go_enter Tryd.func13, Tryd.ntmps13
  go_wp2
  go_ret2
  exact ⟨rfl, rfl⟩

set_option maxRecDepth 10000 in
theorem form_13 (w : World) : Calls Tryd.prog 13 #[.int .u64 13] w fun e w' => e = .returned (.tuple #[.string (strV (formL 13)), .bool (formK 13)]) ∧ w = w' := by
  go_enter Tryd.func13, Tryd.ntmps13
  go_wp2
  go_ret2
  exact ⟨rfl, rfl⟩

set_option maxRecDepth 10000 in
theorem form_14 (w : World) : Calls Tryd.prog 13 #[.int .u64 14] w fun e w' => e = .returned (.tuple #[.string (strV (formL 14)), .bool (formK 14)]) ∧ w = w' := by
  go_enter Tryd.func13, Tryd.ntmps13
  go_wp2
  go_ret2
  exact ⟨rfl, rfl⟩

set_option maxRecDepth 10000 in
theorem form_15 (w : World) : Calls Tryd.prog 13 #[.int .u64 15] w fun e w' => e = .returned (.tuple #[.string (strV (formL 15)), .bool (formK 15)]) ∧ w = w' := by
  go_enter Tryd.func13, Tryd.ntmps13
  go_wp2
  go_ret2
  exact ⟨rfl, rfl⟩

set_option maxRecDepth 10000 in
theorem form_16 (w : World) : Calls Tryd.prog 13 #[.int .u64 16] w fun e w' => e = .returned (.tuple #[.string (strV (formL 16)), .bool (formK 16)]) ∧ w = w' := by
  go_enter Tryd.func13, Tryd.ntmps13
  go_wp2
  go_ret2
  exact ⟨rfl, rfl⟩

set_option maxRecDepth 10000 in
theorem form_17 (w : World) : Calls Tryd.prog 13 #[.int .u64 17] w fun e w' => e = .returned (.tuple #[.string (strV (formL 17)), .bool (formK 17)]) ∧ w = w' := by
  go_enter Tryd.func13, Tryd.ntmps13
  go_wp2
  go_ret2
  exact ⟨rfl, rfl⟩

set_option maxRecDepth 10000 in
theorem form_18 (w : World) : Calls Tryd.prog 13 #[.int .u64 18] w fun e w' => e = .returned (.tuple #[.string (strV (formL 18)), .bool (formK 18)]) ∧ w = w' := by
  go_enter Tryd.func13, Tryd.ntmps13
  go_wp2
  go_ret2
  exact ⟨rfl, rfl⟩

set_option maxRecDepth 10000 in
theorem form_19 (w : World) : Calls Tryd.prog 13 #[.int .u64 19] w fun e w' => e = .returned (.tuple #[.string (strV (formL 19)), .bool (formK 19)]) ∧ w = w' := by
  go_enter Tryd.func13, Tryd.ntmps13
  go_wp2
  go_ret2
  exact ⟨rfl, rfl⟩

set_option maxRecDepth 10000 in
theorem form_20 (w : World) : Calls Tryd.prog 13 #[.int .u64 20] w fun e w' => e = .returned (.tuple #[.string (strV (formL 20)), .bool (formK 20)]) ∧ w = w' := by
  go_enter Tryd.func13, Tryd.ntmps13
  go_wp2
  go_ret2
  exact ⟨rfl, rfl⟩

set_option maxRecDepth 10000 in
theorem form_21 (w : World) : Calls Tryd.prog 13 #[.int .u64 21] w fun e w' => e = .returned (.tuple #[.string (strV (formL 21)), .bool (formK 21)]) ∧ w = w' := by
  go_enter Tryd.func13, Tryd.ntmps13
  go_wp2
  go_ret2
  exact ⟨rfl, rfl⟩

set_option maxRecDepth 10000 in
theorem form_22 (w : World) : Calls Tryd.prog 13 #[.int .u64 22] w fun e w' => e = .returned (.tuple #[.string (strV (formL 22)), .bool (formK 22)]) ∧ w = w' := by
  go_enter Tryd.func13, Tryd.ntmps13
  go_wp2
  go_ret2
  exact ⟨rfl, rfl⟩

set_option maxRecDepth 10000 in
theorem form_23 (w : World) : Calls Tryd.prog 13 #[.int .u64 23] w fun e w' => e = .returned (.tuple #[.string (strV (formL 23)), .bool (formK 23)]) ∧ w = w' := by
  go_enter Tryd.func13, Tryd.ntmps13
  go_wp2
  go_ret2
  exact ⟨rfl, rfl⟩

set_option maxRecDepth 10000 in
theorem form_24 (w : World) : Calls Tryd.prog 13 #[.int .u64 24] w fun e w' => e = .returned (.tuple #[.string (strV (formL 24)), .bool (formK 24)]) ∧ w = w' := by
  go_enter Tryd.func13, Tryd.ntmps13
  go_wp2
  go_ret2
  exact ⟨rfl, rfl⟩

set_option maxRecDepth 10000 in
theorem form_25 (w : World) : Calls Tryd.prog 13 #[.int .u64 25] w fun e w' => e = .returned (.tuple #[.string (strV (formL 25)), .bool (formK 25)]) ∧ w = w' := by
  go_enter Tryd.func13, Tryd.ntmps13
  go_wp2
  go_ret2
  exact ⟨rfl, rfl⟩

set_option maxRecDepth 10000 in
theorem form_26 (w : World) : Calls Tryd.prog 13 #[.int .u64 26] w fun e w' => e = .returned (.tuple #[.string (strV (formL 26)), .bool (formK 26)]) ∧ w = w' := by
  go_enter Tryd.func13, Tryd.ntmps13
  go_wp2
  go_ret2
  exact ⟨rfl, rfl⟩

set_option maxRecDepth 10000 in
theorem form_27 (w : World) : Calls Tryd.prog 13 #[.int .u64 27] w fun e w' => e = .returned (.tuple #[.string (strV (formL 27)), .bool (formK 27)]) ∧ w = w' := by
  go_enter Tryd.func13, Tryd.ntmps13
  go_wp2
  go_ret2
  exact ⟨rfl, rfl⟩

set_option maxRecDepth 10000 in
theorem form_28 (w : World) : Calls Tryd.prog 13 #[.int .u64 28] w fun e w' => e = .returned (.tuple #[.string (strV (formL 28)), .bool (formK 28)]) ∧ w = w' := by
  go_enter Tryd.func13, Tryd.ntmps13
  go_wp2
  go_ret2
  exact ⟨rfl, rfl⟩

set_option maxRecDepth 10000 in
theorem form_29 (w : World) : Calls Tryd.prog 13 #[.int .u64 29] w fun e w' => e = .returned (.tuple #[.string (strV (formL 29)), .bool (formK 29)]) ∧ w = w' := by
  go_enter Tryd.func13, Tryd.ntmps13
  go_wp2
  go_ret2
  exact ⟨rfl, rfl⟩

set_option maxRecDepth 10000 in
theorem form_30 (w : World) : Calls Tryd.prog 13 #[.int .u64 30] w fun e w' => e = .returned (.tuple #[.string (strV (formL 30)), .bool (formK 30)]) ∧ w = w' := by
  go_enter Tryd.func13, Tryd.ntmps13
  go_wp2
  go_ret2
  exact ⟨rfl, rfl⟩

set_option maxRecDepth 10000 in
theorem form_else (k : Nat) (w : World) (h : 31 ≤ k) : Calls Tryd.prog 13 #[.int .u64 (k : Int)] w fun e w' => e = .returned (.tuple #[.string (strV (formL k)), .bool (formK k)]) ∧ w = w' := by
  have t0 : ((k : Int) == 0) = false := by rw [beq_eq_false_iff_ne]; omega
  have t1 : ((k : Int) == 1) = false := by rw [beq_eq_false_iff_ne]; omega
  have t2 : ((k : Int) == 2) = false := by rw [beq_eq_false_iff_ne]; omega
  have t3 : ((k : Int) == 3) = false := by rw [beq_eq_false_iff_ne]; omega
  have t4 : ((k : Int) == 4) = false := by rw [beq_eq_false_iff_ne]; omega
  have t5 : ((k : Int) == 5) = false := by rw [beq_eq_false_iff_ne]; omega
  have t6 : ((k : Int) == 6) = false := by rw [beq_eq_false_iff_ne]; omega
  have t7 : ((k : Int) == 7) = false := by rw [beq_eq_false_iff_ne]; omega
  have t8 : ((k : Int) == 8) = false := by rw [beq_eq_false_iff_ne]; omega
  have t16 : ((k : Int) == 16) = false := by rw [beq_eq_false_iff_ne]; omega
  have t17 : ((k : Int) == 17) = false := by rw [beq_eq_false_iff_ne]; omega
  have t18 : ((k : Int) == 18) = false := by rw [beq_eq_false_iff_ne]; omega
  have t19 : ((k : Int) == 19) = false := by rw [beq_eq_false_iff_ne]; omega
  have t20 : ((k : Int) == 20) = false := by rw [beq_eq_false_iff_ne]; omega
  have t21 : ((k : Int) == 21) = false := by rw [beq_eq_false_iff_ne]; omega
  have t22 : ((k : Int) == 22) = false := by rw [beq_eq_false_iff_ne]; omega
  have t23 : ((k : Int) == 23) = false := by rw [beq_eq_false_iff_ne]; omega
  have t24 : ((k : Int) == 24) = false := by rw [beq_eq_false_iff_ne]; omega
  have t25 : ((k : Int) == 25) = false := by rw [beq_eq_false_iff_ne]; omega
  have t26 : ((k : Int) == 26) = false := by rw [beq_eq_false_iff_ne]; omega
  have t27 : ((k : Int) == 27) = false := by rw [beq_eq_false_iff_ne]; omega
  have t28 : ((k : Int) == 28) = false := by rw [beq_eq_false_iff_ne]; omega
  have t29 : ((k : Int) == 29) = false := by rw [beq_eq_false_iff_ne]; omega
  have t30 : ((k : Int) == 30) = false := by rw [beq_eq_false_iff_ne]; omega
  have HL : Hid (formL k = []) := by
    show _ = _
    unfold formL
    split <;> first | rfl | omega
  have HK : Hid (formK k = false) := decide_eq_false (by omega)
  clear h
  go_enter Tryd.func13, Tryd.ntmps13
  go_wp2
  go_ret2
  exact ⟨by rw [HL.out, HK.out]; rfl, rfl⟩

theorem form_any (k : Nat) (w : World) : Calls Tryd.prog 13 #[.int .u64 (k : Int)] w fun e w' => e = .returned (.tuple #[.string (strV (formL k)), .bool (formK k)]) ∧ w = w' := by
  by_cases h : 31 ≤ k
  · exact form_else k w h
  · match k, h with
    | 0, _ => exact form_0 w
    | 1, _ => exact form_1 w
    | 2, _ => exact form_2 w
    | 3, _ => exact form_3 w
    | 4, _ => exact form_4 w
    | 5, _ => exact form_5 w
    | 6, _ => exact form_6 w
    | 7, _ => exact form_7 w
    | 8, _ => exact form_8 w
    | 9, _ => exact form_9 w
    | 10, _ => exact form_10 w
    | 11, _ => exact form_11 w
    | 12, _ => exact form_12 w
    | 13, _ => exact form_13 w
    | 14, _ => exact form_14 w
    | 15, _ => exact form_15 w
    | 16, _ => exact form_16 w
    | 17, _ => exact form_17 w
    | 18, _ => exact form_18 w
    | 19, _ => exact form_19 w
    | 20, _ => exact form_20 w
    | 21, _ => exact form_21 w
    | 22, _ => exact form_22 w
    | 23, _ => exact form_23 w
    | 24, _ => exact form_24 w
    | 25, _ => exact form_25 w
    | 26, _ => exact form_26 w
    | 27, _ => exact form_27 w
    | 28, _ => exact form_28 w
    | 29, _ => exact form_29 w
    | 30, _ => exact form_30 w
    | (n + 31), h => exact absurd (by omega) h
end

section
open Go.RowKit
set_option linter.unusedVariables false

def nzB (x : UInt8) : Bool := (x.toNat : Int) != 0
def ecnZ (f : PF) : Bool := ((f.e0 : Int) != 0) || ((f.e1 : Int) != 0) || ((f.e2 : Int) != 0)

/-- Has a frame something that its form (letters l; as a text: t) has not? -/
def spareB (f : PF) (t l : List UInt8) : Bool :=
  (!(hasB l 105 || (t == [83])) && ((f.id : Int) != 0)) || (!(hasB l 111 || (t == [83])) && ((f.off : Int) != 0)) || (!hasB l 109 && ((f.max : Int) != 0)) || (!hasB l 99 && ((f.code : Int) != 0)) || (!(t == [80]) && ((f.n : Int) != 0)) || (!(t == [83]) && f.fin) || (!((hasB l 100 || hasB l 68) || (t == [83])) && decide ((f.data.length : Int) > 0)) || (!hasB l 67 && (decide ((f.cid.length : Int) > 0) || f.token.any nzB)) || (!((t == [65]) || (t == [69])) && (decide ((f.acks.length : Int) > 0) || ((f.delay : Int) != 0))) || (!(t == [69]) && ecnZ f)


/-- The letters and the program's bits are one. -/
def bitsL (k : Nat) : Prop :=
  (hasB (formL k) 105 || ((strV (formL k)).toList == [83])) = bt (partsN k) 2 ∧
  (hasB (formL k) 111 || ((strV (formL k)).toList == [83])) = bt (partsN k) 4 ∧
  hasB (formL k) 109 = bt (partsN k) 16 ∧ hasB (formL k) 99 = bt (partsN k) 8 ∧
  ((strV (formL k)).toList == [80]) = bt (partsN k) 32 ∧ ((strV (formL k)).toList == [83]) = bt (partsN k) 64 ∧
  ((hasB (formL k) 100 || hasB (formL k) 68) || ((strV (formL k)).toList == [83])) = bt (partsN k) 1024 ∧
  hasB (formL k) 67 = bt (partsN k) 2048 ∧ (((strV (formL k)).toList == [65]) || ((strV (formL k)).toList == [69])) = bt (partsN k) 128 ∧
  ((strV (formL k)).toList == [69]) = bt (partsN k) 256

instance (k : Nat) : Decidable (bitsL k) := by unfold bitsL; infer_instance

theorem bits_all : ∀ k : Nat, k < 31 → bitsL k ∧ formK k = bt (partsN k) 1 := by decide +kernel

theorem formK_big {k : Nat} (h : 31 ≤ k) : formK k = false := decide_eq_false (by omega)
theorem parts0_big {k : Nat} (h : 31 ≤ k) : bt (partsN k) 1 = false := by rw [partsN_big h]; rfl

theorem tok_nz (l : List UInt8) (hl : l.length = 16) : tokB l = !l.any nzB := by
  have h : ∀ (l : List UInt8) (n : Nat), l.length = n → decide ((l.map fun x => (x.toNat : Int)) = List.replicate n 0) = !l.any nzB := by
    intro l
    induction l with
    | nil => intro n hn; simp at hn; subst hn; rfl
    | cons x t ih =>
      intro n hn
      obtain ⟨m, rfl⟩ : ∃ m, n = m + 1 := ⟨n - 1, by simp at hn; omega⟩
      have hm : t.length = m := by simp at hn; omega
      have hi := ih m hm
      rw [List.map_cons, List.replicate_succ, List.any_cons, Bool.not_or, ← hi]
      by_cases hx : x.toNat = 0
      · simp [nzB, hx]
      · simp [nzB, hx]
  exact h l 16 hl

theorem ecn_nz (f : PF) : ecnB f = !ecnZ f := by
  unfold ecnB ecnZ
  by_cases h0 : f.e0 = 0 <;> by_cases h1 : f.e1 = 0 <;> by_cases h2 : f.e2 = 0 <;> simp [h0, h1, h2]

theorem gt_eq (n : Nat) : decide ((n : Int) > 0) = !((n : Int) == 0) := by
  by_cases h : n = 0
  · subst h; rfl
  · have h1 : decide ((n : Int) > 0) = true := decide_eq_true (by omega)
    have h2 : ((n : Int) == 0) = false := by rw [beq_eq_false_iff_ne]; omega
    rw [h1, h2]; rfl

theorem spare_only {f : PF} (hk : f.kind < 31) (ht : f.token.length = 16) : spareB f (strV (formL f.kind)).toList (formL f.kind) = !onlyB f (partsN f.kind) := by
  obtain ⟨⟨b1, b2, b3, b4, b5, b6, b7, b8, b9, b10⟩, _⟩ := bits_all f.kind hk
  have ht2 := tok_nz f.token ht
  have he2 := ecn_nz f
  have ht3 : f.token.any nzB = !tokB f.token := by rw [ht2, Bool.not_not]
  have he3 : ecnZ f = !ecnB f := by rw [he2, Bool.not_not]
  unfold spareB onlyB
  rw [b1, b2, b7, b3, b4, b5, b6, b8, b9, b10, ht3, he3, gt_eq, gt_eq, gt_eq]
  simp only [bne]
  generalize ((f.id : Int) == 0) = a1
  generalize ((f.off : Int) == 0) = a2
  generalize ((f.max : Int) == 0) = a3
  generalize ((f.code : Int) == 0) = a4
  generalize ((f.n : Int) == 0) = a5
  generalize ((f.data.length : Int) == 0) = a6
  generalize ((f.cid.length : Int) == 0) = a7
  generalize ((f.acks.length : Int) == 0) = a8
  generalize ((f.delay : Int) == 0) = a9
  simp only [Bool.not_and, Bool.not_or, Bool.not_not]
  generalize (!bt (partsN f.kind) 2 && !a1) = c1
  generalize (!bt (partsN f.kind) 4 && !a2) = c2
  generalize (!bt (partsN f.kind) 16 && !a3) = c3
  generalize (!bt (partsN f.kind) 8 && !a4) = c4
  generalize (!bt (partsN f.kind) 32 && !a5) = c5
  generalize (!bt (partsN f.kind) 64 && f.fin) = c6
  generalize (!bt (partsN f.kind) 1024 && !a6) = c7
  generalize (!bt (partsN f.kind) 2048 && (!a7 || !tokB f.token)) = c8
  generalize (!bt (partsN f.kind) 128 && (!a8 || !a9)) = c9
  generalize (!bt (partsN f.kind) 256 && !ecnB f) = c10
  cases c1 <;> cases c2 <;> cases c3 <;> cases c4 <;> cases c5 <;> cases c6 <;> cases c7 <;> cases c8 <;> cases c9 <;> cases c10 <;> rfl

/-- The bounds of a frame's own kind, as the document's answer has them. -/
def KindR (f : PF) : Prop :=
  (f.kind = 0 → 0 < f.n ∧ f.n ≤ 65536) ∧ (f.kind = 2 ∨ f.kind = 3 → OkR f.acks ∧ f.acks ≠ []) ∧ (f.kind = 6 ∨ f.kind = 8 → f.data.length ≤ 4611686018427387903 ∧ f.off ≤ 4611686018427387903 - f.data.length) ∧
    (f.kind = 7 → 0 < f.data.length) ∧ (f.kind = 18 ∨ f.kind = 19 ∨ f.kind = 22 ∨ f.kind = 23 → f.max ≤ 1152921504606846976) ∧
    (f.kind = 24 → 0 < f.cid.length ∧ f.cid.length ≤ 20 ∧ f.max ≤ f.id) ∧ (f.kind = 26 ∨ f.kind = 27 → f.data.length = 8)

def SmallR (f : PF) : Prop := f.id ≤ 4611686018427387903 ∧ f.off ≤ 4611686018427387903 ∧ f.max ≤ 4611686018427387903 ∧ f.code ≤ 4611686018427387903 ∧ f.delay ≤ 4611686018427387903 ∧ f.e0 ≤ 4611686018427387903 ∧ f.e1 ≤ 4611686018427387903 ∧ f.e2 ≤ 4611686018427387903

def MayR (f : PF) : Prop := formK f.kind = true ∧ spareB f (strV (formL f.kind)).toList (formL f.kind) = false ∧ SmallR f ∧ KindR f

theorem off_bit : ∀ k : Nat, k < 31 → bt (partsN k) 4 = true → k = 6 ∨ k = 8 := by decide +kernel

theorem onlyB_off {f : PF} {p : Nat} (h : onlyB f p = true) (hb : bt p 4 = false) : f.off = 0 := by
  unfold onlyB at h
  simp only [Bool.and_eq_true, Bool.or_eq_true] at h
  have h2 := h.1.1.1.1.1.1.1.1.2
  rw [hb] at h2
  simp at h2
  exact h2

theorem may_iff {f : PF} (ht : f.token.length = 16) (hd : f.data.length ≤ 140737488355328) : MayR f ↔ MayF f := by
  by_cases hk : f.kind < 31
  · have hsp := spare_only hk ht
    have hkk := (bits_all f.kind hk).2
    have hnum : numsB f = true ↔ (SmallR f ∧ f.off + f.data.length ≤ 4611686018427387903) := by
      unfold numsB topN SmallR
      simp only [Bool.and_eq_true, decide_eq_true_iff]
      omega
    constructor
    · rintro ⟨h1, h2, h3, h4⟩
      have ho : onlyB f (partsN f.kind) = true := by rw [hsp] at h2; simpa using h2
      refine ⟨by rw [← hkk]; exact h1, ho, hnum.2 ⟨h3, ?_⟩, ?_⟩
      · by_cases h68 : f.kind = 6 ∨ f.kind = 8
        · have := h4.2.2.1 h68; omega
        · have hb : bt (partsN f.kind) 4 = false := by
            cases hb : bt (partsN f.kind) 4
            · rfl
            · exact absurd (off_bit f.kind hk hb) h68
          have := onlyB_off ho hb
          omega
      · exact ⟨fun h => by have := h4.1 h; omega, h4.2.1, h4.2.2.2.1, h4.2.2.2.2.1, h4.2.2.2.2.2.1, h4.2.2.2.2.2.2⟩
    · rintro ⟨h1, h2, h3, h4⟩
      have h5 := hnum.1 h3
      refine ⟨by rw [hkk]; exact h1, by rw [hsp, h2]; rfl, h5.1, fun h => by have := h4.1 h; omega, h4.2.1, fun _ => ⟨by omega, by omega⟩, h4.2.2.1, h4.2.2.2.1, h4.2.2.2.2.1, h4.2.2.2.2.2⟩
  · have h1 := formK_big (Nat.le_of_not_lt hk)
    have h2 := parts0_big (Nat.le_of_not_lt hk)
    constructor
    · rintro ⟨h, _⟩; rw [h1] at h; cases h
    · rintro ⟨h, _⟩; rw [h2] at h; cases h
end

end Go.Proofs.YtkkojhkglcigmaaDoor
