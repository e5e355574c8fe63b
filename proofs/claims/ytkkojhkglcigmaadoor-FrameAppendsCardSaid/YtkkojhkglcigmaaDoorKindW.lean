/-
  The walks through frame.isStream, streamParts and reader.length.
-/
import Derived.Test.YtkkojhkglcigmaaDoorAcks
namespace Go.Proofs.YtkkojhkglcigmaaDoor
open Go.RowKit
set_option linter.unusedVariables false

theorem andNot7 : ∀ k : Nat, k < 256 → bits .andNot .u64 (k : Int) 7 = ((k / 8 * 8 : Nat) : Int) := by decide +kernel

set_option maxRecDepth 10000 in
set_option maxHeartbeats 400000 in
theorem isStream_any (k : Nat) (w : World) (hk : k < 256) :
    Calls Tryd.prog 43 #[.int .u64 (k : Int)] w fun e w' => e = .returned (.bool (decide (k / 8 = 1))) ∧ w = w' := by
  have hA := andNot7 k hk
  by_cases h : k / 8 = 1
  · have H := Lib.hid h
    have t1 : (((k / 8 * 8 : Nat) : Int) == 8) = true := by rw [beq_iff_eq, h]; rfl
    generalize ((k / 8 * 8 : Nat) : Int) = q at *
    clear h hk
    go_enter Tryd.func43, Tryd.ntmps43
    go_wp2
    go_ret
    exact ⟨by rw [decide_eq_true H.out]; rfl, rfl⟩
  · have H := Lib.hid h
    have t1 : (((k / 8 * 8 : Nat) : Int) == 8) = false := by rw [beq_eq_false_iff_ne]; omega
    generalize ((k / 8 * 8 : Nat) : Int) = q at *
    clear h hk
    go_enter Tryd.func43, Tryd.ntmps43
    go_wp2
    go_ret
    exact ⟨by rw [decide_eq_false H.out]; rfl, rfl⟩

/-- What a stream's bytes name, by its kind. -/
def strN (k : Nat) : Nat := 1607 - (if k / 4 % 2 = 0 then 4 else 0) - (if k / 2 % 2 = 0 then 512 else 0)

set_option maxRecDepth 10000 in
set_option maxHeartbeats 1000000 in
theorem streamParts_any (k : Nat) (w : World) (hT : PT w) (h : k / 8 = 1) :
    Calls Tryd.prog 44 #[.int .u64 (k : Int)] w fun e w' => e = .returned (.int .u16 (strN k : Nat)) ∧ w = w' := by
  have HP := Lib.hid (show ∀ w : World, PT w → Calls Tryd.prog 26 #[.int .u64 8] w (fun e w' => e = .returned (.int .u16 1607) ∧ w = w') from fun w h => partsOf_any 8 w h)
  have HT := Lib.hid hT
  clear hT
  have a1 : bits .andNot .u16 1607 4 = 1603 := by decide
  have a2 : bits .andNot .u16 1607 512 = 1095 := by decide
  have a3 : bits .andNot .u16 1603 512 = 1091 := by decide
  have hk : k = 8 ∨ k = 9 ∨ k = 10 ∨ k = 11 ∨ k = 12 ∨ k = 13 ∨ k = 14 ∨ k = 15 := by omega
  clear h
  rcases hk with rfl | rfl | rfl | rfl | rfl | rfl | rfl | rfl
  · have b1 : bits .and .u64 8 4 = 0 := by decide
    have b2 : bits .and .u64 8 2 = 0 := by decide
    go_enter Tryd.func44, Tryd.ntmps44
    go_wp2_with (go_at_call 26; refine (HP.out _ HT.out).mono ?_; rintro e w' ⟨rfl, rfl⟩)
    go_ret
    exact ⟨rfl, rfl⟩
  · have b1 : bits .and .u64 9 4 = 0 := by decide
    have b2 : bits .and .u64 9 2 = 0 := by decide
    go_enter Tryd.func44, Tryd.ntmps44
    go_wp2_with (go_at_call 26; refine (HP.out _ HT.out).mono ?_; rintro e w' ⟨rfl, rfl⟩)
    go_ret
    exact ⟨rfl, rfl⟩
  · have b1 : bits .and .u64 10 4 = 0 := by decide
    have b2 : bits .and .u64 10 2 = 2 := by decide
    go_enter Tryd.func44, Tryd.ntmps44
    go_wp2_with (go_at_call 26; refine (HP.out _ HT.out).mono ?_; rintro e w' ⟨rfl, rfl⟩)
    go_ret
    exact ⟨rfl, rfl⟩
  · have b1 : bits .and .u64 11 4 = 0 := by decide
    have b2 : bits .and .u64 11 2 = 2 := by decide
    go_enter Tryd.func44, Tryd.ntmps44
    go_wp2_with (go_at_call 26; refine (HP.out _ HT.out).mono ?_; rintro e w' ⟨rfl, rfl⟩)
    go_ret
    exact ⟨rfl, rfl⟩
  · have b1 : bits .and .u64 12 4 = 4 := by decide
    have b2 : bits .and .u64 12 2 = 0 := by decide
    go_enter Tryd.func44, Tryd.ntmps44
    go_wp2_with (go_at_call 26; refine (HP.out _ HT.out).mono ?_; rintro e w' ⟨rfl, rfl⟩)
    go_ret
    exact ⟨rfl, rfl⟩
  · have b1 : bits .and .u64 13 4 = 4 := by decide
    have b2 : bits .and .u64 13 2 = 0 := by decide
    go_enter Tryd.func44, Tryd.ntmps44
    go_wp2_with (go_at_call 26; refine (HP.out _ HT.out).mono ?_; rintro e w' ⟨rfl, rfl⟩)
    go_ret
    exact ⟨rfl, rfl⟩
  · have b1 : bits .and .u64 14 4 = 4 := by decide
    have b2 : bits .and .u64 14 2 = 2 := by decide
    go_enter Tryd.func44, Tryd.ntmps44
    go_wp2_with (go_at_call 26; refine (HP.out _ HT.out).mono ?_; rintro e w' ⟨rfl, rfl⟩)
    go_ret
    exact ⟨rfl, rfl⟩
  · have b1 : bits .and .u64 15 4 = 4 := by decide
    have b2 : bits .and .u64 15 2 = 2 := by decide
    go_enter Tryd.func44, Tryd.ntmps44
    go_wp2_with (go_at_call 26; refine (HP.out _ HT.out).mono ?_; rintro e w' ⟨rfl, rfl⟩)
    go_ret
    exact ⟨rfl, rfl⟩

/-- How many bytes Data has: it is told, or goes by the kind. -/
def len_ (told : Bool) (kind : Nat) (l : List UInt8) : Option (Nat × List UInt8) :=
  if told then num_ l else if kind = 8 then some (l.length, l) else some (8, l)

set_option maxRecDepth 10000 in
set_option maxHeartbeats 1000000 in
theorem length_any (kind p : Nat) (l : List UInt8) (w : World) (B rb : Nat) (hr : Rd w B rb l) :
    Calls Tryd.prog 50 #[.pointer (some ⟨rb, 0, none⟩), .int .u64 (kind : Int), .int .u16 (p : Int)] w (RdTold w B rb ((len_ (bt p 512) kind l).map fun x => (.int .u64 (x.1 : Int), x.2))) := by
  have hb : (bits .and .u16 (p : Int) 512 != 0) = bt p 512 := rfl
  have HN := Lib.hid (number_any l w B rb hr)
  have HL : Hid (len_ (bt p 512) kind l = if bt p 512 then num_ l else if kind = 8 then some (l.length, l) else some (8, l)) := rfl
  generalize len_ (bt p 512) kind l = q at *
  have HR := Lib.hid hr
  obtain ⟨A, len, c, hw, hl, hc, hm, hs, hB⟩ := hr
  have hcell := hw.cell 0
  simp only [List.getElem?_toArray, List.getElem?_cons_zero] at hcell
  have HLN := Lib.hid hl
  unfold maxLen at hm
  clear hl
  generalize bt p 512 = b at *
  cases b
  · by_cases h8 : kind = 8
    · subst h8
      obtain rfl : q = some (l.length, l) := HL.out
      go_enter Tryd.func50, Tryd.ntmps50
      go_wp2
      go_ret
      exact ⟨by rw [HLN.out]; rfl, HR.out, World.grownBy.refl _ _⟩
    · obtain rfl : q = some (8, l) := HL.out.trans (by simp [h8])
      have t1 : ((kind : Int) == 8) = false := by rw [beq_eq_false_iff_ne]; omega
      go_enter Tryd.func50, Tryd.ntmps50
      go_wp2
      go_ret
      exact ⟨rfl, HR.out, World.grownBy.refl _ _⟩
  · obtain rfl : q = num_ l := HL.out
    rcases h : num_ l with _ | ⟨n, t⟩
    · rw [h] at HN
      clear h
      go_enter Tryd.func50, Tryd.ntmps50
      go_wp2_with fail
      refine HN.out.mono ?_
      rintro e w' ⟨rfl, hg⟩
      go_wp2
      exact ⟨rfl, rfl, hg⟩
    · rw [h] at HN
      clear h
      go_enter Tryd.func50, Tryd.ntmps50
      go_wp2_with fail
      refine HN.out.mono ?_
      rintro e w' ⟨rfl, hrd, hg⟩
      go_wp2
      go_ret
      exact ⟨rfl, hrd, hg⟩

end Go.Proofs.YtkkojhkglcigmaaDoor
