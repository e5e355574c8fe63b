/-
  From a row's premises to what the walks ask: bytes and numbers that came in; the listed table.
-/
import Derived.Test.YtbkdjnppgdjnaaaDoorRows
import Derived.Test.YtbkdjnppgdjnaaaDoorKnown
import Derived.ProofKit
import Derived.OpenShut
import Derived.ShutString
import Derived.ChangeOld
import Derived.Below
import Derived.LaidMore
import Derived.Stop.Joined
import Derived.Lib.LaidTab
import Derived.Stop.LaidErr
namespace Go.Proofs.YtbkdjnppgdjnaaaDoor
open Go.ChangeShapes Go.WideShapes Go.ChangeAt Go.RowKit
set_option linter.unusedVariables false

theorem own : ownKnob Tryd.prog.godebug = none := by kernel_rfl
theorem laidOut : laidOutB Tryd.prog = true := by kernel_rfl

/-- The variables that the rows list, and what they read as. -/
def laid2 : List (String × DataW Unit) := Rows.varintTakesRow.laid

/-- The second one's name. -/
def tabName : String :=
  match Rows.varintTakesRow.named with
  | [_, n] => n
  | _ => default

theorem gTab : Tryd.prog.globalNamed tabName = some 1 := by kernel_rfl
theorem tTab : (Tryd.prog.globals[1]?).map (·.type) = some 52 := by kernel_rfl

def zsTab : List Int := [0, 1, 56, 2, 57, 49, 28, 3, 61, 58, 42, 50, 38, 29, 17, 4, 62, 47, 59, 36, 45, 43, 51, 22, 53, 39, 33, 30, 24, 18, 12, 5, 63, 55, 48, 27, 60, 41, 37, 16, 46, 35, 44, 21, 52, 32, 23, 11, 54, 26, 40, 15, 34, 20, 31, 10, 25, 14, 19, 9, 13, 8, 7, 6]

theorem tab_of_laid {W : World} (h : laidMetH Tryd.prog laid2 W) : Tab W := by
  rw [MakeChecks.laidMetH_plain _ _ _ (by kernel_rfl)] at h
  have h2 : laidMet Tryd.prog ((tabName, Lib.tabData .u8 zsTab) :: []) W := laidMet.tail h
  have hT := Lib.tabIs_of_head gTab tTab Tryd.underlying52 Tryd.underlying5 (by kernel_rfl) (by kernel_rfl) h2
  exact ⟨hT.cell gTab 0 (by decide), hT.cell gTab 1 (by decide), hT.cell gTab 3 (by decide), hT.cell gTab 7 (by decide)⟩

/-- The heap that the program's own start leaves meets the condition. -/
theorem door_met (os : Os) (args : Array Value) : laidMetH Tryd.prog laid2 ((World.doorLaid Tryd.prog 400 os).forCall (fun _ _ => 0) ⟨#[], args, []⟩).memory :=
  laidMetH_of_parts3 (fuel := 8) (laidMet_of_run' 8 (by kernel_rfl) (by kernel_rfl)) (by kernel_rfl) (by kernel_rfl)

/-- Bytes that came in, as a list of bytes. -/
theorem sl_of_ints {w : World} {B len cap : Nat} {A : Option Addr} {zs : List Int}
    (h : (A = none ∧ len = 0 ∧ cap = 0) ∨ ∃ x, A = some x ∧ x.block < B ∧ len ≤ cap ∧ cap ≤ maxLen ∧ zs.length = cap ∧ (∀ i, i < zs.length → w.cell? (x.add i) = some (.int .u8 (zs.getD i 0))) ∧ ∀ n ∈ zs, (Lit.int .u8 n).wf = true) :
    ∃ l : List UInt8, l.length = len ∧ Sl w B A l ∧ len ≤ cap ∧ cap ≤ maxLen := by
  rcases h with ⟨rfl, rfl, rfl⟩ | ⟨x, rfl, hb, hl, hm, hz, hc, hw⟩
  · exact ⟨[], rfl, Sv.nil _ _ _, Nat.le_refl _, Nat.zero_le _⟩
  · refine ⟨(zs.take len).map fun z => UInt8.ofNat z.toNat, by simp; omega, ?_, hl, hm⟩
    intro hn
    have hpos : 0 < zs.length := by
      rcases Nat.eq_zero_or_pos zs.length with h0 | h0
      · exact absurd (by rw [List.eq_nil_of_length_eq_zero h0]; simp) hn
      · exact h0
    obtain ⟨b, off, spot⟩ := x
    have hspot : spot = none := by simpa [Addr.add] using World.cell?_spot (hc 0 hpos)
    subst hspot
    refine ⟨b, off, rfl, hb, fun i v hv => ?_⟩
    rw [List.getElem?_map, List.getElem?_map, List.getElem?_take] at hv
    split at hv
    · rename_i hi
      have hil : i < zs.length := by omega
      rw [List.getElem?_eq_getElem hil] at hv
      simp only [Option.map_some, Option.some.injEq] at hv
      have hci := hc i hil
      rw [Addr.add_lit] at hci
      rw [hci, ← hv]
      have hwf := hw zs[i] (List.getElem_mem hil)
      have hbd := bounds_u8 hwf
      rw [show zs.getD i 0 = zs[i] by simp [List.getD, hil]]
      unfold cell8
      rw [UInt8.toNat_ofNat', Nat.mod_eq_of_lt (by omega), Int.toNat_of_nonneg hbd.1]
    · cases hv

/-- Numbers of 64 bits that came in, as a list of numbers. -/
theorem sn_of_ints {w : World} {B len cap : Nat} {A : Option Addr} {zs : List Int}
    (h : (A = none ∧ len = 0 ∧ cap = 0) ∨ ∃ x, A = some x ∧ x.block < B ∧ len ≤ cap ∧ cap ≤ maxLen ∧ zs.length = cap ∧ (∀ i, i < zs.length → w.cell? (x.add i) = some (.int .u64 (zs.getD i 0))) ∧ ∀ n ∈ zs, (Lit.int .u64 n).wf = true) :
    ∃ l : List Nat, l.length = len ∧ Sn w B A l ∧ (∀ i n : Nat, l[i]? = some n → n < 18446744073709551616) ∧ len ≤ cap ∧ cap ≤ maxLen := by
  rcases h with ⟨rfl, rfl, rfl⟩ | ⟨x, rfl, hb, hl, hm, hz, hc, hw⟩
  · exact ⟨[], rfl, Sv.nil _ _ _, fun i n h => by simp at h, Nat.le_refl _, Nat.zero_le _⟩
  · refine ⟨(zs.take len).map fun z => z.toNat, by simp; omega, ?_, ?_, hl, hm⟩
    · intro hn
      have hpos : 0 < zs.length := by
        rcases Nat.eq_zero_or_pos zs.length with h0 | h0
        · exact absurd (by rw [List.eq_nil_of_length_eq_zero h0]; simp) hn
        · exact h0
      obtain ⟨b, off, spot⟩ := x
      have hspot : spot = none := by simpa [Addr.add] using World.cell?_spot (hc 0 hpos)
      subst hspot
      refine ⟨b, off, rfl, hb, fun i v hv => ?_⟩
      rw [List.getElem?_map, List.getElem?_map, List.getElem?_take] at hv
      split at hv
      · rename_i hi
        have hil : i < zs.length := by omega
        rw [List.getElem?_eq_getElem hil] at hv
        simp only [Option.map_some, Option.some.injEq] at hv
        have hci := hc i hil
        rw [Addr.add_lit] at hci
        rw [hci, ← hv]
        have hwf := hw zs[i] (List.getElem_mem hil)
        have hbd := bounds_u64 hwf
        rw [show zs.getD i 0 = zs[i] by simp [List.getD, hil]]
        unfold cell64
        rw [Int.toNat_of_nonneg hbd.1]
      · cases hv
    · intro i n hn
      rw [List.getElem?_map, List.getElem?_take] at hn
      split at hn
      · rcases hzi : zs[i]? with _ | z
        · rw [hzi] at hn; cases hn
        · rw [hzi] at hn
          simp only [Option.map_some, Option.some.injEq] at hn
          have hwf := hw z (List.mem_of_getElem? hzi)
          have hbd := bounds_u64 hwf
          omega
      · cases hn

end Go.Proofs.YtbkdjnppgdjnaaaDoor
