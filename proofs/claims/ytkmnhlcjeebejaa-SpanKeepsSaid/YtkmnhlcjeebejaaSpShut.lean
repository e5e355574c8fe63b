/-
  From a row's premises to what the walks ask: ranges, numbers that came in.
-/
import Derived.Test.YtkmnhlcjeebejaaRows
import Derived.Test.YtkmnhlcjeebejaaSpLaw0
import Derived.Lib.SmallJoins
import Derived.ProofKit
import Derived.OpenShut
import Derived.ShutString
import Derived.ChangeOld
import Derived.Below
import Derived.Deep.SlicePairs
namespace Go.Proofs.Ytkmnhlcjeebejaa
open Go.Joins Go.ChangeShapes Go.WideShapes Go.ChangeAt Go.RowKit Go.Deep
set_option linter.unusedVariables false

theorem own : ownKnob Try.prog.godebug = none := by kernel_rfl
theorem laidOut : laidOutB Try.prog = true := by kernel_rfl

/-- A number's value, as a number. -/
def zvS : Value → Nat
  | .int _ z => z.toNat
  | _ => 0
theorem zvS_of {H : Type} {enc : TypeId × Value → H} {W : World} {held : Bool} {n : Nat} {v : Value} {y : DataW H × List MemPlace} (h : DataW.trod enc Try.prog W 0 (fun _ => true) held n 27 [v] = some y) : v = .int .u64 (zvS v : Int) ∧ zvS v ≤ topN := by
  obtain ⟨z, e, _, hw⟩ := DataW.trod_int Try.underlying27 h
  simp only [List.cons.injEq, and_true] at e
  subst e
  have hb := bounds_u64 hw
  simp only [zvS]
  exact ⟨by rw [Int.toNat_of_nonneg hb.1], by unfold topN; omega⟩

set_option maxRecDepth 100000 in
/-- A list of ranges that came in. -/
theorem rgs_open {H : Type} {enc : TypeId × Value → H} {W : World} {held : Bool} {n : Nat} {v : Value} {y : DataW H × List MemPlace} (h : DataW.trod enc Try.prog W 0 (fun _ => true) held n 24 [v] = some y) :
    ∃ (A : Option Addr) (c : Nat) (l : List (Nat × Nat)), v = .slice A l.length c ∧ Rs W W.heap.size A l ∧ l.length ≤ c ∧ c ≤ maxLen ∧ FitL l := by
  rcases open_slice_pairs Try.underlying24 Try.underlying37 (by kernel_rfl) rfl rfl (by kernel_rfl) (by kernel_rfl) h with ⟨hcs, _⟩ | ⟨a, len, cap, m, n', V0, V1, D0, D1, P0, P1, hcs, _, hl, hm, hmm, hy, hx⟩
  · simp only [List.cons.injEq, and_true] at hcs
    subst hcs
    exact ⟨none, 0, [], rfl, Rs.nil _ _ _, Nat.le_refl _, Nat.zero_le _, fun x h => by cases h⟩
  · simp only [List.cons.injEq, and_true] at hcs
    subst hcs
    rw [if_pos rfl] at hmm
    subst hmm
    refine ⟨some a, m, (List.range len).map fun i => (zvS (V0 i), zvS (V1 i)), by simp, ?_, by simpa using hl, hm, ?_⟩
    · intro hne
      have hpos : 0 < len := by
        rcases Nat.eq_zero_or_pos len with h0 | h0
        · subst h0; exact absurd rfl hne
        · exact h0
      have hc0 := (hx 0 (by omega)).1
      obtain ⟨b, off, spot⟩ := a
      have hspot : spot = none := by simpa [Addr.add] using World.cell?_spot hc0
      subst hspot
      have hb := World.block_lt_of_cell? W _ hc0
      refine ⟨b, off, rfl, by simpa [Addr.add] using hb, fun i x hi => ?_⟩
      have hil : i < len := by
        have := (List.getElem?_eq_some_iff.1 hi).1
        simpa using this
      obtain rfl : (zvS (V0 i), zvS (V1 i)) = x := by simpa [hil] using hi
      obtain ⟨c0, c1, t0, t1⟩ := hx i (by omega)
      rw [Addr.add_lit] at c0 c1
      have e0 := (zvS_of t0).1
      have e1 := (zvS_of t1).1
      exact ⟨by rw [c0]; exact congrArg some e0, by rw [show off + i * 2 + 1 = off + (i * 2 + 1) by omega, c1]; exact congrArg some e1⟩
    · intro x hx'
      obtain ⟨i, hi, rfl⟩ := List.mem_map.1 hx'
      have hi' : i < len := by simpa using hi
      obtain ⟨_, _, t0, t1⟩ := hx i (by omega)
      exact ⟨(zvS_of t0).2, (zvS_of t1).2⟩

/-- Numbers that came in. -/
theorem nums_open {H : Type} {enc : TypeId × Value → H} {W : World} {held : Bool} {n : Nat} {v : Value} {y : DataW H × List MemPlace} (h : DataW.trod enc Try.prog W 0 (fun _ => true) held n 33 [v] = some y) :
    ∃ (A : Option Addr) (c : Nat) (l : List Nat), v = .slice A l.length c ∧ Sv W W.heap.size A (l.map cell64) ∧ l.length ≤ c ∧ c ≤ maxLen := by
  rcases open_ints Try.underlying33 Try.underlying27 (by kernel_rfl) h with ⟨hcs, _⟩ | ⟨x, len, c, zs, hcs, _, hl, hm, hz, _, hcell, hwz⟩
  · simp only [List.cons.injEq, and_true] at hcs
    subst hcs
    exact ⟨none, 0, [], rfl, Sv.nil _ _ _, Nat.le_refl _, Nat.zero_le _⟩
  · simp only [List.cons.injEq, and_true] at hcs
    subst hcs
    have hz' : zs.length = c := by simpa using hz
    refine ⟨some x, c, (zs.take len).map Int.toNat, by simp; omega, ?_, by simp; omega, hm⟩
    intro hn
    have hpos : 0 < zs.length := by
      rcases Nat.eq_zero_or_pos zs.length with h0 | h0
      · exact absurd (by rw [List.eq_nil_of_length_eq_zero h0]; simp) hn
      · exact h0
    obtain ⟨b, off, spot⟩ := x
    have hspot : spot = none := by simpa [Addr.add] using World.cell?_spot (hcell 0 hpos)
    subst hspot
    have hb := World.block_lt_of_cell? W _ (hcell 0 hpos)
    refine ⟨b, off, rfl, by simpa [Addr.add] using hb, fun i v hv => ?_⟩
    rw [List.getElem?_map, List.getElem?_map, List.getElem?_take] at hv
    split at hv
    · rename_i hi
      have hil : i < zs.length := by omega
      rw [List.getElem?_eq_getElem hil] at hv
      simp only [Option.map_some, Option.some.injEq] at hv
      have hci := hcell i hil
      rw [Addr.add_lit] at hci
      rw [hci, ← hv]
      have hwf := hwz zs[i] (List.getElem_mem hil)
      have hbd := bounds_u64 hwf
      rw [show zs.getD i 0 = zs[i] by simp [List.getD, hil]]
      unfold cell64
      rw [Int.toNat_of_nonneg hbd.1]
    · cases hv

end Go.Proofs.Ytkmnhlcjeebejaa
