/-
  From a row's premises to what the walks ask: samples that came in.
-/
import Derived.Test.YtoahannfpnkpkaaRtShut
import Derived.Test.YtoahannfpnkpkaaRtSms
import Derived.Lib.SmallJoins
import Derived.ProofKit
import Derived.OpenShut
import Derived.ShutString
import Derived.ChangeOld
import Derived.Below
import Derived.Deep.Slices
namespace Go.Proofs.Ytoahannfpnkpkaa
open Go.Joins Go.ChangeShapes Go.WideShapes Go.ChangeAt Go.RowKit Go.Deep
set_option linter.unusedVariables false

/-- A number, as a number. -/
def zvR : Value → Nat
  | .int _ z => z.toNat
  | _ => 0
theorem zvR_of {H : Type} {enc : TypeId × Value → H} {W : World} {held : Bool} {n : Nat} {v : Value} {y : DataW H × List MemPlace} (h : DataW.trod enc Try.prog W 0 (fun _ => true) held n 24 [v] = some y) : v = .int .u64 (zvR v : Int) := by
  obtain ⟨z, e, _, hw⟩ := DataW.trod_int Try.underlying24 h
  simp only [List.cons.injEq, and_true] at e
  subst e
  have hb := bounds_u64 hw
  simp only [zvR]
  rw [Int.toNat_of_nonneg hb.1]
theorem zvR_le {H : Type} {enc : TypeId × Value → H} {W : World} {held : Bool} {n : Nat} {v : Value} {y : DataW H × List MemPlace} (h : DataW.trod enc Try.prog W 0 (fun _ => true) held n 24 [v] = some y) : zvR v ≤ 18446744073709551615 := by
  obtain ⟨z, e, _, hw⟩ := DataW.trod_int Try.underlying24 h
  simp only [List.cons.injEq, and_true] at e
  subst e
  have hb := bounds_u64 hw
  simp only [zvR]
  omega

set_option maxRecDepth 100000 in
/-- The cells of a sample that came in. -/
theorem smp_cells {H : Type} {enc : TypeId × Value → H} {W : World} {held : Bool} {fuel : Nat} {cl : List Value} {d : DataW H × List MemPlace} (hlen : cl.length = 2) (hf : DataW.trod enc Try.prog W 0 (fun _ => true) held fuel 34 cl = some d) :
    ∃ q : SC, cl = sCells q ∧ q.la ≤ 18446744073709551615 ∧ q.de ≤ 18446744073709551615 := by
  have u2 : Try.prog.cellsOf 24 = 1 := by kernel_rfl
  obtain ⟨xs, n, _, _, _, hx, hg⟩ := DataW.trod_struct Try.underlying34 hf
  have hx2 : xs.length = 2 := hx
  have get : ∀ i, i < 2 → ∃ y, xs[i]? = some y := fun i hi => ⟨_, List.getElem?_eq_getElem (by omega)⟩
  obtain ⟨y0, k0⟩ := get 0 (by omega)
  obtain ⟨y1, k1⟩ := get 1 (by omega)
  have g0 := hg 0 _ rfl
  have g1 := hg 1 _ rfl
  simp only [List.getElem_toArray, List.getElem_cons_zero] at g0
  rw [k0, u2] at g0
  simp only [List.getElem_toArray, List.getElem_cons_zero, List.getElem_cons_succ] at g1
  rw [k1, u2] at g1
  match cl, hlen with
  | [v0, v1], _ =>
    have e0 := zvR_of (v := v0) g0
    have e1 := zvR_of (v := v1) g1
    refine ⟨⟨zvR v0, zvR v1⟩, ?_, zvR_le (v := v0) g0, zvR_le (v := v1) g1⟩
    unfold sCells
    simp only
    rw [← e0, ← e1]

set_option maxRecDepth 100000 in
/-- Samples that came in. -/
theorem sms_open {H : Type} {enc : TypeId × Value → H} {W : World} {held : Bool} {n : Nat} {v : Value} {y : DataW H × List MemPlace} (h : DataW.trod enc Try.prog W 0 (fun _ => true) held n 32 [v] = some y) :
    ∃ (A : Option Addr) (c : Nat) (l : List SC), v = .slice A l.length c ∧ Sms W W.heap.size A l ∧ l.length ≤ c ∧ c ≤ maxLen := by
  have hC : Try.prog.cellsOf 34 = 2 := by kernel_rfl
  rcases open_slice Try.underlying32 h with ⟨hcs, _⟩ | ⟨a, len, cap, m, n', D, Pl, hcs, _, hl, hm, hmm, hy, hx⟩
  · simp only [List.cons.injEq, and_true] at hcs
    subst hcs
    exact ⟨none, 0, [], rfl, ⟨fun h => absurd rfl h, fun d h => by cases h⟩, Nat.le_refl _, Nat.zero_le _⟩
  · simp only [List.cons.injEq, and_true] at hcs
    subst hcs
    rw [if_pos rfl] at hmm
    subst hmm
    rw [hC] at hx
    have hopen : ∀ i, i < len → ∃ q : SC, (∀ j, j < 2 → W.cell? ((a.add (i * 2)).add j) = (sCells q)[j]?) ∧ q.la ≤ 18446744073709551615 ∧ q.de ≤ 18446744073709551615 := fun i hi => by
      obtain ⟨cs', h1, h2⟩ := hx i (by omega)
      obtain ⟨_, h3, h4⟩ := World.cells?_some h1
      obtain ⟨q, rfl, hq⟩ := smp_cells h3 h2
      exact ⟨q, h4, hq⟩
    obtain ⟨Q, hQ⟩ : ∃ Q : Nat → SC, ∀ i, i < len → (∀ j, j < 2 → W.cell? ((a.add (i * 2)).add j) = (sCells (Q i))[j]?) ∧ (Q i).la ≤ 18446744073709551615 ∧ (Q i).de ≤ 18446744073709551615 := by
      refine ⟨fun i => if h : i < len then Classical.choose (hopen i h) else ⟨0, 0⟩, fun i hi => ?_⟩
      simp only [dif_pos hi]
      exact Classical.choose_spec (hopen i hi)
    refine ⟨some a, m, (List.range len).map Q, by simp, ⟨fun hne => ?_, fun x hx => ?_⟩, by simpa using hl, hm⟩
    rotate_left
    · obtain ⟨i, hi, rfl⟩ := List.mem_map.1 hx
      exact (hQ i (List.mem_range.1 hi)).2
    have hpos : 0 < len := by
      rcases Nat.eq_zero_or_pos len with h0 | h0
      · subst h0; exact absurd rfl hne
      · exact h0
    have hc0 := ((hQ 0 hpos).1 0 (by omega)).trans (show (sCells (Q 0))[0]? = some (.int .u64 ((Q 0).la : Int)) from rfl)
    obtain ⟨b, off, spot⟩ := a
    have hspot : spot = none := by
      rcases spot with _ | s
      · rfl
      · have := World.cell?_spot hc0
        simp [Addr.add] at this
    subst hspot
    have hbl := World.block_lt_of_cell? W _ hc0
    refine ⟨b, off, rfl, by simpa [Addr.add] using hbl, fun i x hi => ?_⟩
    have hil : i < len := by
      have := (List.getElem?_eq_some_iff.1 hi).1
      simpa using this
    obtain rfl : Q i = x := by simpa [hil] using hi
    intro j u hu
    have hj : j < 2 := (List.getElem?_eq_some_iff.1 hu).1
    have hc := (hQ i hil).1 j hj
    rw [Addr.add_lit, Addr.add_lit] at hc
    rw [hc]
    exact hu

end Go.Proofs.Ytoahannfpnkpkaa
