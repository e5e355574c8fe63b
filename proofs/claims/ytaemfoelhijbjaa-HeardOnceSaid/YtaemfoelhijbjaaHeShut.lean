/-
  From a row's premises to what the walks ask: calls that came in.
-/
import Derived.Test.YtaemfoelhijbjaaRows
import Derived.Test.YtaemfoelhijbjaaHeHeavy
import Derived.Lib.SmallJoins
import Derived.ProofKit
import Derived.OpenShut
import Derived.ShutString
import Derived.ChangeOld
import Derived.Below
import Derived.Deep.Slices
namespace Go.Proofs.Ytaemfoelhijbjaa
open Go.Joins Go.ChangeShapes Go.WideShapes Go.ChangeAt Go.RowKit Go.Deep
set_option linter.unusedVariables false

theorem own : ownKnob Try.prog.godebug = none := by kernel_rfl
theorem laidOut : laidOutB Try.prog = true := by kernel_rfl

/-- A number, as a number; a bool, as a bool. -/
def zvH : Value → Nat
  | .int _ z => z.toNat
  | _ => 0
theorem zvH_of {H : Type} {enc : TypeId × Value → H} {W : World} {held : Bool} {n : Nat} {v : Value} {y : DataW H × List MemPlace} (h : DataW.trod enc Try.prog W 0 (fun _ => true) held n 24 [v] = some y) : v = .int .u64 (zvH v : Int) := by
  obtain ⟨z, e, _, hw⟩ := DataW.trod_int Try.underlying24 h
  simp only [List.cons.injEq, and_true] at e
  subst e
  have hb := bounds_u64 hw
  simp only [zvH]
  rw [Int.toNat_of_nonneg hb.1]
theorem zvH_of8 {H : Type} {enc : TypeId × Value → H} {W : World} {held : Bool} {n : Nat} {v : Value} {y : DataW H × List MemPlace} (h : DataW.trod enc Try.prog W 0 (fun _ => true) held n 5 [v] = some y) : v = .int .u8 (zvH v : Int) := by
  obtain ⟨z, e, _, hw⟩ := DataW.trod_int Try.underlying5 h
  simp only [List.cons.injEq, and_true] at e
  subst e
  have hb := bounds_u8 hw
  simp only [zvH]
  rw [Int.toNat_of_nonneg hb.1]

set_option maxRecDepth 100000 in
/-- The cells of a call that came in. -/
theorem do_cells {H : Type} {enc : TypeId × Value → H} {W : World} {held : Bool} {fuel : Nat} {cl : List Value} {d : DataW H × List MemPlace} (hlen : cl.length = 5) (hf : DataW.trod enc Try.prog W 0 (fun _ => true) held fuel 46 cl = some d) :
    ∃ q : DC, cl = dCells q := by
  have u1 : Try.prog.cellsOf 5 = 1 := by kernel_rfl
  have u2 : Try.prog.cellsOf 24 = 1 := by kernel_rfl
  have u3 : Try.prog.cellsOf 4 = 1 := by kernel_rfl
  obtain ⟨xs, n, _, _, _, hx, hg⟩ := DataW.trod_struct Try.underlying46 hf
  have hx5 : xs.length = 5 := hx
  have get : ∀ i, i < 5 → ∃ y, xs[i]? = some y := fun i hi => ⟨_, List.getElem?_eq_getElem (by omega)⟩
  obtain ⟨y0, k0⟩ := get 0 (by omega)
  obtain ⟨y1, k1⟩ := get 1 (by omega)
  obtain ⟨y2, k2⟩ := get 2 (by omega)
  obtain ⟨y3, k3⟩ := get 3 (by omega)
  obtain ⟨y4, k4⟩ := get 4 (by omega)
  have g0 := hg 0 _ rfl
  have g1 := hg 1 _ rfl
  have g2 := hg 2 _ rfl
  have g3 := hg 3 _ rfl
  have g4 := hg 4 _ rfl
  simp only [List.getElem_toArray, List.getElem_cons_zero] at g0
  rw [k0, u1] at g0
  simp only [List.getElem_toArray, List.getElem_cons_zero, List.getElem_cons_succ] at g1
  rw [k1, u2] at g1
  simp only [List.getElem_toArray, List.getElem_cons_zero, List.getElem_cons_succ] at g2
  rw [k2, u3] at g2
  simp only [List.getElem_toArray, List.getElem_cons_zero, List.getElem_cons_succ] at g3
  rw [k3, u2] at g3
  simp only [List.getElem_toArray, List.getElem_cons_zero, List.getElem_cons_succ] at g4
  rw [k4, u2] at g4
  match cl, hlen with
  | [v0, v1, v2, v3, v4], _ =>
    have e0 := zvH_of8 (v := v0) g0
    have e1 := zvH_of (v := v1) g1
    obtain ⟨b, e2, _⟩ := DataW.trod_bool Try.underlying4 g2
    have e2' : v2 = .bool b := by
      have : [v2] = [Value.bool b] := e2
      exact (List.cons.inj this).1
    have e3 := zvH_of (v := v3) g3
    have e4 := zvH_of (v := v4) g4
    refine ⟨⟨zvH v0, zvH v1, b, zvH v3, zvH v4⟩, ?_⟩
    unfold dCells
    simp only
    rw [← e0, ← e1, ← e2', ← e3, ← e4]

set_option maxRecDepth 100000 in
/-- Calls that came in. -/
theorem dos_open {H : Type} {enc : TypeId × Value → H} {W : World} {held : Bool} {n : Nat} {v : Value} {y : DataW H × List MemPlace} (h : DataW.trod enc Try.prog W 0 (fun _ => true) held n 43 [v] = some y) :
    ∃ (A : Option Addr) (c : Nat) (l : List DC), v = .slice A l.length c ∧ Ds W W.heap.size A l ∧ l.length ≤ c ∧ c ≤ maxLen := by
  have hC : Try.prog.cellsOf 46 = 5 := by kernel_rfl
  rcases open_slice Try.underlying43 h with ⟨hcs, _⟩ | ⟨a, len, cap, m, n', D, Pl, hcs, _, hl, hm, hmm, hy, hx⟩
  · simp only [List.cons.injEq, and_true] at hcs
    subst hcs
    exact ⟨none, 0, [], rfl, fun h => absurd rfl h, Nat.le_refl _, Nat.zero_le _⟩
  · simp only [List.cons.injEq, and_true] at hcs
    subst hcs
    rw [if_pos rfl] at hmm
    subst hmm
    rw [hC] at hx
    have hopen : ∀ i, i < len → ∃ q : DC, ∀ j, j < 5 → W.cell? ((a.add (i * 5)).add j) = (dCells q)[j]? := fun i hi => by
      obtain ⟨cs', h1, h2⟩ := hx i (by omega)
      obtain ⟨_, h3, h4⟩ := World.cells?_some h1
      obtain ⟨q, rfl⟩ := do_cells h3 h2
      exact ⟨q, h4⟩
    obtain ⟨Q, hQ⟩ : ∃ Q : Nat → DC, ∀ i, i < len → ∀ j, j < 5 → W.cell? ((a.add (i * 5)).add j) = (dCells (Q i))[j]? := by
      refine ⟨fun i => if h : i < len then Classical.choose (hopen i h) else ⟨0, 0, false, 0, 0⟩, fun i hi => ?_⟩
      simp only [dif_pos hi]
      exact Classical.choose_spec (hopen i hi)
    refine ⟨some a, m, (List.range len).map Q, by simp, ?_, by simpa using hl, hm⟩
    intro hne
    have hpos : 0 < len := by
      rcases Nat.eq_zero_or_pos len with h0 | h0
      · subst h0; exact absurd rfl hne
      · exact h0
    have hc0 := (hQ 0 hpos 0 (by omega)).trans (show (dCells (Q 0))[0]? = some (.int .u8 ((Q 0).kd : Int)) from rfl)
    obtain ⟨b, off, spot⟩ := a
    have hspot : spot = none := by
      rcases spot with _ | s
      · rfl
      · have := World.cell?_spot hc0
        simp [Addr.add] at this
    subst hspot
    have hbl := World.block_lt_of_cell? W _ hc0
    refine ⟨b, off, rfl, by simpa [Addr.add] using hbl, fun i x hi => ?_⟩
    have hil : i < len := by
      have := (List.getElem?_eq_some_iff.1 hi).1
      simpa using this
    obtain rfl : Q i = x := by simpa [hil] using hi
    intro j u hu
    have hj : j < 5 := (List.getElem?_eq_some_iff.1 hu).1
    have hc := hQ i hil j hj
    rw [Addr.add_lit, Addr.add_lit] at hc
    rw [hc]
    exact hu

end Go.Proofs.Ytaemfoelhijbjaa
