/-
  From a row's premises to what the walks ask: sizes, and calls, that came in.
-/
import Derived.Test.YtmidlgojknfooaaRnShut
import Derived.Test.YtmidlgojknfooaaRnSms
import Derived.Lib.SmallJoins
import Derived.ProofKit
import Derived.OpenShut
import Derived.ShutString
import Derived.ChangeOld
import Derived.Below
import Derived.Deep.Slices
namespace Go.Proofs.Ytmidlgojknfooaa
open Go.Joins Go.ChangeShapes Go.WideShapes Go.ChangeAt Go.RowKit Go.Deep
set_option linter.unusedVariables false

/-- A number, as a number. -/
def zvN : Value → Nat
  | .int _ z => z.toNat
  | _ => 0
theorem zvN_of {H : Type} {enc : TypeId × Value → H} {W : World} {held : Bool} {n : Nat} {v : Value} {y : DataW H × List MemPlace} (h : DataW.trod enc Try.prog W 0 (fun _ => true) held n 28 [v] = some y) : v = .int .u64 (zvN v : Int) := by
  obtain ⟨z, e, _, hw⟩ := DataW.trod_int Try.underlying28 h
  simp only [List.cons.injEq, and_true] at e
  subst e
  have hb := bounds_u64 hw
  simp only [zvN]
  rw [Int.toNat_of_nonneg hb.1]
theorem zvN_le {H : Type} {enc : TypeId × Value → H} {W : World} {held : Bool} {n : Nat} {v : Value} {y : DataW H × List MemPlace} (h : DataW.trod enc Try.prog W 0 (fun _ => true) held n 28 [v] = some y) : zvN v ≤ mU := by
  obtain ⟨z, e, _, hw⟩ := DataW.trod_int Try.underlying28 h
  simp only [List.cons.injEq, and_true] at e
  subst e
  have hb := bounds_u64 hw
  simp only [zvN]
  unfold mU
  omega
theorem zvN_of8 {H : Type} {enc : TypeId × Value → H} {W : World} {held : Bool} {n : Nat} {v : Value} {y : DataW H × List MemPlace} (h : DataW.trod enc Try.prog W 0 (fun _ => true) held n 5 [v] = some y) : v = .int .u8 (zvN v : Int) := by
  obtain ⟨z, e, _, hw⟩ := DataW.trod_int Try.underlying5 h
  simp only [List.cons.injEq, and_true] at e
  subst e
  have hb := bounds_u8 hw
  simp only [zvN]
  rw [Int.toNat_of_nonneg hb.1]

/-- Sizes that came in. -/
theorem nums_openN {H : Type} {enc : TypeId × Value → H} {W : World} {held : Bool} {n : Nat} {v : Value} {y : DataW H × List MemPlace} (h : DataW.trod enc Try.prog W 0 (fun _ => true) held n 27 [v] = some y) :
    ∃ (A : Option Addr) (c : Nat) (l : List Nat), v = .slice A l.length c ∧ Sv W W.heap.size A (l.map cell64) ∧ l.length ≤ c ∧ c ≤ maxLen ∧ ∀ n ∈ l, n ≤ mU := by
  rcases open_ints Try.underlying27 Try.underlying28 (by kernel_rfl) h with ⟨hcs, _⟩ | ⟨x, len, c, zs, hcs, _, hl, hm, hz, _, hcell, hwz⟩
  · simp only [List.cons.injEq, and_true] at hcs
    subst hcs
    exact ⟨none, 0, [], rfl, Sv.nil _ _ _, Nat.le_refl _, Nat.zero_le _, fun n hn => by cases hn⟩
  · simp only [List.cons.injEq, and_true] at hcs
    subst hcs
    have hz' : zs.length = c := by simpa using hz
    refine ⟨some x, c, (zs.take len).map Int.toNat, by simp; omega, ?_, by simp; omega, hm, fun n hn => ?_⟩
    rotate_left
    · obtain ⟨z, hz, rfl⟩ := List.mem_map.1 hn
      have hbd := bounds_u64 (hwz z (List.mem_of_mem_take hz))
      unfold mU
      omega
    intro hn
    have hpos : 0 < zs.length := by
      rcases Nat.eq_zero_or_pos zs.length with h0 | h0
      · exact absurd (by rw [List.eq_nil_of_length_eq_zero h0]; simp) hn
      · exact h0
    obtain ⟨b, off, spot⟩ := x
    have hspot : spot = none := by simpa [Addr.add] using World.cell?_spot (hcell 0 hpos)
    subst hspot
    have hb := World.block_lt_of_cell? W _ (hcell 0 hpos)
    refine ⟨b, off, rfl, by simpa [Addr.add] using hb, fun i v hv => ?_⟩
    rw [List.getElem?_map, List.getElem?_map, List.getElem?_take] at hv
    split at hv
    · rename_i hi
      have hil : i < zs.length := by omega
      rw [List.getElem?_eq_getElem hil] at hv
      simp only [Option.map_some, Option.some.injEq] at hv
      have hci := hcell i hil
      rw [Addr.add_lit] at hci
      rw [hci, ← hv]
      have hwf := hwz zs[i] (List.getElem_mem hil)
      have hbd := bounds_u64 hwf
      rw [show zs.getD i 0 = zs[i] by simp [List.getD, hil]]
      unfold cell64
      rw [Int.toNat_of_nonneg hbd.1]
    · cases hv


set_option maxRecDepth 100000 in
/-- The cells of a call that came in. -/
theorem dn_cells {H : Type} {enc : TypeId × Value → H} {W : World} {held : Bool} {fuel : Nat} {cl : List Value} {d : DataW H × List MemPlace} (hlen : cl.length = 4) (hf : DataW.trod enc Try.prog W 0 (fun _ => true) held fuel 30 cl = some d) :
    ∃ q : DN, cl = dnCells q ∧ q.In W W.heap.size := by
  have u1 : Try.prog.cellsOf 5 = 1 := by kernel_rfl
  have u2 : Try.prog.cellsOf 28 = 1 := by kernel_rfl
  have u3 : Try.prog.cellsOf 27 = 1 := by kernel_rfl
  obtain ⟨xs, n, _, _, _, hx, hg⟩ := DataW.trod_struct Try.underlying30 hf
  have hx4 : xs.length = 4 := hx
  have get : ∀ i, i < 4 → ∃ y, xs[i]? = some y := fun i hi => ⟨_, List.getElem?_eq_getElem (by omega)⟩
  obtain ⟨y0, k0⟩ := get 0 (by omega)
  obtain ⟨y1, k1⟩ := get 1 (by omega)
  obtain ⟨y2, k2⟩ := get 2 (by omega)
  obtain ⟨y3, k3⟩ := get 3 (by omega)
  have g0 := hg 0 _ rfl
  have g1 := hg 1 _ rfl
  have g2 := hg 2 _ rfl
  have g3 := hg 3 _ rfl
  simp only [List.getElem_toArray, List.getElem_cons_zero] at g0
  rw [k0, u1] at g0
  simp only [List.getElem_toArray, List.getElem_cons_zero, List.getElem_cons_succ] at g1
  rw [k1, u3] at g1
  simp only [List.getElem_toArray, List.getElem_cons_zero, List.getElem_cons_succ] at g2
  rw [k2, u2] at g2
  simp only [List.getElem_toArray, List.getElem_cons_zero, List.getElem_cons_succ] at g3
  rw [k3, u2] at g3
  match cl, hlen with
  | [v0, v1, v2, v3], _ =>
    have e0 := zvN_of8 (v := v0) g0
    obtain ⟨A, c, l, e1, hs, hc, hm, he⟩ := nums_openN (v := v1) g1
    have e2 := zvN_of (v := v2) g2
    have e3 := zvN_of (v := v3) g3
    refine ⟨⟨zvN v0, A, l, c, zvN v2, zvN v3⟩, ?_, hs, hc, hm, he, zvN_le (v := v2) g2, zvN_le (v := v3) g3⟩
    unfold dnCells
    simp only
    rw [← e0, ← e1, ← e2, ← e3]

set_option maxRecDepth 100000 in
/-- Calls that came in. -/
theorem dns_open {H : Type} {enc : TypeId × Value → H} {W : World} {held : Bool} {n : Nat} {v : Value} {y : DataW H × List MemPlace} (h : DataW.trod enc Try.prog W 0 (fun _ => true) held n 22 [v] = some y) :
    ∃ (A : Option Addr) (c : Nat) (l : List DN), v = .slice A l.length c ∧ Dns W W.heap.size A l ∧ l.length ≤ c ∧ c ≤ maxLen := by
  have hC : Try.prog.cellsOf 30 = 4 := by kernel_rfl
  rcases open_slice Try.underlying22 h with ⟨hcs, _⟩ | ⟨a, len, cap, m, n', D, Pl, hcs, _, hl, hm, hmm, hy, hx⟩
  · simp only [List.cons.injEq, and_true] at hcs
    subst hcs
    exact ⟨none, 0, [], rfl, ⟨fun h => absurd rfl h, fun d h => by cases h⟩, Nat.le_refl _, Nat.zero_le _⟩
  · simp only [List.cons.injEq, and_true] at hcs
    subst hcs
    rw [if_pos rfl] at hmm
    subst hmm
    rw [hC] at hx
    have hopen : ∀ i, i < len → ∃ q : DN, (∀ j, j < 4 → W.cell? ((a.add (i * 4)).add j) = (dnCells q)[j]?) ∧ q.In W W.heap.size := fun i hi => by
      obtain ⟨cs', h1, h2⟩ := hx i (by omega)
      obtain ⟨_, h3, h4⟩ := World.cells?_some h1
      obtain ⟨q, rfl, hq⟩ := dn_cells h3 h2
      exact ⟨q, h4, hq⟩
    obtain ⟨Q, hQ⟩ : ∃ Q : Nat → DN, ∀ i, i < len → (∀ j, j < 4 → W.cell? ((a.add (i * 4)).add j) = (dnCells (Q i))[j]?) ∧ (Q i).In W W.heap.size := by
      refine ⟨fun i => if h : i < len then Classical.choose (hopen i h) else ⟨0, none, [], 0, 0, 0⟩, fun i hi => ?_⟩
      simp only [dif_pos hi]
      exact Classical.choose_spec (hopen i hi)
    refine ⟨some a, m, (List.range len).map Q, by simp, ⟨fun hne => ?_, fun x hx => ?_⟩, by simpa using hl, hm⟩
    rotate_left
    · obtain ⟨i, hi, rfl⟩ := List.mem_map.1 hx
      exact (hQ i (List.mem_range.1 hi)).2
    have hpos : 0 < len := by
      rcases Nat.eq_zero_or_pos len with h0 | h0
      · subst h0; exact absurd rfl hne
      · exact h0
    have hc0 := ((hQ 0 hpos).1 0 (by omega)).trans (show (dnCells (Q 0))[0]? = some (.int .u8 ((Q 0).kd : Int)) from rfl)
    obtain ⟨b, off, spot⟩ := a
    have hspot : spot = none := by
      rcases spot with _ | s
      · rfl
      · have := World.cell?_spot hc0
        simp [Addr.add] at this
    subst hspot
    have hbl := World.block_lt_of_cell? W _ hc0
    refine ⟨b, off, rfl, by simpa [Addr.add] using hbl, fun i x hi => ?_⟩
    have hil : i < len := by
      have := (List.getElem?_eq_some_iff.1 hi).1
      simpa using this
    obtain rfl : Q i = x := by simpa [hil] using hi
    intro j u hu
    have hj : j < 4 := (List.getElem?_eq_some_iff.1 hu).1
    have hc := (hQ i hil).1 j hj
    rw [Addr.add_lit, Addr.add_lit] at hc
    rw [hc]
    exact hu

end Go.Proofs.Ytmidlgojknfooaa
