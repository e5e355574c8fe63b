/-
  From a row's premises to what the walks ask: arrays of 12 bytes, slices of bytes that came in.
-/
import Derived.Test.YtajfpbkeabdcaaaAsShut
import Derived.Test.YtajfpbkeabdcaaaWords
namespace Go.Proofs.Ytajfpbkeabdcaaa
open Go.Joins Go.ChangeShapes Go.WideShapes Go.ChangeAt Go.RowKit Go.Deep
set_option linter.unusedVariables false

/-- An array of 12 bytes that came in. -/
theorem b12_open {H : Type} {enc : TypeId × Value → H} {W : World} {b0 : Nat} {held : Bool} {r : Reach} {v : Value} {d : DataW H} {ps : List MemPlace} (hv : Value.okWide Try.prog W r b0 23 v) (h : DataW.Trod enc Try.prog W 0 (fun _ => true) held 23 v d ps) :
    ∃ l : List UInt8, v = .agg (aRow l) ∧ l.length = 12 := by
  have hC : Try.prog.cellsOf 23 = 12 := by kernel_rfl
  have h1 : Try.prog.cellsOf 5 = 1 := by kernel_rfl
  obtain ⟨cs, rfl, hsz⟩ := okWide_arrayA Try.underlying23 hv
  obtain ⟨cl⟩ := cs
  rw [hC] at hsz
  have hlen : cl.length = 12 := hsz
  obtain ⟨fuel, hf⟩ := h
  obtain ⟨xs, m, _, _, hl, hx, hg⟩ := DataW.trod_array Try.underlying23 hf
  simp only [Value.cells] at hg
  rw [h1] at hg
  obtain ⟨l, e1, e2⟩ := bytes_of_cellsA cl fun i hi => by
    have hgi := hg i (by omega)
    obtain ⟨y, hy⟩ : ∃ y, xs[i]? = some y := ⟨_, List.getElem?_eq_getElem (by omega)⟩
    rw [hy] at hgi
    obtain ⟨z, e, _, hw⟩ := DataW.trod_int Try.underlying5 hgi
    refine ⟨z, ?_, hw⟩
    have : cl[i]? = ((cl.drop (i * 1)).take 1)[0]? := by rw [Nat.mul_one, List.getElem?_take_of_lt (by omega), List.getElem?_drop, Nat.add_zero]
    rw [this, e]
    rfl
  exact ⟨l, by rw [e2]; rfl, by omega⟩

/-- Bytes that came in, as a list of bytes. -/
theorem sl_of_ints {w : World} {B len cap : Nat} {A : Option Addr} {zs : List Int}
    (h : (A = none ∧ len = 0 ∧ cap = 0) ∨ ∃ x, A = some x ∧ x.block < B ∧ len ≤ cap ∧ cap ≤ maxLen ∧ zs.length = cap ∧ (∀ i, i < zs.length → w.cell? (x.add i) = some (.int .u8 (zs.getD i 0))) ∧ ∀ n ∈ zs, (Lit.int .u8 n).wf = true) :
    ∃ l : List UInt8, l.length = len ∧ Sl w B A l ∧ len ≤ cap ∧ cap ≤ maxLen := by
  rcases h with ⟨rfl, rfl, rfl⟩ | ⟨x, rfl, hb, hl, hm, hz, hc, hw⟩
  · exact ⟨[], rfl, Sv.nil _ _ _, Nat.le_refl _, Nat.zero_le _⟩
  · refine ⟨(zs.take len).map fun z => UInt8.ofNat z.toNat, by simp; omega, ?_, hl, hm⟩
    intro hn
    have hpos : 0 < zs.length := by
      rcases Nat.eq_zero_or_pos zs.length with h0 | h0
      · exact absurd (by rw [List.eq_nil_of_length_eq_zero h0]; simp) hn
      · exact h0
    obtain ⟨b, off, spot⟩ := x
    have hspot : spot = none := by simpa [Addr.add] using World.cell?_spot (hc 0 hpos)
    subst hspot
    refine ⟨b, off, rfl, hb, fun i v hv => ?_⟩
    rw [List.getElem?_map, List.getElem?_map, List.getElem?_take] at hv
    split at hv
    · rename_i hi
      have hil : i < zs.length := by omega
      rw [List.getElem?_eq_getElem hil] at hv
      simp only [Option.map_some, Option.some.injEq] at hv
      have hci := hc i hil
      rw [Addr.add_lit] at hci
      rw [hci, ← hv]
      have hwf := hw zs[i] (List.getElem_mem hil)
      have hbd := bounds_u8 hwf
      rw [show zs.getD i 0 = zs[i] by simp [List.getD, hil]]
      unfold cell8
      rw [UInt8.toNat_ofNat', Nat.mod_eq_of_lt (by omega), Int.toNat_of_nonneg hbd.1]
    · cases hv

/-- A slice of bytes that came in, by its reading. -/
theorem sl_open {H : Type} {enc : TypeId × Value → H} {W : World} {held : Bool} {n : Nat} {v : Value} {y : DataW H × List MemPlace} (h : DataW.trod enc Try.prog W 0 (fun _ => true) held n 24 [v] = some y) :
    ∃ (A : Option Addr) (c : Nat) (l : List UInt8), v = .slice A l.length c ∧ Sl W W.heap.size A l ∧ l.length ≤ c ∧ c ≤ maxLen := by
  rcases open_ints Try.underlying24 Try.underlying5 (by kernel_rfl) h with ⟨hcs, _⟩ | ⟨x, len, c, zs, hcs, _, hl, hm, hz, _, hcell, hwz⟩
  · simp only [List.cons.injEq, and_true] at hcs
    subst hcs
    exact ⟨none, 0, [], rfl, Sv.nil _ _ _, Nat.le_refl _, Nat.zero_le _⟩
  · simp only [List.cons.injEq, and_true] at hcs
    subst hcs
    have hz' : zs.length = c := by simpa using hz
    by_cases h0 : zs.length = 0
    · have hz0 : len = 0 := by omega
      subst hz0
      exact ⟨some x, c, [], rfl, Sv.nil _ _ _, Nat.zero_le _, hm⟩
    · have hb : x.block < W.heap.size := by
        have := World.block_lt_of_cell? W _ (hcell 0 (by omega))
        simpa [Addr.add] using this
      obtain ⟨l, h1, h2, h3, h4⟩ := sl_of_ints (w := W) (B := W.heap.size) (len := len) (cap := c) (A := some x) (zs := zs) (.inr ⟨_, rfl, hb, hl, hm, hz', hcell, hwz⟩)
      subst h1
      exact ⟨some x, c, l, rfl, h2, h3, h4⟩

end Go.Proofs.Ytajfpbkeabdcaaa
