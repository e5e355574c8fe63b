/-
  From a row's premises to what the walks ask: arrays of 16 bytes that came in.
-/
import Derived.Test.YtajfpbkeabdcaaaRows
import Derived.Test.YtajfpbkeabdcaaaAsBase
import Derived.Lib.SmallJoins
import Derived.ProofKit
import Derived.OpenShut
import Derived.ChangeOld
import Derived.Below
import Derived.Deep.Slices
namespace Go.Proofs.Ytajfpbkeabdcaaa
open Go.Joins Go.ChangeShapes Go.WideShapes Go.ChangeAt Go.RowKit Go.Deep
set_option linter.unusedVariables false

theorem own : ownKnob Try.prog.godebug = none := by kernel_rfl
theorem laidOut : laidOutB Try.prog = true := by kernel_rfl

theorem bytes_of_cellsA : ∀ cs : List Value, (∀ i, i < cs.length → ∃ z : Int, cs[i]? = some (.int .u8 z) ∧ (Lit.int .u8 z).wf = true) → ∃ l : List UInt8, l.length = cs.length ∧ cs = l.map cell8
  | [], _ => ⟨[], rfl, rfl⟩
  | c :: cs, h => by
    obtain ⟨z, hz, hw⟩ := h 0 (by simp)
    obtain ⟨l, hl, rfl⟩ := bytes_of_cellsA cs fun i hi => h (i + 1) (by simp; omega)
    simp only [List.getElem?_cons_zero, Option.some.injEq] at hz
    subst hz
    have hb := bounds_u8 hw
    refine ⟨UInt8.ofNat z.toNat :: l, by simp, ?_⟩
    rw [List.map_cons]
    congr 1
    unfold cell8
    rw [UInt8.toNat_ofNat', Nat.mod_eq_of_lt (by omega), Int.toNat_of_nonneg hb.1]

theorem okWide_arrayA {P : Program} {w : World} {r : Reach} {base : Nat} {t : TypeId} {v : Value} {n : Nat} {e : TypeId} (ht : P.underlying t = some (.array n e)) (h : Value.okWide P w r base t v) : ∃ cs, v = .agg cs ∧ cs.size = P.cellsOf t := by
  simp only [Value.okWide, ht] at h
  obtain ⟨cs, h1, h2, _⟩ := h
  exact ⟨cs, h1, h2⟩

/-- An array of 16 bytes that came in. -/
theorem b16_open {H : Type} {enc : TypeId × Value → H} {W : World} {b0 : Nat} {held : Bool} {r : Reach} {v : Value} {d : DataW H} {ps : List MemPlace} (hv : Value.okWide Try.prog W r b0 22 v) (h : DataW.Trod enc Try.prog W 0 (fun _ => true) held 22 v d ps) :
    ∃ l : List UInt8, v = .agg (aRow l) ∧ l.length = 16 := by
  have hC : Try.prog.cellsOf 22 = 16 := by kernel_rfl
  have h1 : Try.prog.cellsOf 5 = 1 := by kernel_rfl
  obtain ⟨cs, rfl, hsz⟩ := okWide_arrayA Try.underlying22 hv
  obtain ⟨cl⟩ := cs
  rw [hC] at hsz
  have hlen : cl.length = 16 := hsz
  obtain ⟨fuel, hf⟩ := h
  obtain ⟨xs, m, _, _, hl, hx, hg⟩ := DataW.trod_array Try.underlying22 hf
  simp only [Value.cells] at hg
  rw [h1] at hg
  obtain ⟨l, e1, e2⟩ := bytes_of_cellsA cl fun i hi => by
    have hgi := hg i (by omega)
    obtain ⟨y, hy⟩ : ∃ y, xs[i]? = some y := ⟨_, List.getElem?_eq_getElem (by omega)⟩
    rw [hy] at hgi
    obtain ⟨z, e, _, hw⟩ := DataW.trod_int Try.underlying5 hgi
    refine ⟨z, ?_, hw⟩
    have : cl[i]? = ((cl.drop (i * 1)).take 1)[0]? := by rw [Nat.mul_one, List.getElem?_take_of_lt (by omega), List.getElem?_drop, Nat.add_zero]
    rw [this, e]
    rfl
  exact ⟨l, by rw [e2]; rfl, by omega⟩

/-- A string that came in. -/
theorem str_open {W : World} {b0 : Nat} {r : Reach} {v : Value} (hv : Value.okWide Try.prog W r b0 9 v) : ∃ l : List UInt8, v = .string (strB l) := by
  obtain ⟨s, rfl⟩ := okWide_string Try.underlying9 hv
  exact ⟨s.data.toList, by cases s; simp [strB]⟩


/-- A byte that came in. -/
theorem byte_open {H : Type} {enc : TypeId × Value → H} {W : World} {b0 : Nat} {held : Bool} {r : Reach} {v : Value} {d : DataW H} {ps : List MemPlace} (hv : Value.okWide Try.prog W r b0 5 v) (h : DataW.Trod enc Try.prog W 0 (fun _ => true) held 5 v d ps) :
    ∃ x : UInt8, v = .int .u8 (x.toNat : Int) := by
  obtain ⟨z, rfl⟩ := okWide_int Try.underlying5 hv
  obtain ⟨fuel, hf⟩ := h
  obtain ⟨z', e, _, hw⟩ := DataW.trod_int Try.underlying5 hf
  simp [Value.cells] at e
  subst e
  have hb := bounds_u8 hw
  refine ⟨UInt8.ofNat z.toNat, ?_⟩
  rw [UInt8.toNat_ofNat', Nat.mod_eq_of_lt (by omega), Int.toNat_of_nonneg hb.1]
end Go.Proofs.Ytajfpbkeabdcaaa
