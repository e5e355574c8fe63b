/-
  slices.DeleteFunc at ranges: those that have no number are struck.
-/
import Derived.Test.YtaemfoelhijbjaaSpDel
import Derived.Lib.SlKept
import Derived.Lib.SlBy
namespace Go.Proofs.Ytaemfoelhijbjaa
open Go.RowKit
set_option linter.unusedVariables false

theorem idx_spec (p : Nat × Nat → Bool) : ∀ (l : List (Nat × Nat)) (i : Nat), (Lib.idxByFrom (fun _ y => p y) (default : Nat × Nat) l i = -1 ∧ ∀ x ∈ l, p x = false) ∨ ∃ k x, l[k]? = some x ∧ Lib.idxByFrom (fun _ y => p y) (default : Nat × Nat) l i = ((i + k : Nat) : Int) ∧ p x = true ∧ ∀ y ∈ l.take k, p y = false
  | [], _ => .inl ⟨rfl, fun x hx => by cases hx⟩
  | y :: r, i => by
    cases h : p y with
    | true => exact .inr ⟨0, y, rfl, by simp [Lib.idxByFrom, h], h, fun x hx => by simp at hx⟩
    | false =>
      rcases idx_spec p r (i + 1) with ⟨e, ha⟩ | ⟨k, x, hk, e, ht, ha⟩
      · refine .inl ⟨by simp [Lib.idxByFrom, h, e], fun x hx => ?_⟩
        rcases List.mem_cons.1 hx with rfl | hx
        · exact h
        · exact ha x hx
      · refine .inr ⟨k + 1, x, by simpa using hk, ?_, ht, fun z hz => ?_⟩
        · simp only [Lib.idxByFrom, h]
          rw [show (if false = true then (i : Int) else Lib.idxByFrom (fun _ y => p y) (default : Nat × Nat) r (i + 1)) = Lib.idxByFrom (fun _ y => p y) (default : Nat × Nat) r (i + 1) from rfl, e]
          congr 1
          omega
        · rw [List.take_succ_cons] at hz
          rcases List.mem_cons.1 hz with rfl | hz
          · exact h
          · exact ha z hz

/-- How a row lies while those struck are passed over: so many kept, so many looked at. -/
structure Kept (l L : List (Nat × Nat)) (i j : Nat) : Prop where
  len : L.length = l.length
  lt : i < j
  le : j ≤ l.length
  head : L.take i = (l.take j).filter keepR
  tail : ∀ k, j ≤ k → L[k]? = l[k]?

theorem Kept.pass {l L : List (Nat × Nat)} {i j : Nat} (h : Kept l L i j) {x : Nat × Nat} (hx : l[j]? = some x) (hp : keepR x = false) : Kept l L i (j + 1) := by
  have hj := (List.getElem?_eq_some_iff.1 hx).1
  refine ⟨h.len, by have := h.lt; omega, hj, ?_, fun k hk => h.tail k (by omega)⟩
  rw [List.take_add_one, hx, List.filter_append, ← h.head]
  simp [hp]
theorem Kept.keep {l L : List (Nat × Nat)} {i j : Nat} (h : Kept l L i j) {x : Nat × Nat} (hx : l[j]? = some x) (hp : keepR x = true) : Kept l (L.set i x) (i + 1) (j + 1) := by
  have hj := (List.getElem?_eq_some_iff.1 hx).1
  have hl := h.len
  have hlt := h.lt
  refine ⟨by simp [h.len], by omega, hj, ?_, fun k hk => ?_⟩
  · rw [List.take_add_one, List.take_set_of_le (Nat.le_refl _), List.getElem?_set_self (by omega), List.take_add_one, hx, List.filter_append, h.head]
    simp [hp]
  · rw [List.getElem?_set_ne (by omega)]
    exact h.tail k (by omega)

theorem run_clear_rg (w : World) (ty : TypeId) (b o n c : Nat) (hc : ∀ j, j < n * 2 → (w.cell? ⟨b, o + j, none⟩).isSome = true) (hf : ∀ j, j < n * 2 → w.frozen? ⟨b, o + j, none⟩ = false) :
    (Builtin.clear_ #[23] ty #[.slice (some ⟨b, o, none⟩) n c]).run Try.prog w = .ok (.tuple #[]) (w.setCells b o (List.replicate (n * 2) (.int .u64 0))) := by
  have hzc : (Builtin.zeroCells (Value.agg #[.int .u64 0, .int .u64 0]).cells n).toList = List.replicate (n * 2) (.int .u64 0) := by
    rw [show (Value.agg #[.int .u64 0, .int .u64 0]).cells = #[.int .u64 0, .int .u64 0] from rfl]
    simp [Builtin.zeroCells]
    apply List.ext_getElem
    · simp
    · intro i h1 h2
      rcases Nat.mod_two_eq_zero_or_one i with h | h <;> simp [h]
  have hst := run_storeCells_cells (P := Try.prog) b o (List.replicate (n * 2) (.int .u64 0)) 0 w (by simpa using hc) (by simpa using hf) (by intro v hv'; rw [List.eq_of_mem_replicate hv']; rfl)
  simp only [Nat.add_zero] at hst
  rcases n with _ | m
  · simp [Builtin.clear_, run_underlying Try.underlying23, World.setCells]
  · simp [Builtin.clear_, run_underlying Try.underlying23, Try.zeroValue42, hzc, hst]

end Go.Proofs.Ytaemfoelhijbjaa
