/-
  '==' of two arrays of integers. No program is named here.
-/
import Derived.DeepKeys
import Derived.Laws.StructEq
import Derived.RowKit3
namespace Go.Proofs.YtblclinfcdalaaaDoor
open Go.RowKit

theorem mapM_some {α β : Type} (f : α → Option β) (g : α → β) : ∀ l : List α, (∀ x ∈ l, f x = some (g x)) → l.mapM f = some (l.map g)
  | [], _ => rfl
  | x :: l, h => by
    rw [List.mapM_cons, h x (by simp), mapM_some f g l (fun y hy => h y (by simp [hy]))]
    rfl

section
variable {P : Program}

def ints (q : IntKind) (zs : List Int) : List Value := zs.map fun z => .int q z

theorem keyLits_ints {t e : TypeId} {n : Nat} {q : IntKind} (ht : P.underlying t = some (.array n e)) (he : P.underlying e = some (.int q)) (hct : P.cellsOf t = n) (hce : P.cellsOf e = 1) (d : Nat) (zs : List Int)
    (hl : zs.length = n) (hw : ∀ z ∈ zs, (Lit.int q z).wf = true) : P.keyLits (d + 2) t (ints q zs) = some (zs.map fun z => Lit.int q z) := by
  unfold Program.keyLits
  simp only [ht, hct, hce, Nat.mul_one]
  rw [if_pos (by simp [ints, hl])]
  rw [mapM_some _ (fun i => [Lit.int q (zs.getD i 0)]) (List.range n) (fun i hi => by
    have hi' : i < zs.length := by simp at hi; omega
    have h1 : ((ints q zs).drop i).take 1 = [.int q zs[i]] := by
      unfold ints
      rw [List.drop_eq_getElem_cons (by simpa using hi')]
      simp
    rw [h1]
    unfold Program.keyLits
    simp only [he]
    rw [if_pos ⟨trivial, hw _ (List.getElem_mem hi')⟩]
    simp [List.getD, hi'])]
  simp only [Option.map_some, Option.some.injEq]
  subst hl
  apply List.ext_getElem?
  intro i
  have hflat : ∀ l : List Nat, (l.map fun i => [Lit.int q (zs.getD i 0)]).flatten = l.map fun i => Lit.int q (zs.getD i 0) := by
    intro l
    induction l with
    | nil => rfl
    | cons a l ih => rw [List.map_cons, List.flatten_cons, ih]; rfl
  rw [hflat]
  by_cases hi : i < zs.length
  · simp [hi]
  · rw [List.getElem?_eq_none (by simp; omega), List.getElem?_eq_none (by simp; omega)]

theorem ints_inj {q : IntKind} {a b : List Int} : (a.map fun z => Lit.int q z) = (b.map fun z => Lit.int q z) ↔ a = b := by
  constructor
  · intro h
    have := congrArg (List.map fun x => match x with | Lit.int _ z => z | _ => 0) h
    simpa [List.map_map, Function.comp_def] using this
  · rintro rfl; rfl

/-- '==' of two arrays of integers. -/
theorem run_eql_ints {t e : TypeId} {n : Nat} {q : IntKind} (ht : P.underlying t = some (.array n e)) (he : P.underlying e = some (.int q)) (hct : P.cellsOf t = n) (hce : P.cellsOf e = 1) (hk : P.keyTypeAt 2 t = true)
    (xs ys : List Int) (hx : xs.length = n) (hy : ys.length = n) (wx : ∀ z ∈ xs, (Lit.int q z).wf = true) (wy : ∀ z ∈ ys, (Lit.int q z).wf = true) (w : World) :
    (binOp .eql t (.agg (ints q xs).toArray) (.agg (ints q ys).toArray)).run P w = .ok (.bool (decide (xs = ys))) w := by
  have hf : ∀ zs : List Int, zs.length = n → (Value.agg (ints q zs).toArray).formed P t = true := fun zs hz => by
    simp [Value.formed, ht, hct, ints, hz]
  obtain ⟨r, hr, hiff⟩ := run_equalIn_deep (P := P) 9998 2 t hk w 2 2 (.agg (ints q xs).toArray) (.agg (ints q ys).toArray) _ _ (hf xs hx) (hf ys hy)
    (by simpa [Value.cells] using keyLits_ints ht he hct hce 0 xs hx wx) (by simpa [Value.cells] using keyLits_ints ht he hct hce 0 ys hy wy)
  rw [ints_inj] at hiff
  have hd : r = decide (xs = ys) := by
    rw [Bool.eq_iff_iff, hiff, decide_eq_true_iff]
  rw [run_eql_struct, hr, hd]
  rfl
/-- '==' of two arrays of integers. -/
theorem run_equalIn_ints {t e : TypeId} {n : Nat} {q : IntKind} (ht : P.underlying t = some (.array n e)) (he : P.underlying e = some (.int q)) (hct : P.cellsOf t = n) (hce : P.cellsOf e = 1) (hk : P.keyTypeAt 2 t = true)
    (xs ys : List Int) (hx : xs.length = n) (hy : ys.length = n) (wx : ∀ z ∈ xs, (Lit.int q z).wf = true) (wy : ∀ z ∈ ys, (Lit.int q z).wf = true) (w : World) :
    (Op.equalIn 10000 t (.agg (ints q xs).toArray) (.agg (ints q ys).toArray)).run P w = .ok (decide (xs = ys)) w := by
  have hf : ∀ zs : List Int, zs.length = n → (Value.agg (ints q zs).toArray).formed P t = true := fun zs hz => by
    simp [Value.formed, ht, hct, ints, hz]
  obtain ⟨r, hr, hiff⟩ := run_equalIn_deep (P := P) 9998 2 t hk w 2 2 (.agg (ints q xs).toArray) (.agg (ints q ys).toArray) _ _ (hf xs hx) (hf ys hy)
    (by simpa [Value.cells] using keyLits_ints ht he hct hce 0 xs hx wx) (by simpa [Value.cells] using keyLits_ints ht he hct hce 0 ys hy wy)
  rw [ints_inj] at hiff
  have hd : r = decide (xs = ys) := by
    rw [Bool.eq_iff_iff, hiff, decide_eq_true_iff]
  rw [hr, hd]

end
end Go.Proofs.YtblclinfcdalaaaDoor
