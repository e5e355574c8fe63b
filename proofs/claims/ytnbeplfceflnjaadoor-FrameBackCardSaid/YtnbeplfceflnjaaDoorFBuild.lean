/-
  A slice literal of one great struct, in a region that draws its order. No program is named here.
-/
import Derived.Great.BuildSlice
import Derived.Test.YtnbeplfceflnjaaDoorWords
namespace Go.Proofs.YtnbeplfceflnjaaDoor
open Go.RowKit

theorem foldl_set (l : List Value) (k : Nat) (Z : Array Value) : ((l.zipIdx k).foldl (fun cs x => cs.setIfInBounds x.2 x.1) Z).size = Z.size ∧
    ∀ i, ((l.zipIdx k).foldl (fun cs x => cs.setIfInBounds x.2 x.1) Z)[i]? = if k ≤ i ∧ i < k + l.length ∧ i < Z.size then l[i - k]? else Z[i]? := by
  induction l generalizing k Z with
  | nil =>
    refine ⟨rfl, fun i => ?_⟩
    rw [if_neg (by simp; omega)]
    rfl
  | cons x l ih =>
    rw [List.zipIdx_cons, List.foldl_cons]
    obtain ⟨h1, h2⟩ := ih (k + 1) (Z.setIfInBounds k x)
    refine ⟨by rw [h1]; simp, fun i => ?_⟩
    rw [h2 i]
    simp only [Array.size_setIfInBounds, List.length_cons]
    by_cases hi : k = i
    · subst hi
      rw [if_neg (by omega), Nat.sub_self]
      by_cases hz : k < Z.size
      · rw [if_pos (by omega)]
        simp [hz]
      · rw [if_neg (by omega)]
        simp [hz]
    · by_cases hc : k + 1 ≤ i ∧ i < k + 1 + l.length ∧ i < Z.size
      · rw [if_pos hc, if_pos (by omega), show i - k = (i - (k + 1)) + 1 by omega, List.getElem?_cons_succ]
      · rw [if_neg hc, if_neg (by omega)]
        simp [hi]

theorem fill_one (Z R : Array Value) (n : Nat) (hR : R.size = n) (h : Z.size = n) : Instr.fill (fun i => some (i * n, n)) Z [(0, .agg R)] = some R := by
  subst hR
  have hf : (R.zipIdx.foldl (fun cs x => cs.setIfInBounds x.2 x.1) Z) = R := by
    have e : R.zipIdx.foldl (fun cs x => cs.setIfInBounds x.2 x.1) Z = (R.toList.zipIdx 0).foldl (fun cs x => cs.setIfInBounds x.2 x.1) Z := by
      rw [← Array.foldl_toList, Array.toList_zipIdx]
    rw [e]
    obtain ⟨h1, h2⟩ := foldl_set R.toList 0 Z
    apply Array.ext_getElem?
    intro i
    rw [h2 i]
    by_cases hi : i < R.size
    · rw [if_pos (by simp; omega)]
      simp
    · rw [if_neg (by simp; omega), Array.getElem?_eq_none (by omega), Array.getElem?_eq_none (by omega)]
  have hs : R.zipIdx.size = R.size := by simp
  simp [Instr.fill, Value.cells, h]
  rw [← hs]
  exact hf

theorem step_build_one {P : Program} {ops : Array Oper} {o : Oper} {a : Act} {w : World} {K : Act → World → Prop} {Q : Exit → Act → World → Prop} {E : Prop} (hgd : o.guard = none) (t e : TypeId) (x : Operand) (ho : o.op = .buildSlice t 1 #[(0, x)])
    (R : Array Value) (n : Nat) (hx : a.eval x = .agg R) (hR : R.size = n) (hn : 0 < n) (hn2 : n ≤ 1000) (ie : TypeInfo) (z : Value) (hu : P.underlying t = some (.slice e)) (hie : P.info? e = some ie) (hz : ie.zero = some z) (hs : ie.size = n)
    (h : K (a.put o.dst (.slice (some ⟨w.heap.size, 0, none⟩) 1 1)) (w.alloc (.cells R e))) : if Region.wanted o (yielded ops a.tmps) = true then Oper.wp P o a w K Q else E := by
  have hw : Region.wanted o (yielded ops a.tmps) = true := by simp [Region.wanted, hgd]
  rw [if_pos hw]
  refine wp_buildSlice t e 1 #[(0, x)] ho R ie z hu hie hz (by rw [hs]; omega) (by rw [hs]; omega) ?_ h
  have e : ((#[(0, x)] : Array (Nat × Operand)).map fun (i, x) => (i, a.eval x)).toList = [(0, .agg R)] := by simp [hx]
  rw [e, hs, Nat.one_mul]
  exact fill_one _ R n hR (by simp)

end Go.Proofs.YtnbeplfceflnjaaDoor
