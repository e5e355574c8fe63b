/-
  slices.Reverse at a slice of ranges: the shelf's contract, laid at this program; append of structs of two cells.
-/
import Derived.Shelf.SlicesQ.Reverse
import Derived.Test.YtkkojhkglcigmaaDoorReader2
namespace Go.Proofs.YtkkojhkglcigmaaDoor
open Go.RowKit
set_option linter.unusedVariables false

def revRen : Go.Shelf.Ren := { f := fun _ => 57, t := fun x => if x = 22 then 29 else if x = 23 then 55 else x, g := fun x => x }

theorem revLays : SlLaysE0.n35 Tryd.prog revRen where
  mixed := by kernel_rfl
  f35 := ⟨Tryd.f57.name, by kernel_rfl, by kernel_rfl⟩
  t0 := Tryd.underlying0
  a0 := Tryd.isAgg0
  z0 := Tryd.sizeOf0
  v0 := Tryd.zeroValue0
  t3 := Tryd.underlying3
  a3 := Tryd.isAgg3
  z3 := Tryd.sizeOf3
  v3 := Tryd.zeroValue3
  t4 := Tryd.underlying4
  a4 := Tryd.isAgg4
  z4 := Tryd.sizeOf4
  v4 := Tryd.zeroValue4
  t22 := Tryd.underlying29
  a22 := Tryd.isAgg29
  z22 := Tryd.sizeOf29
  v22 := Tryd.zeroValue29

/-- An address that was not there. -/
def Fresh (base : Nat) (A : Option Addr) : Prop := ∀ p, A = some p → base ≤ p.block

theorem rcells_one (x : Nat × Nat) : ∀ v ∈ rcells x, v.oneCell' = true := by
  intro v hv
  simp only [rcells, List.mem_cons, List.not_mem_nil, or_false] at hv
  rcases hv with rfl | rfl <;> rfl

/-- Ranges in a row of the call's own. -/
theorem flat_at (l : List (Nat × Nat)) : ∀ (i : Nat) (x : Nat × Nat), l[i]? = some x → (l.flatMap rcells)[i * 2]? = some (.int .u64 (x.1 : Int)) ∧ (l.flatMap rcells)[i * 2 + 1]? = some (.int .u64 (x.2 : Int)) := by
  induction l with
  | nil => intro i x h; simp at h
  | cons y l ih =>
    intro i x h
    cases i with
    | zero =>
      simp only [List.getElem?_cons_zero, Option.some.injEq] at h
      subst h
      exact ⟨rfl, rfl⟩
    | succ i =>
      simp only [List.getElem?_cons_succ] at h
      have := ih i x h
      rw [show (i + 1) * 2 = i * 2 + 2 by omega]
      exact this

theorem flat_length (l : List (Nat × Nat)) : (l.flatMap rcells).length = l.length * 2 := by
  induction l with
  | nil => rfl
  | cons y l ih => rw [List.flatMap_cons, List.length_append, ih]; simp [rcells]; omega

set_option maxRecDepth 10000 in
theorem reverse_any (l : List (Nat × Nat)) (v : Value) (w : World) (base : Nat) (hown : w.ownsRow base 55 2 v l.length (l.flatMap rcells)) (hlen : l.length ≤ 16777216) :
    Calls Tryd.prog 57 #[v] w fun e w' => e = .returned (.tuple #[]) ∧ (∃ A c, v = .slice A l.length c ∧ l.length ≤ c ∧ c ≤ maxLen ∧ Sr w' w'.heap.size A l.reverse ∧ Fresh base A) ∧ w.grownBy w' v.ownBlock := by
  rcases hown.2 with ⟨rfl, h0⟩ | ⟨g, cap, cur, rfl, hb, hg, hnc, hcm, hcs, hxs⟩
  · have hl : l = [] := List.eq_nil_of_length_eq_zero h0
    subst hl
    refine (AnyQ.slices_Reverse_empty revLays none 0 w).mono ?_
    rintro e w' ⟨rfl, rfl⟩
    exact ⟨rfl, ⟨none, 0, rfl, Nat.le_refl _, Nat.zero_le _, fun h => absurd rfl h, fun p hp => by cases hp⟩, World.grownBy.refl _ _⟩
  · have hcell : ∀ i v, (l.flatMap rcells)[i]? = some v → w.cell? ⟨g, i, none⟩ = some v := fun i v hv => by
      have := hown.cells (g := g) rfl i v hv
      rw [Addr.add_mid, Nat.zero_add] at this
      exact this
    have hfz : ∀ i, w.frozen? ⟨g, i, none⟩ = false := fun i => by simp [World.frozen?, hg]
    have hH : Go.Sort.HoldsK rcells 2 w g 0 l.toArray := by
      intro j hj
      rw [Go.Sort.size_flatK] at hj
      simp only [List.size_toArray] at hj
      rw [Go.Sort.get_flatK _ _ _ _ (by simpa using hj)]
      obtain ⟨i, hji⟩ : ∃ i, j = i * 2 ∨ j = i * 2 + 1 := ⟨j / 2, by omega⟩
      have hi : i < l.length := by omega
      have hx : l[i]? = some l[i] := List.getElem?_eq_getElem hi
      have hfl := flat_at l _ _ hx
      have hd : j / 2 = i := by omega
      have he : l.toArray[j / 2]! = l[i] := by rw [hd]; simp [hi]
      rw [he, Nat.zero_add]
      refine ⟨?_, hfz j⟩
      rcases hji with rfl | rfl
      · rw [hcell _ _ hfl.1, show i * 2 % 2 = 0 by omega]
        rfl
      · rw [hcell _ _ hfl.2, show (i * 2 + 1) % 2 = 1 by omega]
        rfl
    refine (AnyQ.slices_Reverse revLays 2 Tryd.isAgg55 Tryd.sizeOf55 rcells (fun _ => rfl) rcells_one g 0 cap l.toArray w hH (by simp; omega)).mono ?_
    rintro e w' ⟨rfl, n, rfl⟩
    have hH2 := Go.Sort.holdsK_putRowK rcells 2 (Go.Sort.ahead w n) g 0 l.toArray l.toArray.reverse (Go.Sort.holdsK_ahead rcells 2 w n g 0 l.toArray hH) (by simp)
    have hgl : g < w.heap.size := (Array.getElem?_eq_some_iff.1 hg).1
    have hgr : w.grownBy (Go.Sort.putRowK rcells 2 (Go.Sort.ahead w n) g 0 l.toArray.reverse) (some g) := by
      refine ⟨rfl, rfl, rfl, by simp [Go.Sort.putRowK, Go.Sort.ahead], fun k hk hne => ?_⟩
      have hkg : ¬ g = k := fun e => hne (by rw [e])
      simp [Go.Sort.putRowK, Go.Sort.putRow, Go.Sort.mapBlock, Go.Sort.ahead, Array.getElem?_modify, hkg]
    refine ⟨rfl, ⟨some ⟨g, 0, none⟩, cap, rfl, hnc, hcm, fun _ => ⟨g, 0, rfl, Nat.lt_of_lt_of_le hgl hgr.size, fun i x hx => ?_⟩, fun p hp => by obtain rfl := Option.some.inj hp; exact hb⟩, hgr⟩
    have hi : i < l.reverse.length := (List.getElem?_eq_some_iff.1 hx).1
    have hi' : i < l.toArray.reverse.size := by simpa using hi
    have he : l.toArray.reverse[i]! = x := by
      rw [getElem!_pos _ i hi']
      have := (List.getElem?_eq_some_iff.1 hx).2
      simpa using this
    have c0 := (hH2.cell hi' (show 0 < 2 by omega)).1
    have c1 := (hH2.cell hi' (show 1 < 2 by omega)).1
    rw [he] at c0 c1
    exact ⟨c0, c1⟩

end Go.Proofs.YtkkojhkglcigmaaDoor
