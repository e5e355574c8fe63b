/-
  A long region of plain operations, walked piece by piece: the slots are kept behind a name, and only those that are read later are known. No program is named here.
-/
import Derived.WalkKit
import Derived.Test.YtkkojhkglcigmaaDoorEq
namespace Go.Proofs.YtkkojhkglcigmaaDoor
open Go.RowKit

/-- What is left of a list, out of the walk's sight. -/
def Rest (_ l : List Oper) : List Oper := l

theorem opq {G : Array Value → Prop} {T : Array Value} {n i j : Nat} {vi vj : Value} (hn : T.size = n) (hi : T[i]? = some vi) (hj : T[j]? = some vj)
    (h : ∀ T' : Array Value, T'.size = n → T'[i]? = some vi → T'[j]? = some vj → G T') : G T := h T hn hi hj

theorem seg9 {P : Program} {ops : Array Oper} {Q : Exit → Act → World → Prop} {o0 o1 o2 o3 o4 o5 o6 o7 o8 : Oper} {r : List Oper} {T : Array Value} {w : World} (F : Array Value → Prop)
    (h1 : ∀ (R : List Oper) (O : Array Oper), (∀ j : Nat, O[j]? = ops[j]?) → (∀ T', F T' → wpList P O Q (Rest [] R) { tmps := T', defers := [] } w) → wpList P O Q (o0 :: o1 :: o2 :: o3 :: o4 :: o5 :: o6 :: o7 :: o8 :: Rest [] R) { tmps := T, defers := [] } w)
    (h2 : ∀ T', F T' → wpList P ops Q r { tmps := T', defers := [] } w) : wpList P ops Q (o0 :: o1 :: o2 :: o3 :: o4 :: o5 :: o6 :: o7 :: o8 :: r) { tmps := T, defers := [] } w :=
  h1 r ops (fun _ => rfl) h2

theorem seg10 {P : Program} {ops : Array Oper} {Q : Exit → Act → World → Prop} {o0 o1 o2 o3 o4 o5 o6 o7 o8 o9 : Oper} {r : List Oper} {T : Array Value} {w : World} (F : Array Value → Prop)
    (h1 : ∀ (R : List Oper) (O : Array Oper), (∀ j : Nat, O[j]? = ops[j]?) → (∀ T', F T' → wpList P O Q (Rest [] R) { tmps := T', defers := [] } w) → wpList P O Q (o0 :: o1 :: o2 :: o3 :: o4 :: o5 :: o6 :: o7 :: o8 :: o9 :: Rest [] R) { tmps := T, defers := [] } w)
    (h2 : ∀ T', F T' → wpList P ops Q r { tmps := T', defers := [] } w) : wpList P ops Q (o0 :: o1 :: o2 :: o3 :: o4 :: o5 :: o6 :: o7 :: o8 :: o9 :: r) { tmps := T, defers := [] } w :=
  h1 r ops (fun _ => rfl) h2

theorem seg11 {P : Program} {ops : Array Oper} {Q : Exit → Act → World → Prop} {o0 o1 o2 o3 o4 o5 o6 o7 o8 o9 o10 : Oper} {r : List Oper} {T : Array Value} {w : World} (F : Array Value → Prop)
    (h1 : ∀ (R : List Oper) (O : Array Oper), (∀ j : Nat, O[j]? = ops[j]?) → (∀ T', F T' → wpList P O Q (Rest [] R) { tmps := T', defers := [] } w) → wpList P O Q (o0 :: o1 :: o2 :: o3 :: o4 :: o5 :: o6 :: o7 :: o8 :: o9 :: o10 :: Rest [] R) { tmps := T, defers := [] } w)
    (h2 : ∀ T', F T' → wpList P ops Q r { tmps := T', defers := [] } w) : wpList P ops Q (o0 :: o1 :: o2 :: o3 :: o4 :: o5 :: o6 :: o7 :: o8 :: o9 :: o10 :: r) { tmps := T, defers := [] } w :=
  h1 r ops (fun _ => rfl) h2

theorem seg12 {P : Program} {ops : Array Oper} {Q : Exit → Act → World → Prop} {o0 o1 o2 o3 o4 o5 o6 o7 o8 o9 o10 o11 : Oper} {r : List Oper} {T : Array Value} {w : World} (F : Array Value → Prop)
    (h1 : ∀ (R : List Oper) (O : Array Oper), (∀ j : Nat, O[j]? = ops[j]?) → (∀ T', F T' → wpList P O Q (Rest [] R) { tmps := T', defers := [] } w) → wpList P O Q (o0 :: o1 :: o2 :: o3 :: o4 :: o5 :: o6 :: o7 :: o8 :: o9 :: o10 :: o11 :: Rest [] R) { tmps := T, defers := [] } w)
    (h2 : ∀ T', F T' → wpList P ops Q r { tmps := T', defers := [] } w) : wpList P ops Q (o0 :: o1 :: o2 :: o3 :: o4 :: o5 :: o6 :: o7 :: o8 :: o9 :: o10 :: o11 :: r) { tmps := T, defers := [] } w :=
  h1 r ops (fun _ => rfl) h2

theorem seg13 {P : Program} {ops : Array Oper} {Q : Exit → Act → World → Prop} {o0 o1 o2 o3 o4 o5 o6 o7 o8 o9 o10 o11 o12 : Oper} {r : List Oper} {T : Array Value} {w : World} (F : Array Value → Prop)
    (h1 : ∀ (R : List Oper) (O : Array Oper), (∀ j : Nat, O[j]? = ops[j]?) → (∀ T', F T' → wpList P O Q (Rest [] R) { tmps := T', defers := [] } w) → wpList P O Q (o0 :: o1 :: o2 :: o3 :: o4 :: o5 :: o6 :: o7 :: o8 :: o9 :: o10 :: o11 :: o12 :: Rest [] R) { tmps := T, defers := [] } w)
    (h2 : ∀ T', F T' → wpList P ops Q r { tmps := T', defers := [] } w) : wpList P ops Q (o0 :: o1 :: o2 :: o3 :: o4 :: o5 :: o6 :: o7 :: o8 :: o9 :: o10 :: o11 :: o12 :: r) { tmps := T, defers := [] } w :=
  h1 r ops (fun _ => rfl) h2

theorem seg14 {P : Program} {ops : Array Oper} {Q : Exit → Act → World → Prop} {o0 o1 o2 o3 o4 o5 o6 o7 o8 o9 o10 o11 o12 o13 : Oper} {r : List Oper} {T : Array Value} {w : World} (F : Array Value → Prop)
    (h1 : ∀ (R : List Oper) (O : Array Oper), (∀ j : Nat, O[j]? = ops[j]?) → (∀ T', F T' → wpList P O Q (Rest [] R) { tmps := T', defers := [] } w) → wpList P O Q (o0 :: o1 :: o2 :: o3 :: o4 :: o5 :: o6 :: o7 :: o8 :: o9 :: o10 :: o11 :: o12 :: o13 :: Rest [] R) { tmps := T, defers := [] } w)
    (h2 : ∀ T', F T' → wpList P ops Q r { tmps := T', defers := [] } w) : wpList P ops Q (o0 :: o1 :: o2 :: o3 :: o4 :: o5 :: o6 :: o7 :: o8 :: o9 :: o10 :: o11 :: o12 :: o13 :: r) { tmps := T, defers := [] } w :=
  h1 r ops (fun _ => rfl) h2

theorem seg15 {P : Program} {ops : Array Oper} {Q : Exit → Act → World → Prop} {o0 o1 o2 o3 o4 o5 o6 o7 o8 o9 o10 o11 o12 o13 o14 : Oper} {r : List Oper} {T : Array Value} {w : World} (F : Array Value → Prop)
    (h1 : ∀ (R : List Oper) (O : Array Oper), (∀ j : Nat, O[j]? = ops[j]?) → (∀ T', F T' → wpList P O Q (Rest [] R) { tmps := T', defers := [] } w) → wpList P O Q (o0 :: o1 :: o2 :: o3 :: o4 :: o5 :: o6 :: o7 :: o8 :: o9 :: o10 :: o11 :: o12 :: o13 :: o14 :: Rest [] R) { tmps := T, defers := [] } w)
    (h2 : ∀ T', F T' → wpList P ops Q r { tmps := T', defers := [] } w) : wpList P ops Q (o0 :: o1 :: o2 :: o3 :: o4 :: o5 :: o6 :: o7 :: o8 :: o9 :: o10 :: o11 :: o12 :: o13 :: o14 :: r) { tmps := T, defers := [] } w :=
  h1 r ops (fun _ => rfl) h2

theorem seg7 {P : Program} {ops : Array Oper} {Q : Exit → Act → World → Prop} {o0 o1 o2 o3 o4 o5 o6 : Oper} {r : List Oper} {T : Array Value} {w : World} (F : Array Value → Prop)
    (h1 : ∀ (R : List Oper) (O : Array Oper), (∀ j : Nat, O[j]? = ops[j]?) → (∀ T', F T' → wpList P O Q (Rest [] R) { tmps := T', defers := [] } w) → wpList P O Q (o0 :: o1 :: o2 :: o3 :: o4 :: o5 :: o6 :: Rest [] R) { tmps := T, defers := [] } w)
    (h2 : ∀ T', F T' → wpList P ops Q r { tmps := T', defers := [] } w) : wpList P ops Q (o0 :: o1 :: o2 :: o3 :: o4 :: o5 :: o6 :: r) { tmps := T, defers := [] } w :=
  h1 r ops (fun _ => rfl) h2

theorem seg8 {P : Program} {ops : Array Oper} {Q : Exit → Act → World → Prop} {o0 o1 o2 o3 o4 o5 o6 o7 : Oper} {r : List Oper} {T : Array Value} {w : World} (F : Array Value → Prop)
    (h1 : ∀ (R : List Oper) (O : Array Oper), (∀ j : Nat, O[j]? = ops[j]?) → (∀ T', F T' → wpList P O Q (Rest [] R) { tmps := T', defers := [] } w) → wpList P O Q (o0 :: o1 :: o2 :: o3 :: o4 :: o5 :: o6 :: o7 :: Rest [] R) { tmps := T, defers := [] } w)
    (h2 : ∀ T', F T' → wpList P ops Q r { tmps := T', defers := [] } w) : wpList P ops Q (o0 :: o1 :: o2 :: o3 :: o4 :: o5 :: o6 :: o7 :: r) { tmps := T, defers := [] } w :=
  h1 r ops (fun _ => rfl) h2

theorem seg16 {P : Program} {ops : Array Oper} {Q : Exit → Act → World → Prop} {o0 o1 o2 o3 o4 o5 o6 o7 o8 o9 o10 o11 o12 o13 o14 o15 : Oper} {r : List Oper} {T : Array Value} {w : World} (F : Array Value → Prop)
    (h1 : ∀ (R : List Oper) (O : Array Oper), (∀ j : Nat, O[j]? = ops[j]?) → (∀ T', F T' → wpList P O Q (Rest [] R) { tmps := T', defers := [] } w) → wpList P O Q (o0 :: o1 :: o2 :: o3 :: o4 :: o5 :: o6 :: o7 :: o8 :: o9 :: o10 :: o11 :: o12 :: o13 :: o14 :: o15 :: Rest [] R) { tmps := T, defers := [] } w)
    (h2 : ∀ T', F T' → wpList P ops Q r { tmps := T', defers := [] } w) : wpList P ops Q (o0 :: o1 :: o2 :: o3 :: o4 :: o5 :: o6 :: o7 :: o8 :: o9 :: o10 :: o11 :: o12 :: o13 :: o14 :: o15 :: r) { tmps := T, defers := [] } w :=
  h1 r ops (fun _ => rfl) h2

theorem seg17 {P : Program} {ops : Array Oper} {Q : Exit → Act → World → Prop} {o0 o1 o2 o3 o4 o5 o6 o7 o8 o9 o10 o11 o12 o13 o14 o15 o16 : Oper} {r : List Oper} {T : Array Value} {w : World} (F : Array Value → Prop)
    (h1 : ∀ (R : List Oper) (O : Array Oper), (∀ j : Nat, O[j]? = ops[j]?) → (∀ T', F T' → wpList P O Q (Rest [] R) { tmps := T', defers := [] } w) → wpList P O Q (o0 :: o1 :: o2 :: o3 :: o4 :: o5 :: o6 :: o7 :: o8 :: o9 :: o10 :: o11 :: o12 :: o13 :: o14 :: o15 :: o16 :: Rest [] R) { tmps := T, defers := [] } w)
    (h2 : ∀ T', F T' → wpList P ops Q r { tmps := T', defers := [] } w) : wpList P ops Q (o0 :: o1 :: o2 :: o3 :: o4 :: o5 :: o6 :: o7 :: o8 :: o9 :: o10 :: o11 :: o12 :: o13 :: o14 :: o15 :: o16 :: r) { tmps := T, defers := [] } w :=
  h1 r ops (fun _ => rfl) h2

theorem seg18 {P : Program} {ops : Array Oper} {Q : Exit → Act → World → Prop} {o0 o1 o2 o3 o4 o5 o6 o7 o8 o9 o10 o11 o12 o13 o14 o15 o16 o17 : Oper} {r : List Oper} {T : Array Value} {w : World} (F : Array Value → Prop)
    (h1 : ∀ (R : List Oper) (O : Array Oper), (∀ j : Nat, O[j]? = ops[j]?) → (∀ T', F T' → wpList P O Q (Rest [] R) { tmps := T', defers := [] } w) → wpList P O Q (o0 :: o1 :: o2 :: o3 :: o4 :: o5 :: o6 :: o7 :: o8 :: o9 :: o10 :: o11 :: o12 :: o13 :: o14 :: o15 :: o16 :: o17 :: Rest [] R) { tmps := T, defers := [] } w)
    (h2 : ∀ T', F T' → wpList P ops Q r { tmps := T', defers := [] } w) : wpList P ops Q (o0 :: o1 :: o2 :: o3 :: o4 :: o5 :: o6 :: o7 :: o8 :: o9 :: o10 :: o11 :: o12 :: o13 :: o14 :: o15 :: o16 :: o17 :: r) { tmps := T, defers := [] } w :=
  h1 r ops (fun _ => rfl) h2

end Go.Proofs.YtkkojhkglcigmaaDoor
