/-
  Words for memory: a slice that reads as a list of bytes, or of numbers of 64 bits. No program is named here.
-/
import Derived.WalkKit
import Derived.Deep.AppendLies
import Derived.Deep.Draws
import Derived.Maps.AppendAt
import Derived.Laws.BytesArg
import Derived.Lib.Hide
import Derived.Test.YtmidlgojknfooaaMath
namespace Go.Proofs.Ytmidlgojknfooaa
open Go.RowKit

/-- A byte's, a number's value. -/
def cell8 (x : UInt8) : Value := .int .u8 (x.toNat : Int)
def cell64 (n : Nat) : Value := .int .u64 (n : Int)

/-- The slice at A reads as the values xs, one cell each, and lies below block B. -/
def Sv (w : World) (B : Nat) (A : Option Addr) (xs : List Value) : Prop :=
  xs ≠ [] → ∃ b off, A = some ⟨b, off, none⟩ ∧ b < B ∧ ∀ i v, xs[i]? = some v → w.cell? ⟨b, off + i, none⟩ = some v

theorem Sv.nil (w : World) (B : Nat) (A : Option Addr) : Sv w B A [] := fun h => absurd rfl h

theorem Sv.keep {w w' : World} {B B' : Nat} {A : Option Addr} {xs : List Value} (h : Sv w B A xs) (hB : B ≤ B') (hk : ∀ p : Addr, p.block < B → w'.cell? p = w.cell? p) : Sv w' B' A xs := by
  intro hn
  obtain ⟨b, off, rfl, hb, hc⟩ := h hn
  exact ⟨b, off, rfl, by omega, fun i v hv => (hk ⟨b, off + i, none⟩ hb).trans (hc i v hv)⟩

theorem Sv.below {w w' : World} {B : Nat} {A : Option Addr} {xs : List Value} (h : Sv w B A xs) (hb : Below B w w') : Sv w' B A xs := h.keep (Nat.le_refl _) fun _ hp => hb.cell hp

theorem Sv.take {w : World} {B : Nat} {A : Option Addr} {xs : List Value} (h : Sv w B A xs) (k : Nat) : Sv w B A (xs.take k) := by
  intro hn
  obtain ⟨b, off, rfl, hb, hc⟩ := h (by rintro rfl; simp at hn)
  exact ⟨b, off, rfl, hb, fun i v hv => hc i v (by rw [List.getElem?_take] at hv; split at hv; exact hv; cases hv)⟩

/-- A cut 's[k:]', as the model spells its address. -/
theorem Sv.drop {w : World} {B : Nat} {b off : Nat} {xs : List Value} (h : Sv w B (some ⟨b, off, none⟩) xs) (k : Nat) : Sv w B (some ⟨b, off + k, none⟩) (xs.drop k) := by
  intro hn
  obtain ⟨b', off', e, hb, hc⟩ := h (by rintro rfl; simp at hn)
  simp only [Option.some.injEq, Addr.mk.injEq, and_true] at e
  obtain ⟨rfl, rfl⟩ := e
  refine ⟨b, off + k, rfl, hb, fun i v hv => ?_⟩
  rw [Nat.add_assoc]
  exact hc (k + i) v (by rw [← hv, List.getElem?_drop])

/-- A cut 's[k:k+n]', as the model spells its address, whatever the slice's own. -/
theorem Sv.cut {w : World} {B : Nat} {A : Option Addr} {xs : List Value} (h : Sv w B A xs) (k n c : Nat) (hc : xs.length ≤ c) :
    Sv w B (if c = k then A else A.map fun x => x.add k) ((xs.drop k).take n) := by
  by_cases hk : c = k
  · rw [List.drop_eq_nil_of_le (by omega)]
    simpa using Sv.nil w B _
  · rw [if_neg hk]
    intro hn
    obtain ⟨b, off, rfl, hb, hcell⟩ := h (by rintro rfl; simp at hn)
    refine ⟨b, off + k, by rw [Option.map_some, Addr.add_lit], hb, fun i v hv => ?_⟩
    rw [Nat.add_assoc]
    refine hcell (k + i) v ?_
    rw [List.getElem?_take] at hv
    split at hv
    · rw [← hv, List.getElem?_drop]
    · cases hv

theorem Sv.of_own {w : World} {base : Nat} {e : TypeId} {A : Option Addr} {n c : Nat} {xs : List Value} (h : w.ownsRow base e 1 (.slice A n c) n xs) : Sv w w.heap.size A xs := by
  intro hn
  rcases h.2 with ⟨hv, hz⟩ | ⟨g, cap, cur, hv, hb, hg, _⟩
  · subst hz
    have := h.1
    simp at this
    exact absurd this hn
  · simp only [Value.slice.injEq] at hv
    obtain ⟨rfl, _, rfl⟩ := hv
    refine ⟨g, 0, rfl, (Array.getElem?_eq_some_iff.1 hg).1, fun i v hv' => ?_⟩
    have := h.cells (g := g) rfl i v hv'
    rw [Addr.add_lit] at this
    exact this

/-- A slice that is not empty has an address. -/
theorem Sv.at_ {w : World} {B : Nat} {A : Option Addr} {xs : List Value} (h : Sv w B A xs) (hn : 0 < xs.length) :
    ∃ b off, A = some ⟨b, off, none⟩ ∧ b < B ∧ ∀ i v, xs[i]? = some v → w.cell? ⟨b, off + i, none⟩ = some v :=
  h (by rintro rfl; simp at hn)

abbrev Sl (w : World) (B : Nat) (A : Option Addr) (l : List UInt8) : Prop := Sv w B A (l.map cell8)

theorem Sl.at_ {w : World} {B : Nat} {A : Option Addr} {l : List UInt8} (h : Sl w B A l) (hn : 0 < l.length) :
    ∃ b off, A = some ⟨b, off, none⟩ ∧ b < B ∧ ∀ i x, l[i]? = some x → w.cell? ⟨b, off + i, none⟩ = some (.int .u8 (x.toNat : Int)) := by
  obtain ⟨b, off, hA, hb, hc⟩ := Sv.at_ h (by simpa using hn)
  exact ⟨b, off, hA, hb, fun i x hx => hc i (cell8 x) (by rw [List.getElem?_map, hx]; rfl)⟩

end Go.Proofs.Ytmidlgojknfooaa
