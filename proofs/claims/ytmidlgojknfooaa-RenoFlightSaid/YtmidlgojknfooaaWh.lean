/-
  Words for blocks that are known whole, and for slices that lie apart from a block. No program is named here.
-/
import Derived.Test.YtmidlgojknfooaaLaws
namespace Go.Proofs.Ytmidlgojknfooaa
open Go.RowKit

/-- A store into a block turns no other one. -/
theorem grown_set (w : World) (g i : Nat) (u : Value) : w.grownBy (w.setCell ⟨g, i, none⟩ u) (some g) :=
  ⟨rfl, rfl, rfl, by simp [World.setCell], fun k hk hne => Below.heap_setCell w ⟨g, i, none⟩ u k (fun e => hne (by rw [e]))⟩

theorem grown_trans {a b c : World} {row : Option Nat} (h : a.grownBy b row) (k : b.grownBy c row) : a.grownBy c row :=
  ⟨k.os.trans h.os, k.tape.trans h.tape, k.output.trans h.output, Nat.le_trans h.size k.size, fun i hi hne => (k.block i (Nat.lt_of_lt_of_le hi h.size) hne).trans (h.block i hi hne)⟩

theorem grown_below {a b : World} {row : Option Nat} (h : Below a.heap.size a b) : a.grownBy b row :=
  ⟨h.os, h.tape, h.output, h.size, fun k hk _ => h.block k hk⟩

/-- A block that is known whole. -/
def Wh (w : World) (g : Nat) (t : TypeId) (cs : Array Value) : Prop := w.heap[g]? = some (.cells cs t (0, 0))

theorem Wh.lt {w : World} {g : Nat} {t : TypeId} {cs : Array Value} (h : Wh w g t cs) : g < w.heap.size := by
  rcases Nat.lt_or_ge g w.heap.size with hlt | hge
  · exact hlt
  · unfold Wh at h; rw [Array.getElem?_eq_none hge] at h; cases h
theorem Wh.cell {w : World} {g : Nat} {t : TypeId} {cs : Array Value} (h : Wh w g t cs) (i : Nat) : w.cell? ⟨g, i, none⟩ = cs[i]? := cell_of_row w g i cs t (0, 0) h
theorem Wh.frozen {w : World} {g : Nat} {t : TypeId} {cs : Array Value} (h : Wh w g t cs) (i : Nat) : w.frozen? ⟨g, i, none⟩ = false := by
  unfold Wh at h
  simp [World.frozen?, h]
theorem Wh.new (w : World) (t : TypeId) (cs : Array Value) : Wh (w.alloc (.cells cs t)) w.heap.size t cs := heap_alloc_new w _
theorem Wh.alloc {w : World} {g : Nat} {t : TypeId} {cs : Array Value} (h : Wh w g t cs) (o : Obj) : Wh (w.alloc o) g t cs := (Below.heap_alloc w o g h.lt).trans h
theorem Wh.put {w : World} {g : Nat} {t : TypeId} {cs : Array Value} (h : Wh w g t cs) (i : Nat) (u : Value) : Wh (w.setCell ⟨g, i, none⟩ u) g t (cs.setIfInBounds i u) := by
  unfold Wh at h ⊢
  simp [World.setCell, Array.getElem?_modify, h]
theorem Wh.far {w : World} {g : Nat} {t : TypeId} {cs : Array Value} (h : Wh w g t cs) {p : Addr} (hp : g ≠ p.block) (u : Value) : Wh (w.setCell p u) g t cs := (Below.heap_setCell w p u g hp).trans h
theorem Wh.below {w w' : World} {g B : Nat} {t : TypeId} {cs : Array Value} (h : Wh w g t cs) (hb : Below B w w') (hg : g < B) : Wh w' g t cs := (hb.block g hg).trans h
theorem Wh.grown {w w' : World} {g : Nat} {row : Option Nat} {t : TypeId} {cs : Array Value} (h : Wh w g t cs) (hb : w.grownBy w' row) (hg : some g ≠ row) : Wh w' g t cs := (hb.block g h.lt hg).trans h

/-- The slice at A reads as the values xs, and lies outside block g. -/
def Sx (w : World) (g : Nat) (A : Option Addr) (xs : List Value) : Prop :=
  xs ≠ [] → ∃ b off, A = some ⟨b, off, none⟩ ∧ b < w.heap.size ∧ b ≠ g ∧ ∀ i v, xs[i]? = some v → w.cell? ⟨b, off + i, none⟩ = some v

theorem Sx.nil (w : World) (g : Nat) (A : Option Addr) : Sx w g A [] := fun h => absurd rfl h

theorem Sx.grown {w w' : World} {g : Nat} {A : Option Addr} {xs : List Value} (h : Sx w g A xs) (hb : w.grownBy w' (some g)) : Sx w' g A xs := by
  intro hn
  obtain ⟨b, off, rfl, hlt, hne, hc⟩ := h hn
  exact ⟨b, off, rfl, Nat.lt_of_lt_of_le hlt hb.size, hne, fun i v hv => (World.cell?_of_block (hb.block b hlt (fun e => hne (Option.some.inj e)))).trans (hc i v hv)⟩

theorem Sx.sv {w : World} {g : Nat} {A : Option Addr} {xs : List Value} (h : Sx w g A xs) : Sv w w.heap.size A xs := by
  intro hn
  obtain ⟨b, off, rfl, hlt, _, hc⟩ := h hn
  exact ⟨b, off, rfl, hlt, hc⟩

theorem Sx.of {w : World} {B g : Nat} {A : Option Addr} {xs : List Value} (h : Sv w B A xs) (hB : B ≤ g) (hg : g < w.heap.size) : Sx w g A xs := by
  intro hn
  obtain ⟨b, off, rfl, hlt, hc⟩ := h hn
  exact ⟨b, off, rfl, by omega, by omega, hc⟩

/-- What a call made in memory of its own lies outside every elder block. -/
theorem Sx.of_own {w : World} {base g : Nat} {e : TypeId} {A : Option Addr} {n c : Nat} {xs : List Value} (h : w.ownsRow base e 1 (.slice A n c) n xs) (hg : g < base) : Sx w g A xs := by
  intro hn
  obtain ⟨b, off, rfl, hb, hc⟩ := Sv.of_own h hn
  refine ⟨b, off, rfl, hb, ?_, hc⟩
  rcases h.2 with ⟨_, hz⟩ | ⟨k, cap, cur, hv, hbk, _⟩
  · subst hz
    have := h.1
    simp at this
    exact absurd this hn
  · simp only [Value.slice.injEq, Option.some.injEq, Addr.mk.injEq] at hv
    omega

theorem Sx.below {w w' : World} {g : Nat} {A : Option Addr} {xs : List Value} (h : Sx w g A xs) (hb : Below w.heap.size w w') : Sx w' g A xs := h.grown (grown_below hb)

/-- The slice at A reads as the values xs, and lies at block lo or behind it. -/
def Sy (w : World) (lo : Nat) (A : Option Addr) (xs : List Value) : Prop :=
  xs ≠ [] → ∃ b off, A = some ⟨b, off, none⟩ ∧ lo ≤ b ∧ b < w.heap.size ∧ ∀ i v, xs[i]? = some v → w.cell? ⟨b, off + i, none⟩ = some v

theorem Sy.nil (w : World) (lo : Nat) (A : Option Addr) : Sy w lo A [] := fun h => absurd rfl h

theorem Sy.grown {w w' : World} {lo : Nat} {row : Option Nat} {A : Option Addr} {xs : List Value} (h : Sy w lo A xs) (hb : w.grownBy w' row) (hr : ∀ g, row = some g → g < lo) : Sy w' lo A xs := by
  intro hn
  obtain ⟨b, off, rfl, hlo, hlt, hc⟩ := h hn
  exact ⟨b, off, rfl, hlo, Nat.lt_of_lt_of_le hlt hb.size, fun i v hv => (World.cell?_of_block (hb.block b hlt (fun e => by have := hr b e.symm; omega))).trans (hc i v hv)⟩

theorem Sy.sv {w : World} {lo : Nat} {A : Option Addr} {xs : List Value} (h : Sy w lo A xs) : Sv w w.heap.size A xs := by
  intro hn
  obtain ⟨b, off, rfl, _, hlt, hc⟩ := h hn
  exact ⟨b, off, rfl, hlt, hc⟩

theorem Sy.mono {w : World} {lo lo' : Nat} {A : Option Addr} {xs : List Value} (h : Sy w lo A xs) (hl : lo' ≤ lo) : Sy w lo' A xs := by
  intro hn
  obtain ⟨b, off, rfl, h1, hlt, hc⟩ := h hn
  exact ⟨b, off, rfl, by omega, hlt, hc⟩

theorem Sy.below {w w' : World} {lo : Nat} {A : Option Addr} {xs : List Value} (h : Sy w lo A xs) (hb : Below w.heap.size w w') : Sy w' lo A xs := h.grown (row := none) (grown_below hb) (by simp)

theorem Sy.of_own {w : World} {base lo : Nat} {e : TypeId} {A : Option Addr} {n c : Nat} {xs : List Value} (h : w.ownsRow base e 1 (.slice A n c) n xs) (hl : lo ≤ base) : Sy w lo A xs := by
  intro hn
  obtain ⟨b, off, rfl, hb, hc⟩ := Sv.of_own h hn
  refine ⟨b, off, rfl, ?_, hb, hc⟩
  rcases h.2 with ⟨_, hz⟩ | ⟨k, cap, cur, hv, hbk, _⟩
  · subst hz
    have := h.1
    simp at this
    exact absurd this hn
  · simp only [Value.slice.injEq, Option.some.injEq, Addr.mk.injEq] at hv
    omega

/-- A store into a block that is new since then. -/
theorem grown_far {a b : World} {row : Option Nat} (h : a.grownBy b row) {g : Nat} (hg : a.heap.size ≤ g) (i : Nat) (v : Value) : a.grownBy (b.setCell ⟨g, i, none⟩ v) row :=
  ⟨h.os, h.tape, h.output, by simpa [World.setCell] using h.size, fun k hk hne => (Below.heap_setCell b ⟨g, i, none⟩ v k (by simp; omega)).trans (h.block k hk hne)⟩

theorem grown_alloc {a b : World} {row : Option Nat} (h : a.grownBy b row) (o : Obj) : a.grownBy (b.alloc o) row :=
  ⟨h.os, h.tape, h.output, by have := h.size; simp; omega, fun k hk hne => (Below.heap_alloc b o k (by have := h.size; omega)).trans (h.block k hk hne)⟩

theorem below_drewN {B : Nat} {a w : World} (h : Below B a w) (n : Nat) : Below B a (w.drewN n) := by
  induction n with
  | zero => exact h
  | succ n ih => exact ih.drew

theorem grown_drewN {a w : World} {row : Option Nat} (h : a.grownBy w row) (n : Nat) : a.grownBy (w.drewN n) row := grown_trans h (grown_below (below_drewN (Below.refl _ _) _))

theorem Wh.drewN {w : World} {g : Nat} {t : TypeId} {cs : Array Value} (h : Wh w g t cs) (n : Nat) : Wh (w.drewN n) g t cs := h.below (below_drewN (Below.refl _ _) _) h.lt

end Go.Proofs.Ytmidlgojknfooaa
