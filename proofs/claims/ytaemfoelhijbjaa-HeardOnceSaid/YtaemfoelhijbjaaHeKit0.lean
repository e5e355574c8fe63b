/-
  What was heard, in memory.
-/
import Derived.Test.YtaemfoelhijbjaaSpRow
import Derived.Test.YtaemfoelhijbjaaHeMath
namespace Go.Proofs.Ytaemfoelhijbjaa
open Go.RowKit
set_option linter.unusedVariables false

theorem below_grownH {B g : Nat} {a b c : World} (h : Below B a b) (k : b.grownBy c (some g)) (hg : B ≤ g) (hB : B ≤ b.heap.size) : Below B a c :=
  h.grown k hB fun q e => by have := Option.some.inj e; omega

/-- Its cells. -/
def hRowH (A : Option Addr) (n c : Nat) (s : HS) : Array Value := #[.slice A n c, .int .u64 (s.fl : Int), .int .u64 (s.la : Int), .int .u64 (s.tm : Int), .int .u64 (s.du : Int), .int .u64 (s.co : Int)]

/-- What was heard lies in block g, its list elsewhere. -/
structure HAt (w : World) (g : Nat) (A : Option Addr) (n c : Nat) (s : HS) : Prop where
  row : Wh w g 28 (hRowH A n c s)
  reads : RsIn w (· ≠ g) A s.l
  len : s.l.length = n
  cap : n ≤ c
  top : c ≤ maxLen

theorem HAt.lt {w : World} {g n c : Nat} {A : Option Addr} {s : HS} (h : HAt w g A n c s) : g < w.heap.size := h.row.lt
theorem HAt.below {w w' : World} {g n c : Nat} {A : Option Addr} {s : HS} (h : HAt w g A n c s) (hb : Below w.heap.size w w') : HAt w' g A n c s := ⟨h.row.below hb h.row.lt, h.reads.below hb, h.len, h.cap, h.top⟩
theorem HAt.alloc {w : World} {g n c : Nat} {A : Option Addr} {s : HS} (h : HAt w g A n c s) (o : Obj) : HAt (w.alloc o) g A n c s := h.below ((Below.refl _ _).alloc (Nat.le_refl _) o)
theorem HAt.c0 {w : World} {g n c : Nat} {A : Option Addr} {s : HS} (h : HAt w g A n c s) : w.cell? ⟨g, 0, none⟩ = some (.slice A n c) := (h.row.cell 0).trans rfl
theorem HAt.c1 {w : World} {g n c : Nat} {A : Option Addr} {s : HS} (h : HAt w g A n c s) : w.cell? ⟨g, 1, none⟩ = some (.int .u64 (s.fl : Int)) := (h.row.cell 1).trans rfl
theorem HAt.c2 {w : World} {g n c : Nat} {A : Option Addr} {s : HS} (h : HAt w g A n c s) : w.cell? ⟨g, 2, none⟩ = some (.int .u64 (s.la : Int)) := (h.row.cell 2).trans rfl
theorem HAt.c3 {w : World} {g n c : Nat} {A : Option Addr} {s : HS} (h : HAt w g A n c s) : w.cell? ⟨g, 3, none⟩ = some (.int .u64 (s.tm : Int)) := (h.row.cell 3).trans rfl
theorem HAt.c4 {w : World} {g n c : Nat} {A : Option Addr} {s : HS} (h : HAt w g A n c s) : w.cell? ⟨g, 4, none⟩ = some (.int .u64 (s.du : Int)) := (h.row.cell 4).trans rfl
theorem HAt.c5 {w : World} {g n c : Nat} {A : Option Addr} {s : HS} (h : HAt w g A n c s) : w.cell? ⟨g, 5, none⟩ = some (.int .u64 (s.co : Int)) := (h.row.cell 5).trans rfl
theorem HAt.fz {w : World} {g n c : Nat} {A : Option Addr} {s : HS} (h : HAt w g A n c s) (i : Nat) : w.frozen? ⟨g, i, none⟩ = false := h.row.frozen i

/-- A field written. -/
theorem HAt.set {w : World} {g n c : Nat} {A : Option Addr} {s s' : HS} (h : HAt w g A n c s) (i : Nat) (v : Value) (hl : s'.l = s.l) (hr : (hRowH A n c s).setIfInBounds i v = hRowH A n c s') : HAt (w.setCell ⟨g, i, none⟩ v) g A n c s' :=
  ⟨by have := h.row.put i v; rwa [hr] at this, by rw [hl]; exact h.reads.grown (grown_set w g i v) (fun k hk => by have := Option.some.inj hk; omega), by rw [hl]; exact h.len, h.cap, h.top⟩
/-- Its list written. -/
theorem HAt.setL {w : World} {g n c n' c' : Nat} {A A' : Option Addr} {s s' : HS} (h : HAt w g A n c s) (hr : RsIn w (· ≠ g) A' s'.l) (hl : s'.l.length = n') (hc : n' ≤ c') (ht : c' ≤ maxLen) (h1 : s'.fl = s.fl) (h2 : s'.la = s.la) (h3 : s'.tm = s.tm) (h4 : s'.du = s.du) (h5 : s'.co = s.co) :
    HAt (w.setCell ⟨g, 0, none⟩ (.slice A' n' c')) g A' n' c' s' :=
  ⟨by have := h.row.put 0 (.slice A' n' c'); rwa [show (hRowH A n c s).setIfInBounds 0 (.slice A' n' c') = hRowH A' n' c' s' by simp [hRowH, h1, h2, h3, h4, h5]] at this,
    hr.grown (grown_set w g 0 _) (fun k hk => by have := Option.some.inj hk; omega), hl, hc, ht⟩

/-- What a call on it that answers nothing leaves. -/
def HGave (g : Nat) (s' : HS) (w : World) (e : Ending) (w' : World) : Prop := e = .returned (.tuple #[]) ∧ w.grownBy w' (some g) ∧ ∃ A n c, HAt w' g A n c s'

end Go.Proofs.Ytaemfoelhijbjaa
