/-
  Words for a row of bytes of the call's own that is appended to, and for blocks that stand beside it. No program is named here.
-/
import Derived.Test.YtmidlgojknfooaaWh
import Derived.Test.YtmidlgojknfooaaLaws
import Derived.OwnWalk
import Derived.Deep.OwnRows
namespace Go.Proofs.Ytmidlgojknfooaa
open Go.RowKit

/-- Own bytes d at v, all below base as it was in w. -/
def OwB (base : Nat) (e : TypeId) (w wr : World) (v : Value) (d : List UInt8) : Prop := wr.ownsRow base e 1 v d.length (d.map cell8) ∧ Below base w wr ∧ base ≤ wr.heap.size
theorem OwB.below {base : Nat} {e : TypeId} {w wr w' : World} {v : Value} {d : List UInt8} (h : OwB base e w wr v d) (hb : Below wr.heap.size wr w') : OwB base e w w' v d :=
  ⟨own_below h.1 hb, h.2.1.trans (hb.mono h.2.2), Nat.le_trans h.2.2 hb.size⟩
theorem OwB.more {base : Nat} {e : TypeId} {w wr w2 : World} {v v2 : Value} {d : List UInt8} (h : OwB base e w wr v d) (x : UInt8) (o : Obj) (h1 : w2.ownsRow base e 1 v2 (d.length + 1) (d.map cell8 ++ [cell8 x])) (h2 : (wr.alloc o).grownBy w2 v.ownBlock) : OwB base e w w2 v2 (d ++ [x]) := by
  refine ⟨?_, ?_, ?_⟩
  · rw [List.length_append, List.map_append]
    exact h1
  · exact (h.2.1.alloc h.2.2 o).grown h2 (by have := h.2.2; simp; omega) (fun q hq => (h.1.lt q hq).1)
  · have k1 := h2.size
    have k2 := h.2.2
    have k3 : (wr.alloc o).heap.size = wr.heap.size + 1 := by simp
    omega
theorem OwB.more' {base : Nat} {e : TypeId} {w wr w2 : World} {v v2 : Value} {d : List UInt8} (h : OwB base e w wr v d) (x : List UInt8) (h1 : w2.ownsRow base e 1 v2 (d.length + x.length) (d.map cell8 ++ x.map cell8)) (h2 : wr.grownBy w2 v.ownBlock) : OwB base e w w2 v2 (d ++ x) :=
  ⟨by rw [List.length_append, List.map_append]; exact h1, h.2.1.grown h2 h.2.2 (fun q hq => (h.1.lt q hq).1), Nat.le_trans h.2.2 h2.size⟩
/-- A block that stands, and is not the own row's. -/
def Kp (wr : World) (v : Value) (b : Nat) (t : TypeId) (cs : Array Value) : Prop := Wh wr b t cs ∧ v.ownBlock ≠ some b
theorem Kp.below {wr w' : World} {v : Value} {b : Nat} {t : TypeId} {cs : Array Value} (h : Kp wr v b t cs) (hb : Below wr.heap.size wr w') : Kp w' v b t cs := ⟨h.1.below hb h.1.lt, h.2⟩
theorem Kp.more' {wr w2 : World} {v v2 : Value} {b : Nat} {t : TypeId} {cs : Array Value} (h : Kp wr v b t cs) (h2 : wr.grownBy w2 v.ownBlock) (h3 : v2.ownBlock = v.ownBlock ∨ v2.ownBlock = some wr.heap.size) : Kp w2 v2 b t cs :=
  ⟨h.1.grown h2 (fun e => h.2 e.symm), by
    rcases h3 with e | e
    · rw [e]; exact h.2
    · rw [e]
      intro e2
      have := Option.some.inj e2
      have := h.1.lt
      omega⟩
theorem Kp.more {wr w2 : World} {v v2 : Value} {b : Nat} {t : TypeId} {cs : Array Value} (h : Kp wr v b t cs) (o : Obj) (h2 : (wr.alloc o).grownBy w2 v.ownBlock) (h3 : v2.ownBlock = v.ownBlock ∨ v2.ownBlock = some (wr.alloc o).heap.size) : Kp w2 v2 b t cs :=
  Kp.more' (wr := wr.alloc o) ⟨h.1.alloc o, h.2⟩ h2 h3
theorem OwB.new {base : Nat} {e : TypeId} {w wr : World} {v : Value} {d : List UInt8} (h : OwB base e w wr v d) {b : Nat} (hb : wr.heap.size ≤ b) : v.ownBlock ≠ some b := fun e => by
  have := (h.1.lt b e).2
  omega

/-- A block whose first cells read as bytes. -/
def Pb (w : World) (g : Nat) (e : TypeId) (l : List UInt8) : Prop := ∃ cur : List Value, Wh w g e cur.toArray ∧ cur.take l.length = l.map cell8
theorem Pb.lt {w : World} {g : Nat} {e : TypeId} {l : List UInt8} (h : Pb w g e l) : g < w.heap.size := by obtain ⟨cur, h1, _⟩ := h; exact h1.lt
theorem Pb.cell {w : World} {g : Nat} {e : TypeId} {l : List UInt8} (h : Pb w g e l) {j : Nat} (hj : j < l.length) : w.cell? ⟨g, j, none⟩ = some (.int .u8 ((l.getD j 0).toNat : Int)) := by
  obtain ⟨cur, h1, h2⟩ := h
  rw [h1.cell, List.getElem?_toArray]
  have e : cur[j]? = (cur.take l.length)[j]? := by rw [List.getElem?_take_of_lt hj]
  rw [e, h2, List.getElem?_map]
  simp [List.getD, hj, cell8]
theorem Pb.frozen {w : World} {g : Nat} {e : TypeId} {l : List UInt8} (h : Pb w g e l) (j : Nat) : w.frozen? ⟨g, j, none⟩ = false := by obtain ⟨cur, h1, _⟩ := h; exact h1.frozen j
theorem Pb.put {w : World} {g : Nat} {e : TypeId} {l : List UInt8} (h : Pb w g e l) (j : Nat) (x : UInt8) : Pb (w.setCell ⟨g, j, none⟩ (.int .u8 (x.toNat : Int))) g e (l.set j x) := by
  obtain ⟨cur, h1, h2⟩ := h
  refine ⟨cur.set j (.int .u8 (x.toNat : Int)), ?_, ?_⟩
  · have := h1.put j (.int .u8 (x.toNat : Int))
    rwa [List.setIfInBounds_toArray] at this
  · rw [List.length_set, List.take_set, h2, List.map_set]
    rfl
theorem Pb.grown {w w' : World} {g : Nat} {e : TypeId} {row : Option Nat} {l : List UInt8} (h : Pb w g e l) (hb : w.grownBy w' row) (hg : some g ≠ row) : Pb w' g e l := by obtain ⟨cur, h1, h2⟩ := h; exact ⟨cur, h1.grown hb hg, h2⟩
theorem Pb.below {w w' : World} {g B : Nat} {e : TypeId} {l : List UInt8} (h : Pb w g e l) (hb : Below B w w') (hg : g < B) : Pb w' g e l := by obtain ⟨cur, h1, h2⟩ := h; exact ⟨cur, h1.below hb hg, h2⟩
theorem Pb.since {w w' : World} {g : Nat} {e : TypeId} {l : List UInt8} (h : Pb w g e l) (hb : Below w.heap.size w w') : Pb w' g e l := h.below hb h.lt
theorem Pb.of_own {w : World} {base n : Nat} {e : TypeId} {v : Value} {l : List UInt8} (h : w.ownsRow base e 1 v n (l.map cell8)) (hn : 0 < n) : ∃ g cap, v = .slice (some ⟨g, 0, none⟩) n cap ∧ Pb w g e l ∧ base ≤ g ∧ n ≤ cap ∧ cap ≤ maxLen := by
  have hl : l.length = n := by have := h.1; simpa using this
  rcases h.2 with ⟨hv, hz⟩ | ⟨g', cap', cur, hv, hb, hw, hc, hm, hs, ht⟩
  · omega
  · exact ⟨g', cap', hv, ⟨cur.toList, hw, by rw [hl]; simpa using ht⟩, hb, hc, hm⟩
theorem Pb.of_wh {w : World} {g : Nat} {e : TypeId} {l : List UInt8} (h : Wh w g e (l.map cell8).toArray) : Pb w g e l := ⟨l.map cell8, h, by rw [List.take_of_length_le (by simp)]⟩
theorem Pb.sl {w : World} {g : Nat} {e : TypeId} {l : List UInt8} (h : Pb w g e l) : Sl w w.heap.size (some ⟨g, 0, none⟩) l := by
  intro _
  refine ⟨g, 0, rfl, h.lt, fun i v hv => ?_⟩
  rw [Nat.zero_add]
  have hi : i < l.length := by have := (List.getElem?_eq_some_iff.1 hv).1; simpa using this
  rw [h.cell hi, ← hv]
  simp [List.getD, hi, cell8]
/-- 'append([]T{}, ..)' begins with a row of none. -/
theorem own_none (w : World) (e : TypeId) : (w.alloc (.cells #[] e)).ownsRow w.heap.size e 1 (.slice (some ⟨w.heap.size, 0, none⟩) 0 0) 0 [] := World.ownsRow_made w #[] 0 (Nat.le_refl _) (Nat.zero_le _) rfl
theorem sv_alloc {w : World} {B : Nat} {A : Option Addr} {xs : List Value} (h : Sv w B A xs) (hB : B ≤ w.heap.size) (o : Obj) : Sv (w.alloc o) B A xs := h.keep (Nat.le_refl _) fun _ hp => ((Below.refl w.heap.size w).alloc (Nat.le_refl _) o).cell (Nat.lt_of_lt_of_le hp hB)
theorem below_clone {w w' : World} {base : Nat} {e : TypeId} (hg : (w.alloc (.cells #[] e)).grownBy w' (some w.heap.size)) (hb : base ≤ w.heap.size) : Below base w w' :=
  ((Below.refl base w).alloc hb _).grown hg (by simp; omega) (fun q hq => by have := Option.some.inj hq; omega)
end Go.Proofs.Ytmidlgojknfooaa
