/-
  The walks through the reader's small methods (octet, number, numberIf, cut, zeros, rangeDown, length): what is left of the bytes lies behind a pointer.
-/
import Derived.Test.YtkkojhkglcigmaaDoorParts
import Derived.Test.YtkkojhkglcigmaaDoorTake
import Derived.Test.YtkkojhkglcigmaaDoorAppend
namespace Go.Proofs.YtkkojhkglcigmaaDoor
open Go.RowKit
set_option linter.unusedVariables false

/-- A store into a block turns no other one. -/
theorem grown_set (w : World) (g i : Nat) (u : Value) : w.grownBy (w.setCell ⟨g, i, none⟩ u) (some g) :=
  ⟨rfl, rfl, rfl, by simp [World.setCell], fun k hk hne => Below.heap_setCell w ⟨g, i, none⟩ u k (fun e => hne (by rw [e]))⟩

theorem grown_trans {a b c : World} {row : Option Nat} (h : a.grownBy b row) (k : b.grownBy c row) : a.grownBy c row :=
  ⟨k.os.trans h.os, k.tape.trans h.tape, k.output.trans h.output, Nat.le_trans h.size k.size, fun i hi hne => (k.block i (Nat.lt_of_lt_of_le hi h.size) hne).trans (h.block i hi hne)⟩

theorem grown_below {a b : World} {B : Nat} {row : Option Nat} (h : Below a.heap.size a b) : a.grownBy b row :=
  ⟨h.os, h.tape, h.output, h.size, fun k hk _ => h.block k hk⟩

/-- A block that is known whole. -/
def Wh (w : World) (g : Nat) (t : TypeId) (cs : Array Value) : Prop := w.heap[g]? = some (.cells cs t (0, 0))

theorem Wh.lt {w : World} {g : Nat} {t : TypeId} {cs : Array Value} (h : Wh w g t cs) : g < w.heap.size := by
  rcases Nat.lt_or_ge g w.heap.size with hlt | hge
  · exact hlt
  · unfold Wh at h; rw [Array.getElem?_eq_none hge] at h; cases h
theorem Wh.cell {w : World} {g : Nat} {t : TypeId} {cs : Array Value} (h : Wh w g t cs) (i : Nat) : w.cell? ⟨g, i, none⟩ = cs[i]? := cell_of_row w g i cs t (0, 0) h
theorem Wh.frozen {w : World} {g : Nat} {t : TypeId} {cs : Array Value} (h : Wh w g t cs) (i : Nat) : w.frozen? ⟨g, i, none⟩ = false := by
  unfold Wh at h
  simp [World.frozen?, h]
theorem Wh.new (w : World) (t : TypeId) (cs : Array Value) : Wh (w.alloc (.cells cs t)) w.heap.size t cs := heap_alloc_new w _
theorem Wh.alloc {w : World} {g : Nat} {t : TypeId} {cs : Array Value} (h : Wh w g t cs) (o : Obj) : Wh (w.alloc o) g t cs := (Below.heap_alloc w o g h.lt).trans h
theorem Wh.put {w : World} {g : Nat} {t : TypeId} {cs : Array Value} (h : Wh w g t cs) (i : Nat) (u : Value) : Wh (w.setCell ⟨g, i, none⟩ u) g t (cs.setIfInBounds i u) := by
  unfold Wh at h ⊢
  simp [World.setCell, Array.getElem?_modify, h]
theorem Wh.far {w : World} {g : Nat} {t : TypeId} {cs : Array Value} (h : Wh w g t cs) {p : Addr} (hp : g ≠ p.block) (u : Value) : Wh (w.setCell p u) g t cs := (Below.heap_setCell w p u g hp).trans h
theorem Wh.below {w w' : World} {g B : Nat} {t : TypeId} {cs : Array Value} (h : Wh w g t cs) (hb : Below B w w') (hg : g < B) : Wh w' g t cs := (hb.block g hg).trans h
theorem Wh.grown {w w' : World} {g : Nat} {row : Option Nat} {t : TypeId} {cs : Array Value} (h : Wh w g t cs) (hb : w.grownBy w' row) (hg : some g ≠ row) : Wh w' g t cs := (hb.block g h.lt hg).trans h

/-- The reader at block rb has the bytes l left; they lie below block B. -/
def Rd (w : World) (B rb : Nat) (l : List UInt8) : Prop :=
  ∃ (A : Option Addr) (len c : Nat), Wh w rb 69 #[.slice A len c] ∧ l.length = len ∧ len ≤ c ∧ c ≤ maxLen ∧ Sl w B A l ∧ B ≤ rb

theorem Rd.lt {w : World} {B rb : Nat} {l : List UInt8} (h : Rd w B rb l) : rb < w.heap.size := by
  obtain ⟨A, len, c, hw, _⟩ := h
  exact hw.lt

theorem Rd.grown {w w' : World} {B rb : Nat} {row : Option Nat} {l : List UInt8} (h : Rd w B rb l) (hb : w.grownBy w' row) (hr : some rb ≠ row) (hB : ∀ g, row = some g → B ≤ g) : Rd w' B rb l := by
  obtain ⟨A, len, c, hw, h1, h2, h3, h4, h5⟩ := h
  have hlt := hw.lt
  exact ⟨A, len, c, hw.grown hb hr, h1, h2, h3, h4.keep (Nat.le_refl _) fun p hp => World.cell?_of_block (hb.block p.block (by omega) (fun e => by have := hB _ e.symm; omega)), h5⟩

/-- What is left behind so many bytes, stored back. -/
theorem Rd.step {w : World} {B rb : Nat} {l : List UInt8} {A : Option Addr} {len c : Nat} (hw : Wh w rb 69 #[.slice A len c]) (hl : l.length = len) (hc : len ≤ c) (hm : c ≤ maxLen) (hs : Sl w B A l) (hB : B ≤ rb) (k : Nat) (hk : k ≤ len) (v : Value)
    (hv : v = .slice (if c = k then A else A.map fun x => x.add k) (len - k) (c - k)) : Rd (w.setCell ⟨rb, 0, none⟩ v) B rb (l.drop k) := by
  subst hv
  refine ⟨_, _, _, hw.put 0 _, by rw [List.length_drop, hl], by omega, by omega, ?_, hB⟩
  have h1 := hs.cut k (l.drop k).length c (by rw [List.length_map, hl]; exact hc)
  rw [List.take_of_length_le (by simp), ← List.map_drop] at h1
  exact h1.keep (Nat.le_refl _) fun p hp => World.cell?_setCell_other w ⟨rb, 0, none⟩ p _ (fun e => by subst e; simp at hp; omega)

set_option maxRecDepth 10000 in
set_option maxHeartbeats 400000 in
theorem number_some {l : List UInt8} {n k : Nat} (h : tk l = some (n, k)) (hkl : k ≤ l.length) (w : World) (B rb : Nat) (hr : Rd w B rb l) :
    Calls Tryd.prog 55 #[.pointer (some ⟨rb, 0, none⟩)] w fun e w' => e = .returned (.int .u64 (n : Int)) ∧ Rd w' B rb (l.drop k) ∧ w.grownBy w' (some rb) := by
  obtain ⟨A, len, c, hw, hl, hc, hm, hs, hB⟩ := hr
  have hcell := hw.cell 0
  have hfz := hw.frozen 0
  simp only [List.getElem?_toArray, List.getElem?_cons_zero] at hcell
  have HM : Hid (c ≤ maxLen) := hm
  have hkc : k ≤ len := by omega
  have HL := Lib.hid hl
  have HT := Lib.hid h
  unfold maxLen at hm
  clear hl h
  go_enter Tryd.func55, Tryd.ntmps55
  go_wp2_with fail
  refine (take_some HT.out A len c w B HL.out hs hc HM.out).mono ?_
  rintro e w' ⟨rfl, rfl⟩
  go_wp2_with fail
  refine (need_yes _).mono ?_
  rintro e w' ⟨rfl, rfl⟩
  go_wp2_with fail
  all_goals
    go_ret
    exact ⟨rfl, Rd.step hw HL.out hc HM.out hs hB k hkc _ (by first | rw [if_neg ‹_›] | simp [‹c = k›]), grown_set _ _ _ _⟩

/-- What the reader answers: a value, and what is left. -/
def RdGave (w : World) (B rb : Nat) (v : Value) (l : List UInt8) (e : Ending) (w' : World) : Prop := e = .returned v ∧ Rd w' B rb l ∧ w.grownBy w' (some rb)

/-- The reader panics. -/
def RdWrong (w : World) (rb : Nat) (e : Ending) (w' : World) : Prop := e = .panicked [{ v := .iface 89 (.agg #[]), recovered := false }] ∧ w.grownBy w' (some rb)

/-- What it answers, or that it panics. -/
def RdTold (w : World) (B rb : Nat) (r : Option (Value × List UInt8)) (e : Ending) (w' : World) : Prop :=
  match r with
  | some (v, l) => RdGave w B rb v l e w'
  | none => RdWrong w rb e w'

set_option maxRecDepth 10000 in
set_option maxHeartbeats 400000 in
theorem number_none {l : List UInt8} (h : tk l = none) (w : World) (B rb : Nat) (hr : Rd w B rb l) :
    Calls Tryd.prog 55 #[.pointer (some ⟨rb, 0, none⟩)] w (RdWrong w rb) := by
  obtain ⟨A, len, c, hw, hl, hc, hm, hs, hB⟩ := hr
  have hcell := hw.cell 0
  simp only [List.getElem?_toArray, List.getElem?_cons_zero] at hcell
  have HL := Lib.hid hl
  have HT := Lib.hid h
  clear hl h
  go_enter Tryd.func55, Tryd.ntmps55
  go_wp2_with fail
  refine (take_none HT.out A len c w B HL.out hs).mono ?_
  rintro e w' ⟨rfl, rfl⟩
  go_wp2_with fail
  refine (need_no _).mono ?_
  rintro e w' ⟨rfl, rfl⟩
  go_wp2
  exact ⟨rfl, rfl, World.grownBy.refl _ _⟩

/-- A number, and what is left behind it. -/
def num_ (l : List UInt8) : Option (Nat × List UInt8) :=
  match tk l with
  | some (n, k) => some (n, l.drop k)
  | none => none

theorem tk_room {l : List UInt8} {n k : Nat} (h : tk l = some (n, k)) : 1 ≤ k ∧ k ≤ 8 ∧ k ≤ l.length ∧ n ≤ 4611686018427387903 := by
  obtain ⟨x, t, rfl, rfl, hs, rfl⟩ := tk_some h
  have h1 := cls_pos x
  have h8 := cls_le x
  have := val_step_lt x (t.take (cls x - 1)) (by rw [List.length_take]; omega)
  exact ⟨h1, h8, by simpa using hs, by omega⟩

theorem number_any (l : List UInt8) (w : World) (B rb : Nat) (hr : Rd w B rb l) :
    Calls Tryd.prog 55 #[.pointer (some ⟨rb, 0, none⟩)] w (RdTold w B rb ((num_ l).map fun x => (.int .u64 (x.1 : Int), x.2))) := by
  unfold num_
  rcases h : tk l with _ | ⟨n, k⟩
  · exact number_none h w B rb hr
  · exact number_some h (tk_room h).2.2.1 w B rb hr

def numIf_ (b : Bool) (l : List UInt8) : Option (Nat × List UInt8) := if b then num_ l else some (0, l)

set_option maxRecDepth 10000 in
set_option maxHeartbeats 400000 in
theorem numberIf_any (b : Bool) (l : List UInt8) (w : World) (B rb : Nat) (hr : Rd w B rb l) :
    Calls Tryd.prog 47 #[.pointer (some ⟨rb, 0, none⟩), .bool b] w (RdTold w B rb ((numIf_ b l).map fun x => (.int .u64 (x.1 : Int), x.2))) := by
  have HR := Lib.hid hr
  clear hr
  cases b
  · go_enter Tryd.func47, Tryd.ntmps47
    go_wp2
    go_ret
    exact ⟨rfl, HR.out, World.grownBy.refl _ _⟩
  · rcases h : num_ l with _ | ⟨n, t⟩
    · have HN := Lib.hid (number_any l w B rb HR.out)
      rw [h] at HN
      have HQ : Hid (numIf_ true l = none) := by show numIf_ true l = none; unfold numIf_; simp [h]
      clear h
      go_enter Tryd.func47, Tryd.ntmps47
      go_wp2_with fail
      refine HN.out.mono ?_
      rintro e w' ⟨rfl, hg⟩
      go_wp2
      refine ⟨rfl, ?_⟩
      rw [HQ.out]
      exact ⟨rfl, hg⟩
    · have HN := Lib.hid (number_any l w B rb HR.out)
      rw [h] at HN
      have HQ : Hid (numIf_ true l = some (n, t)) := by show numIf_ true l = _; unfold numIf_; simp [h]
      clear h
      go_enter Tryd.func47, Tryd.ntmps47
      go_wp2_with fail
      refine HN.out.mono ?_
      rintro e w' ⟨rfl, hrd, hg⟩
      go_wp2
      go_ret
      rw [HQ.out]
      exact ⟨rfl, hrd, hg⟩

set_option maxRecDepth 10000 in
set_option maxHeartbeats 400000 in
theorem octet_nil (w : World) (B rb : Nat) (hr : Rd w B rb []) :
    Calls Tryd.prog 42 #[.pointer (some ⟨rb, 0, none⟩)] w (RdWrong w rb) := by
  obtain ⟨A, len, c, hw, hl, hc, hm, hs, hB⟩ := hr
  have hcell := hw.cell 0
  simp only [List.getElem?_toArray, List.getElem?_cons_zero] at hcell
  simp only [List.length_nil] at hl
  subst hl
  go_enter Tryd.func42, Tryd.ntmps42
  go_wp2_with fail
  refine (need_no _).mono ?_
  rintro e w' ⟨rfl, rfl⟩
  go_wp2
  exact ⟨rfl, rfl, World.grownBy.refl _ _⟩

set_option maxRecDepth 10000 in
set_option maxHeartbeats 400000 in
theorem octet_cons (x : UInt8) (t : List UInt8) (w : World) (B rb : Nat) (hr : Rd w B rb (x :: t)) :
    Calls Tryd.prog 42 #[.pointer (some ⟨rb, 0, none⟩)] w (RdGave w B rb (.int .u8 (x.toNat : Int)) t) := by
  obtain ⟨A, len, c, hw, hl, hc, hm, hs, hB⟩ := hr
  have hcell := hw.cell 0
  have hfz := hw.frozen 0
  simp only [List.getElem?_toArray, List.getElem?_cons_zero] at hcell
  have HM : Hid (c ≤ maxLen) := hm
  have hlen : 0 < len := by simp only [List.length_cons] at hl; omega
  obtain ⟨b, off, rfl, hb, hcc⟩ := Sl.at_ hs (by simp)
  have hx := hcc 0 x rfl
  simp only [Nat.add_zero] at hx
  have HL := Lib.hid hl
  unfold maxLen at hm
  have t1 : (0 : Int) < (len : Int) := by omega
  clear hl hcc
  go_enter Tryd.func42, Tryd.ntmps42
  go_wp2_with fail
  refine (need_yes _).mono ?_
  rintro e w' ⟨rfl, rfl⟩
  go_wp2_with fail
  all_goals
    go_ret
    exact ⟨rfl, Rd.step hw HL.out hc HM.out hs hB 1 hlen _ (by first | rw [if_neg ‹_›]; rfl | simp [‹c = 1›]), grown_set _ _ _ _⟩

end Go.Proofs.YtkkojhkglcigmaaDoor
