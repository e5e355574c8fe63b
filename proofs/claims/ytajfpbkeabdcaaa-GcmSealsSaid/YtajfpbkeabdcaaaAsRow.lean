/-
  Words for eleven blocks in a row of 176 bytes: in memory, by value.
-/
import Derived.Test.YtajfpbkeabdcaaaAsKey
namespace Go.Proofs.Ytajfpbkeabdcaaa
open Go.RowKit
set_option linter.unusedVariables false

/-- Bytes laid over a row that is known whole. -/
theorem Wh.puts {g : Nat} {t : TypeId} : ∀ (vs : List Value) (o : Nat) (cs : List Value) (w : World), Wh w g t cs.toArray → o + vs.length ≤ cs.length →
    Wh (w.setCells g o vs) g t (cs.take o ++ (vs ++ cs.drop (o + vs.length))).toArray ∧ w.grownBy (w.setCells g o vs) (some g)
  | [], o, cs, w, h, hl => by
    refine ⟨?_, World.grownBy.refl _ _⟩
    rw [World.setCells, List.length_nil, Nat.add_zero, List.nil_append, List.take_append_drop]
    exact h
  | v :: r, o, cs, w, h, hl => by
    rw [List.length_cons] at hl
    have h1 := h.put o v
    rw [List.setIfInBounds_toArray] at h1
    obtain ⟨h2, h3⟩ := Wh.puts r (o + 1) (cs.set o v) (w.setCell ⟨g, o, none⟩ v) h1 (by rw [List.length_set]; omega)
    rw [World.setCells]
    refine ⟨?_, grown_trans (grown_set w g o v) h3⟩
    have e1 : (cs.set o v).take (o + 1) = cs.take o ++ [v] := by
      rw [List.take_add_one, List.take_set_of_le (Nat.le_refl _), List.getElem?_set_self (by omega)]
      rfl
    have e2 : (cs.set o v).drop (o + 1 + r.length) = cs.drop (o + (v :: r).length) := by
      rw [List.drop_set_of_lt (by omega), List.length_cons]
      congr 1
      omega
    rw [e1, e2, List.append_assoc] at h2
    exact h2

/-- Eleven blocks. -/
def B11 (ks : List (List UInt8)) : Prop := ks.length = 11 ∧ ∀ k ∈ ks, k.length = 16
theorem flat16 (ks : List (List UInt8)) (h : ∀ k ∈ ks, k.length = 16) : ks.flatten.length = 16 * ks.length := by
  induction ks with
  | nil => rfl
  | cons k ks ih =>
    rw [List.flatten_cons, List.length_append, h k (by simp), ih (fun x hx => h x (by simp [hx])), List.length_cons]
    omega
theorem B11.flat {ks : List (List UInt8)} (h : B11 ks) : ks.flatten.length = 176 := by rw [flat16 ks h.2, h.1]
theorem flat_set (ks : List (List UInt8)) (i : Nat) (x : List UInt8) (h : ∀ k ∈ ks, k.length = 16) (hx : x.length = 16) (hi : i < ks.length) :
    ks.flatten.take (16 * i) ++ (x ++ ks.flatten.drop (16 * i + 16)) = (ks.set i x).flatten := by
  induction ks generalizing i with
  | nil => cases hi
  | cons k ks ih =>
    have hk := h k (by simp)
    cases i with
    | zero =>
      rw [List.set_cons_zero, List.flatten_cons, List.flatten_cons, Nat.mul_zero, List.take_zero, List.nil_append, Nat.zero_add, List.drop_append, List.drop_eq_nil_of_le (by omega), hk]
      rfl
    | succ i =>
      rw [List.set_cons_succ, List.flatten_cons, List.flatten_cons, ← ih i (fun y hy => h y (by simp [hy])) (by simpa using hi), List.take_append, List.take_of_length_le (by omega), List.drop_append, List.drop_eq_nil_of_le (by omega), hk]
      rw [show 16 * (i + 1) - 16 = 16 * i by omega, show 16 * (i + 1) + 16 - 16 = 16 * i + 16 by omega]
      simp
theorem flat_get (ks : List (List UInt8)) (i j : Nat) (h : ∀ k ∈ ks, k.length = 16) (hi : i < ks.length) (hj : j < 16) : ks.flatten[16 * i + j]? = (ks.getD i [])[j]? := by
  induction ks generalizing i with
  | nil => cases hi
  | cons k ks ih =>
    have hk := h k (by simp)
    rw [List.flatten_cons]
    cases i with
    | zero =>
      rw [Nat.mul_zero, Nat.zero_add, List.getElem?_append_left (by omega)]
      rfl
    | succ i =>
      rw [List.getElem?_append_right (by omega), hk, show 16 * (i + 1) + j - 16 = 16 * i + j by omega, ih i (fun y hy => h y (by simp [hy])) (by simpa using hi)]
      rfl
theorem B11.at_ {ks : List (List UInt8)} (h : B11 ks) {i : Nat} (hi : i < 11) : (ks.getD i []).length = 16 := by
  have h1 : i < ks.length := by rw [h.1]; exact hi
  have : ks.getD i [] = ks[i] := by simp [List.getD, h1]
  rw [this]
  exact h.2 _ (List.getElem_mem h1)
theorem B11.set {ks : List (List UInt8)} (h : B11 ks) {i : Nat} {x : List UInt8} (hx : x.length = 16) : B11 (ks.set i x) :=
  ⟨by rw [List.length_set]; exact h.1, fun k hk => by rcases List.mem_or_eq_of_mem_set hk with hm | rfl; exact h.2 k hm; exact hx⟩

/-- A block of eleven, in memory. -/
theorem B11.range {w : World} {g : Nat} {t : TypeId} {ks : List (List UInt8)} (h : B11 ks) (hw : Wh w g t (aRow ks.flatten)) {i : Nat} (hi : i < 11) : w.rangeAt g (16 * i) ((ks.getD i []).map cell8) := by
  intro j v hv
  have hj : j < 16 := by
    have := (List.getElem?_eq_some_iff.1 hv).1
    rw [List.length_map, h.at_ hi] at this
    exact this
  rw [hw.cell, aRow, List.getElem?_toArray, List.getElem?_map, flat_get ks i j h.2 (by rw [h.1]; exact hi) hj]
  rw [List.getElem?_map] at hv
  exact hv
/-- A block stored into eleven. -/
theorem B11.store {w : World} {g : Nat} {t : TypeId} {ks : List (List UInt8)} (h : B11 ks) (hw : Wh w g t (aRow ks.flatten)) {i : Nat} (hi : i < 11) {x : List UInt8} (hx : x.length = 16) :
    Wh (w.setCells g (16 * i) (x.map cell8)) g t (aRow (ks.set i x).flatten) ∧ w.grownBy (w.setCells g (16 * i) (x.map cell8)) (some g) := by
  obtain ⟨h1, h2⟩ := Wh.puts (x.map cell8) (16 * i) (ks.flatten.map cell8) w hw (by rw [List.length_map, List.length_map, h.flat, hx]; omega)
  refine ⟨?_, h2⟩
  rw [List.length_map, hx, ← List.map_take, ← List.map_drop, ← List.map_append, ← List.map_append, flat_set ks i x h.2 hx (by rw [h.1]; exact hi)] at h1
  exact h1
theorem B11.there {w : World} {g : Nat} {t : TypeId} {ks : List (List UInt8)} (h : B11 ks) (hw : Wh w g t (aRow ks.flatten)) {i : Nat} (hi : i < 11) : w.there g (16 * i) 16 := by
  intro j hj
  refine ⟨?_, hw.frozen _⟩
  rw [hw.cell, aRow_at (by rw [h.flat]; omega)]
  rfl

theorem info_a176 : (Try.prog.info? 54).map (·.size) = some 176 := by kernel_rfl
theorem info_aRow11 {ks : List (List UInt8)} (h : B11 ks) : (Try.prog.info? 54).map (·.size) = some (aRow ks.flatten).size := by rw [aRow_size, h.flat]; exact info_a176

/-- The zero eleven; the first of eleven given. -/
def z11 : List (List UInt8) := List.replicate 11 (List.replicate 16 0)
theorem z11_b : B11 z11 := ⟨rfl, fun k hk => by rw [List.eq_of_mem_replicate hk]; rfl⟩
theorem built11 (x0 x1 x2 x3 x4 x5 x6 x7 x8 x9 x10 x11 x12 x13 x14 x15 : UInt8) : Try.prog.built 54 [(0, .agg (aRow [x0, x1, x2, x3, x4, x5, x6, x7, x8, x9, x10, x11, x12, x13, x14, x15]))] = some (aRow (z11.set 0 [x0, x1, x2, x3, x4, x5, x6, x7, x8, x9, x10, x11, x12, x13, x14, x15]).flatten) := by kernel_rfl
theorem zeros176 : (Try.prog.info? 54).map (·.zero.map (·.cells)) = some (some (aRow z11.flatten)) := by kernel_rfl

theorem wpList_load_blk {ops : Array Oper} {rest : List Oper} {op : Oper} {a : Act} {w : World} {Q : Exit → Act → World → Prop} (hgd : op.guard = none) (x : Operand) (ho : op.op = .load 22 x)
    (b o : Nat) (hx : a.eval x = .pointer (some ⟨b, o, none⟩)) (l : List UInt8) (hl : l.length = 16) (hc : w.rangeAt b o (l.map cell8))
    (h : wpList Try.prog ops Q rest (a.put op.dst (.agg (aRow l))) w) : wpList Try.prog ops Q (op :: rest) a w :=
  wpList_load_mid hgd 22 x ho b o hx (l.map cell8) _ hc Try.underlying22 rfl (by rw [List.length_map, hl]; exact info_a16) h
theorem wpList_store_blk {ops : Array Oper} {rest : List Oper} {op : Oper} {a : Act} {w : World} {Q : Exit → Act → World → Prop} (hgd : op.guard = none) (x y : Operand) (ho : op.op = .store 22 x y)
    (b o : Nat) (l : List UInt8) (hx : a.eval x = .pointer (some ⟨b, o, none⟩)) (hy : a.eval y = .agg (aRow l)) (hl : l.length = 16) (ht : w.there b o 16)
    (h : wpList Try.prog ops Q rest (a.put op.dst undef) (w.setCells b o (l.map cell8))) : wpList Try.prog ops Q (op :: rest) a w :=
  wpList_store_mid hgd 22 x y ho b o (aRow l) hx hy (by rw [aRow_size, hl]; exact ht) (info_aRow hl) (aRow_one l) (by rw [aRow_list]; exact h)
theorem yields_blk {ops : Array Oper} {S : World → Prop} {op : Oper} {a : Act} (hw : Region.wanted op (yielded ops a.tmps) = true) (x : Operand) (ho : op.op = .load 22 x)
    (b o : Nat) (hx : a.eval x = .pointer (some ⟨b, o, none⟩)) (l : List UInt8) (hl : l.length = 16) (hS : ∀ w, S w → w.rangeAt b o (l.map cell8)) : YieldsIf Try.prog ops S op (.agg (aRow l)) a :=
  yieldsIf_load_mid hw 22 x ho b o hx (l.map cell8) _ hS Try.underlying22 rfl (by rw [List.length_map, hl]; exact info_a16)
theorem B11.range' {w : World} {g : Nat} {t : TypeId} {ks : List (List UInt8)} (h : B11 ks) (hw : Wh w g t (aRow ks.flatten)) {i : Nat} (hi : i < 11) : w.rangeAt g (i * 16) ((ks.getD i []).map cell8) := by
  rw [Nat.mul_comm]; exact h.range hw hi
theorem B11.there' {w : World} {g : Nat} {t : TypeId} {ks : List (List UInt8)} (h : B11 ks) (hw : Wh w g t (aRow ks.flatten)) {i : Nat} (hi : i < 11) : w.there g (i * 16) 16 := by
  rw [Nat.mul_comm]; exact h.there hw hi
theorem B11.store' {w : World} {g : Nat} {t : TypeId} {ks : List (List UInt8)} (h : B11 ks) (hw : Wh w g t (aRow ks.flatten)) {i : Nat} (hi : i < 11) {x : List UInt8} (hx : x.length = 16) :
    Wh (w.setCells g (i * 16) (x.map cell8)) g t (aRow (ks.set i x).flatten) ∧ w.grownBy (w.setCells g (i * 16) (x.map cell8)) (some g) := by
  rw [Nat.mul_comm]; exact h.store hw hi hx
/-- A block laid over another one. -/
theorem Wh.over {w : World} {g : Nat} {t : TypeId} {l m : List UInt8} (h : Wh w g t (aRow l)) (hl : l.length = 16) (hm : m.length = 16) : Wh (w.setCells g 0 (m.map cell8)) g t (aRow m) ∧ w.grownBy (w.setCells g 0 (m.map cell8)) (some g) := by
  obtain ⟨h1, h2⟩ := Wh.puts (m.map cell8) 0 (l.map cell8) w h (by rw [List.length_map, List.length_map, hl, hm]; exact Nat.le_refl _)
  refine ⟨?_, h2⟩
  rw [List.take_zero, List.nil_append, List.drop_eq_nil_of_le (by rw [List.length_map, List.length_map, hl, hm]; exact Nat.le_refl _), List.append_nil] at h1
  exact h1
theorem Wh.there {w : World} {g : Nat} {t : TypeId} {l : List UInt8} (h : Wh w g t (aRow l)) (hl : l.length = 16) : w.there g 0 16 := by
  intro j hj
  refine ⟨?_, h.frozen _⟩
  rw [h.cell, aRow_at (by rw [hl]; omega)]
  rfl
/-- A whole block, as a range. -/
theorem Wh.range {w : World} {g : Nat} {t : TypeId} {l : List UInt8} (h : Wh w g t (aRow l)) : w.rangeAt g 0 (l.map cell8) := fun j v hv => by
  rw [Nat.zero_add, h.cell, aRow, List.getElem?_toArray]
  exact hv

end Go.Proofs.Ytajfpbkeabdcaaa
