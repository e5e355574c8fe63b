/-
  Words for eleven blocks in a row of 176 bytes: in memory, by value.
  aes.Keys, aes.New: a key's round keys; its cipher.
-/
import Derived.Test.YtbnnjkjmadnjkaaDoorSk5
import Derived.Test.YtbnnjkjmadnjkaaDoorSk3
namespace Go.Proofs.YtbnnjkjmadnjkaaDoor
section
open Go.RowKit
set_option linter.unusedVariables false

/-- Bytes laid over a row that is known whole. -/
theorem Wh.puts {g : Nat} {t : TypeId} : ∀ (vs : List Value) (o : Nat) (cs : List Value) (w : World), Wh w g t cs.toArray → o + vs.length ≤ cs.length →
    Wh (w.setCells g o vs) g t (cs.take o ++ (vs ++ cs.drop (o + vs.length))).toArray ∧ w.grownBy (w.setCells g o vs) (some g)
  | [], o, cs, w, h, hl => by
    refine ⟨?_, World.grownBy.refl _ _⟩
    rw [World.setCells, List.length_nil, Nat.add_zero, List.nil_append, List.take_append_drop]
    exact h
  | v :: r, o, cs, w, h, hl => by
    rw [List.length_cons] at hl
    have h1 := h.put o v
    rw [List.setIfInBounds_toArray] at h1
    obtain ⟨h2, h3⟩ := Wh.puts r (o + 1) (cs.set o v) (w.setCell ⟨g, o, none⟩ v) h1 (by rw [List.length_set]; omega)
    rw [World.setCells]
    refine ⟨?_, grown_trans (grown_set w g o v) h3⟩
    have e1 : (cs.set o v).take (o + 1) = cs.take o ++ [v] := by
      rw [List.take_add_one, List.take_set_of_le (Nat.le_refl _), List.getElem?_set_self (by omega)]
      rfl
    have e2 : (cs.set o v).drop (o + 1 + r.length) = cs.drop (o + (v :: r).length) := by
      rw [List.drop_set_of_lt (by omega), List.length_cons]
      congr 1
      omega
    rw [e1, e2, List.append_assoc] at h2
    exact h2

/-- Eleven blocks. -/
def B11 (ks : List (List UInt8)) : Prop := ks.length = 11 ∧ ∀ k ∈ ks, k.length = 16
theorem flat16 (ks : List (List UInt8)) (h : ∀ k ∈ ks, k.length = 16) : ks.flatten.length = 16 * ks.length := by
  induction ks with
  | nil => rfl
  | cons k ks ih =>
    rw [List.flatten_cons, List.length_append, h k (by simp), ih (fun x hx => h x (by simp [hx])), List.length_cons]
    omega
theorem B11.flat {ks : List (List UInt8)} (h : B11 ks) : ks.flatten.length = 176 := by rw [flat16 ks h.2, h.1]
theorem flat_set (ks : List (List UInt8)) (i : Nat) (x : List UInt8) (h : ∀ k ∈ ks, k.length = 16) (hx : x.length = 16) (hi : i < ks.length) :
    ks.flatten.take (16 * i) ++ (x ++ ks.flatten.drop (16 * i + 16)) = (ks.set i x).flatten := by
  induction ks generalizing i with
  | nil => cases hi
  | cons k ks ih =>
    have hk := h k (by simp)
    cases i with
    | zero =>
      rw [List.set_cons_zero, List.flatten_cons, List.flatten_cons, Nat.mul_zero, List.take_zero, List.nil_append, Nat.zero_add, List.drop_append, List.drop_eq_nil_of_le (by omega), hk]
      rfl
    | succ i =>
      rw [List.set_cons_succ, List.flatten_cons, List.flatten_cons, ← ih i (fun y hy => h y (by simp [hy])) (by simpa using hi), List.take_append, List.take_of_length_le (by omega), List.drop_append, List.drop_eq_nil_of_le (by omega), hk]
      rw [show 16 * (i + 1) - 16 = 16 * i by omega, show 16 * (i + 1) + 16 - 16 = 16 * i + 16 by omega]
      simp
theorem flat_get (ks : List (List UInt8)) (i j : Nat) (h : ∀ k ∈ ks, k.length = 16) (hi : i < ks.length) (hj : j < 16) : ks.flatten[16 * i + j]? = (ks.getD i [])[j]? := by
  induction ks generalizing i with
  | nil => cases hi
  | cons k ks ih =>
    have hk := h k (by simp)
    rw [List.flatten_cons]
    cases i with
    | zero =>
      rw [Nat.mul_zero, Nat.zero_add, List.getElem?_append_left (by omega)]
      rfl
    | succ i =>
      rw [List.getElem?_append_right (by omega), hk, show 16 * (i + 1) + j - 16 = 16 * i + j by omega, ih i (fun y hy => h y (by simp [hy])) (by simpa using hi)]
      rfl
theorem B11.at_ {ks : List (List UInt8)} (h : B11 ks) {i : Nat} (hi : i < 11) : (ks.getD i []).length = 16 := by
  have h1 : i < ks.length := by rw [h.1]; exact hi
  have : ks.getD i [] = ks[i] := by simp [List.getD, h1]
  rw [this]
  exact h.2 _ (List.getElem_mem h1)
theorem B11.set {ks : List (List UInt8)} (h : B11 ks) {i : Nat} {x : List UInt8} (hx : x.length = 16) : B11 (ks.set i x) :=
  ⟨by rw [List.length_set]; exact h.1, fun k hk => by rcases List.mem_or_eq_of_mem_set hk with hm | rfl; exact h.2 k hm; exact hx⟩

/-- A block of eleven, in memory. -/
theorem B11.range {w : World} {g : Nat} {t : TypeId} {ks : List (List UInt8)} (h : B11 ks) (hw : Wh w g t (aRow ks.flatten)) {i : Nat} (hi : i < 11) : w.rangeAt g (16 * i) ((ks.getD i []).map cell8) := by
  intro j v hv
  have hj : j < 16 := by
    have := (List.getElem?_eq_some_iff.1 hv).1
    rw [List.length_map, h.at_ hi] at this
    exact this
  rw [hw.cell, aRow, List.getElem?_toArray, List.getElem?_map, flat_get ks i j h.2 (by rw [h.1]; exact hi) hj]
  rw [List.getElem?_map] at hv
  exact hv
/-- A block stored into eleven. -/
theorem B11.store {w : World} {g : Nat} {t : TypeId} {ks : List (List UInt8)} (h : B11 ks) (hw : Wh w g t (aRow ks.flatten)) {i : Nat} (hi : i < 11) {x : List UInt8} (hx : x.length = 16) :
    Wh (w.setCells g (16 * i) (x.map cell8)) g t (aRow (ks.set i x).flatten) ∧ w.grownBy (w.setCells g (16 * i) (x.map cell8)) (some g) := by
  obtain ⟨h1, h2⟩ := Wh.puts (x.map cell8) (16 * i) (ks.flatten.map cell8) w hw (by rw [List.length_map, List.length_map, h.flat, hx]; omega)
  refine ⟨?_, h2⟩
  rw [List.length_map, hx, ← List.map_take, ← List.map_drop, ← List.map_append, ← List.map_append, flat_set ks i x h.2 hx (by rw [h.1]; exact hi)] at h1
  exact h1
theorem B11.there {w : World} {g : Nat} {t : TypeId} {ks : List (List UInt8)} (h : B11 ks) (hw : Wh w g t (aRow ks.flatten)) {i : Nat} (hi : i < 11) : w.there g (16 * i) 16 := by
  intro j hj
  refine ⟨?_, hw.frozen _⟩
  rw [hw.cell, aRow_at (by rw [h.flat]; omega)]
  rfl

theorem info_a176 : (Tryd.prog.info? 104).map (·.size) = some 176 := by kernel_rfl
theorem info_aRow11 {ks : List (List UInt8)} (h : B11 ks) : (Tryd.prog.info? 104).map (·.size) = some (aRow ks.flatten).size := by rw [aRow_size, h.flat]; exact info_a176

/-- The zero eleven; the first of eleven given. -/
def z11 : List (List UInt8) := List.replicate 11 (List.replicate 16 0)
theorem z11_b : B11 z11 := ⟨rfl, fun k hk => by rw [List.eq_of_mem_replicate hk]; rfl⟩
theorem built11 (x0 x1 x2 x3 x4 x5 x6 x7 x8 x9 x10 x11 x12 x13 x14 x15 : UInt8) : Tryd.prog.built 104 [(0, .agg (aRow [x0, x1, x2, x3, x4, x5, x6, x7, x8, x9, x10, x11, x12, x13, x14, x15]))] = some (aRow (z11.set 0 [x0, x1, x2, x3, x4, x5, x6, x7, x8, x9, x10, x11, x12, x13, x14, x15]).flatten) := by kernel_rfl
theorem zeros176 : (Tryd.prog.info? 104).map (·.zero.map (·.cells)) = some (some (aRow z11.flatten)) := by kernel_rfl

theorem wpList_load_blk {ops : Array Oper} {rest : List Oper} {op : Oper} {a : Act} {w : World} {Q : Exit → Act → World → Prop} (hgd : op.guard = none) (x : Operand) (ho : op.op = .load 23 x)
    (b o : Nat) (hx : a.eval x = .pointer (some ⟨b, o, none⟩)) (l : List UInt8) (hl : l.length = 16) (hc : w.rangeAt b o (l.map cell8))
    (h : wpList Tryd.prog ops Q rest (a.put op.dst (.agg (aRow l))) w) : wpList Tryd.prog ops Q (op :: rest) a w :=
  wpList_load_mid hgd 23 x ho b o hx (l.map cell8) _ hc Tryd.underlying23 rfl (by rw [List.length_map, hl]; exact info_a16) h
theorem wpList_store_blk {ops : Array Oper} {rest : List Oper} {op : Oper} {a : Act} {w : World} {Q : Exit → Act → World → Prop} (hgd : op.guard = none) (x y : Operand) (ho : op.op = .store 23 x y)
    (b o : Nat) (l : List UInt8) (hx : a.eval x = .pointer (some ⟨b, o, none⟩)) (hy : a.eval y = .agg (aRow l)) (hl : l.length = 16) (ht : w.there b o 16)
    (h : wpList Tryd.prog ops Q rest (a.put op.dst undef) (w.setCells b o (l.map cell8))) : wpList Tryd.prog ops Q (op :: rest) a w :=
  wpList_store_mid hgd 23 x y ho b o (aRow l) hx hy (by rw [aRow_size, hl]; exact ht) (info_aRow hl) (aRow_one l) (by rw [aRow_list]; exact h)
theorem yields_blk {ops : Array Oper} {S : World → Prop} {op : Oper} {a : Act} (hw : Region.wanted op (yielded ops a.tmps) = true) (x : Operand) (ho : op.op = .load 23 x)
    (b o : Nat) (hx : a.eval x = .pointer (some ⟨b, o, none⟩)) (l : List UInt8) (hl : l.length = 16) (hS : ∀ w, S w → w.rangeAt b o (l.map cell8)) : YieldsIf Tryd.prog ops S op (.agg (aRow l)) a :=
  yieldsIf_load_mid hw 23 x ho b o hx (l.map cell8) _ hS Tryd.underlying23 rfl (by rw [List.length_map, hl]; exact info_a16)
theorem B11.range' {w : World} {g : Nat} {t : TypeId} {ks : List (List UInt8)} (h : B11 ks) (hw : Wh w g t (aRow ks.flatten)) {i : Nat} (hi : i < 11) : w.rangeAt g (i * 16) ((ks.getD i []).map cell8) := by
  rw [Nat.mul_comm]; exact h.range hw hi
theorem B11.there' {w : World} {g : Nat} {t : TypeId} {ks : List (List UInt8)} (h : B11 ks) (hw : Wh w g t (aRow ks.flatten)) {i : Nat} (hi : i < 11) : w.there g (i * 16) 16 := by
  rw [Nat.mul_comm]; exact h.there hw hi
theorem B11.store' {w : World} {g : Nat} {t : TypeId} {ks : List (List UInt8)} (h : B11 ks) (hw : Wh w g t (aRow ks.flatten)) {i : Nat} (hi : i < 11) {x : List UInt8} (hx : x.length = 16) :
    Wh (w.setCells g (i * 16) (x.map cell8)) g t (aRow (ks.set i x).flatten) ∧ w.grownBy (w.setCells g (i * 16) (x.map cell8)) (some g) := by
  rw [Nat.mul_comm]; exact h.store hw hi hx
/-- A block laid over another one. -/
theorem Wh.over {w : World} {g : Nat} {t : TypeId} {l m : List UInt8} (h : Wh w g t (aRow l)) (hl : l.length = 16) (hm : m.length = 16) : Wh (w.setCells g 0 (m.map cell8)) g t (aRow m) ∧ w.grownBy (w.setCells g 0 (m.map cell8)) (some g) := by
  obtain ⟨h1, h2⟩ := Wh.puts (m.map cell8) 0 (l.map cell8) w h (by rw [List.length_map, List.length_map, hl, hm]; exact Nat.le_refl _)
  refine ⟨?_, h2⟩
  rw [List.take_zero, List.nil_append, List.drop_eq_nil_of_le (by rw [List.length_map, List.length_map, hl, hm]; exact Nat.le_refl _), List.append_nil] at h1
  exact h1
theorem Wh.there {w : World} {g : Nat} {t : TypeId} {l : List UInt8} (h : Wh w g t (aRow l)) (hl : l.length = 16) : w.there g 0 16 := by
  intro j hj
  refine ⟨?_, h.frozen _⟩
  rw [h.cell, aRow_at (by rw [hl]; omega)]
  rfl
/-- A whole block, as a range. -/
theorem Wh.range {w : World} {g : Nat} {t : TypeId} {l : List UInt8} (h : Wh w g t (aRow l)) : w.rangeAt g 0 (l.map cell8) := fun j v hv => by
  rw [Nat.zero_add, h.cell, aRow, List.getElem?_toArray]
  exact hv
end

section
open Go.RowKit
set_option linter.unusedVariables false

/-- The rounds' constants; the round keys, behind k rounds. -/
def cN : Nat → UInt8
  | 0 => 1
  | k + 1 => tw (cN k)
def ksS (key : List UInt8) : Nat → List (List UInt8)
  | 0 => z11.set 0 key
  | k + 1 => (ksS key k).set (k + 1) (nkL ((ksS key k).getD k []) (cN k))
def ksL (key : List UInt8) : List (List UInt8) := ksS key 10
theorem ksS_b {key : List UInt8} (h : key.length = 16) (k : Nat) (hk : k ≤ 10) : B11 (ksS key k) := by
  induction k with
  | zero => exact z11_b.set h
  | succ k ih => exact (ih (by omega)).set (nkL_len ((ih (by omega)).at_ (by omega)) _)

theorem wpList_built1 {P : Program} {ops : Array Oper} {rest : List Oper} {o : Oper} {a : Act} {w : World} {Q : Exit → Act → World → Prop} (hg : o.guard = none) (t : TypeId) (x : Operand) (ho : o.op = .build t #[(0, x)])
    (v : Value) (hx : a.eval x = v) (cells : Array Value) (hb : P.built t [(0, v)] = some cells)
    (h : wpList P ops Q rest (a.put o.dst (.agg cells)) w) : wpList P ops Q (o :: rest) a w := by
  have e : ((#[(0, x)] : Array (Nat × Operand)).map fun (i, x) => (i, a.eval x)).toList = [(0, v)] := by simp [hx]
  exact wpList_plain hg fun _ hK => wp_build t #[(0, x)] ho (by rw [e, hb]; rfl) (by rw [e, hb]; exact hK _ _ h)

theorem wpList_built0 {P : Program} {ops : Array Oper} {rest : List Oper} {o : Oper} {a : Act} {w : World} {Q : Exit → Act → World → Prop} (hg : o.guard = none) (t : TypeId) (ho : o.op = .build t #[])
    (cells : Array Value) (hb : P.built t [] = some cells)
    (h : wpList P ops Q rest (a.put o.dst (.agg cells)) w) : wpList P ops Q (o :: rest) a w := by
  have e : ((#[] : Array (Nat × Operand)).map fun (i, x) => (i, a.eval x)).toList = [] := by simp
  exact wpList_plain hg fun _ hK => wp_build t #[] ho (by rw [e, hb]; rfl) (by rw [e, hb]; exact hK _ _ h)

theorem built11' {key : List UInt8} (h : key.length = 16) : Tryd.prog.built 104 [(0, .agg (aRow key))] = some (aRow (z11.set 0 key).flatten) := by
  match key, h with
  | [x0, x1, x2, x3, x4, x5, x6, x7, x8, x9, x10, x11, x12, x13, x14, x15], _ => exact built11 x0 x1 x2 x3 x4 x5 x6 x7 x8 x9 x10 x11 x12 x13 x14 x15

set_option maxRecDepth 100000 in
theorem zero11 (w : World) : (zeroValue 104).run Tryd.prog w = .ok (.agg (aRow z11.flatten)) w := by kernel_rfl

set_option maxRecDepth 100000 in
set_option maxHeartbeats 400000 in
theorem keys_any (key : List UInt8) (w : World) (hl : key.length = 16) :
    Calls Tryd.prog 57 #[.agg (aRow key)] w fun e w' => e = .returned (.agg (aRow (ksL key).flatten)) ∧ Below w.heap.size w w' := by
  have HL := Deep.mk hl
  have HBD := Deep.mk (built11' hl)
  clear hl
  obtain ⟨Z, hZ⟩ : ∃ Z, Z = aRow z11.flatten := ⟨_, rfl⟩
  have hz11 := zero11
  have hZs : Z.size = 176 := by rw [hZ, aRow_size, z11_b.flat]
  rw [← hZ] at hz11
  have HZD := Deep.mk hZ
  have HZS := Deep.mk hZs
  have HZ11 := Deep.mk hz11
  clear hZ hZs hz11
  go_enter Tryd.func57, Tryd.ntmps57
  go_upto_region 1 with (refine wpList_allocZ rfl 104 rfl Z (HZ11.out _) ?_)
  rw [show (w.alloc (.cells (aRow key) 23)).heap.size = w.heap.size + 1 by simp]
  obtain ⟨hbe, h2, h3⟩ := made2 w (aRow key) Z 23 104
  have hz : ((w.alloc (.cells (aRow key) 23)).alloc (.cells Z 104)).heap.size = w.heap.size + 1 + 1 := by simp
  generalize (w.alloc (.cells (aRow key) 23)).alloc (.cells Z 104) = W at *
  obtain ⟨b, hb⟩ : ∃ b, b = w.heap.size := ⟨_, rfl⟩
  obtain ⟨r, hr⟩ : ∃ c, c = w.heap.size + 1 := ⟨_, rfl⟩
  rw [← hb] at h2
  rw [← hr] at h3 hz
  rw [← hr, ← hb]
  have HB := Lib.hid hb
  have HR := Lib.hid hr
  have hbr : b < r := by omega
  have HBE := Lib.hid hbe
  have H2 := Lib.hid h2
  have H3 := Lib.hid h3
  have HZ := Lib.hid hz
  clear hb hr hbe h2 h3 hz
  have hb0 : B11 (z11.set 0 key) := z11_b.set HL.out
  have HB0 := Deep.mk hb0
  clear hb0
  obtain ⟨R0, hR0⟩ : ∃ R, R = aRow (z11.set 0 key).flatten := ⟨_, rfl⟩
  have HI0 : Deep ((Tryd.prog.info? 104).map (·.size) = some R0.size) := ⟨by rw [hR0]; exact info_aRow11 HB0.out⟩
  have HS0 : Deep (R0.size = 176) := ⟨by rw [hR0, aRow_size, HB0.out.flat]⟩
  have HO0 : Deep (R0.all (·.oneCell') = true) := ⟨by rw [hR0]; exact aRow_one _⟩
  rw [← hR0] at HBD
  have HR0 := Deep.mk hR0
  clear hR0
  go_upto_region 2 with (first
    | (refine wpList_load_row rfl 23 (.tmp 1) rfl b rfl _ (aRow key) _ _ H2.out Tryd.underlying23 rfl (info_aRow HL.out) ?_)
    | (refine wpList_built1 rfl 104 (.tmp 6) rfl (.agg (aRow key)) rfl R0 HBD.out ?_)
    | (refine wpList_allocZ rfl 104 rfl Z (HZ11.out _) ?_)
    | (refine wpList_store_row rfl 104 (.tmp 3) (.tmp 7) rfl W.heap.size R0 rfl rfl _ _ (heap_alloc_new W _) HI0.out (by rw [HZS.out, HS0.out]) HO0.out ?_; rw [World.setRow_alloc_new]))
  obtain ⟨n, hn⟩ : ∃ n, n = W.heap.size := ⟨_, rfl⟩
  have hrn : r < n := by rw [hn, HZ.out]; omega
  have HBE2 := Lib.hid (HBE.out.alloc HBE.out.size (.cells R0 104))
  have H33 := Lib.hid (H3.out.alloc (.cells R0 104))
  have H44 : Hid (Wh (W.alloc (.cells R0 104)) n 104 (aRow (ksS key 0).flatten)) := by rw [hn, ksS, ← HR0.out]; exact Lib.hid (Wh.new _ _ _)
  rw [← hn]
  clear H2 H3 HBE hn HZ HB0 HI0 HS0 HO0 HBD HR0
  generalize W.alloc (.cells R0 104) = W2 at *
  go_wp2
  go_loopw [4, 5] (fun vc i wr => ∃ (k : Nat) (c : UInt8), k ≤ 10 ∧ i = .int .i64 ((k + 1 : Nat) : Int) ∧ Deep (c = cN k) ∧ vc = .int .u8 (c.toNat : Int) ∧ Hid (Wh wr n 104 (aRow (ksS key k).flatten)) ∧ Hid (W2.grownBy wr (some n))) (fun _ i _ => 11 - (intOf i).toNat)
  case atStart => exact ⟨0, 1, by omega, rfl, ⟨rfl⟩, rfl, H44, Lib.hid (World.grownBy.refl _ _)⟩
  case round =>
    obtain ⟨k, c, hk, rfl, HC, rfl, HW, HG⟩ := hrel
    clear H44
    have HB11 := Deep.mk (ksS_b HL.out k hk)
    obtain ⟨j, hj⟩ : ∃ j, j = k + 1 := ⟨_, rfl⟩
    rw [← hj]
    have hc8 := c.toNat_lt
    by_cases hlt : k < 10
    · have e1 : IntKind.i64.wrap ((j : Int) - 1) = (j : Int) - 1 := IntWalk.i64_in _ (by omega)
      have e2 : ((j : Int) - 1).toNat = k := by omega
      have e3 : (j : Int) - 1 = (k : Int) := by omega
      have hj1 : 1 ≤ j := by omega
      have hj10 : j ≤ 10 := by omega
      have hj11 : j < 11 := by omega
      have HRG := Lib.hid (HB11.out.range' HW.out (show k < 11 by omega))
      have hx16 := HB11.out.at_ (show k < 11 by omega)
      obtain ⟨x, hx⟩ : ∃ x, x = (ksS key k).getD k [] := ⟨_, rfl⟩
      rw [← hx] at HRG hx16
      have HX := Deep.mk hx
      have HX16 := Deep.mk hx16
      have HJ := Deep.mk hj
      have E3 := Deep.mk e3
      have hdj : decide ((j : Int) ≤ 10) = true := by rw [decide_eq_true_iff]; omega
      clear hx hx16 hj e3
      obtain ⟨y, hy⟩ : ∃ y, y = nkL x c := ⟨_, rfl⟩
      have hy16 : y.length = 16 := by rw [hy]; exact nkL_len HX16.out c
      have hnx := anext_any x c wr HX16.out
      rw [← hy] at hnx
      have HNX := Lib.hid hnx
      have HY := Deep.mk hy
      have HY16 := Deep.mk hy16
      clear hy hy16 hnx
      go_wp2_with (refine wpList_load_blk rfl (.tmp 15) rfl n (k * 16) rfl x HX16.out HRG.out ?_)
      refine HNX.out.mono ?_
      rintro e w3 ⟨rfl, hb3⟩
      have HB3 := Lib.hid hb3
      have HW3 := Lib.hid (HW.out.below hb3 HW.out.lt)
      have HTH := Lib.hid (HB11.out.there' HW3.out hj11)
      clear hb3
      go_wp2_with (refine wpList_store_blk rfl (.tmp 19) (.tmp 18) rfl n (j * 16) y rfl rfl HY16.out HTH.out ?_)
      obtain ⟨hs1, hs2⟩ := HB11.out.store' HW3.out hj11 HY16.out
      have HS1 : Hid (Wh (w3.setCells n (j * 16) (y.map cell8)) n 104 (aRow (ksS key (k + 1)).flatten)) := by
        rw [ksS, ← HX.out, ← HC.out, ← HY.out, ← HJ.out]
        exact Lib.hid hs1
      have HS2 := Lib.hid (grown_trans (grown_trans HG.out (grown_below HB3.out)) hs2)
      clear hs1 hs2
      generalize w3.setCells n (j * 16) (y.map cell8) = w5 at *
      obtain ⟨d, hd⟩ : ∃ d, d = tw c := ⟨_, rfl⟩
      have HTW := Lib.hid (twice_any c w5)
      rw [← hd] at HTW
      have HD : Deep (d = cN (k + 1)) := ⟨by rw [hd, cN, HC.out]⟩
      clear hd
      refine HTW.out.mono ?_
      rintro e w6 ⟨rfl, rfl⟩
      go_wp2
      refine ⟨⟨k + 1, d, by omega, by rw [HJ.out]; rfl, HD, rfl, HS1, HS2⟩, by simp [intOf]; omega⟩
    · have hk10 : k = 10 := by omega
      have hdj : decide ((j : Int) ≤ 10) = false := by rw [decide_eq_false_iff_not]; omega
      have HRW : Hid (Wh wr r 104 Z) := Lib.hid (H33.out.grown HG.out (by intro e; have := Option.some.inj e; omega))
      have HBW := Lib.hid (below_grownA HBE2.out HG.out (by rw [← HB.out]; omega) HBE2.out.size)
      have hwr : w.heap.size ≤ r := by rw [HR.out]; omega
      obtain ⟨R1, hR1⟩ : ∃ R, R = aRow (ksL key).flatten := ⟨_, rfl⟩
      have HW1 : Hid (Wh wr n 104 R1) := by
        have h := HW.out
        rw [hk10] at h
        rw [hR1]
        exact Lib.hid h
      have HB1 : Deep (B11 (ksL key)) := ⟨ksS_b HL.out 10 (Nat.le_refl _)⟩
      have HI1 : Deep ((Tryd.prog.info? 104).map (·.size) = some R1.size) := ⟨by rw [hR1]; exact info_aRow11 HB1.out⟩
      have HS1 : Deep (R1.size = 176) := ⟨by rw [hR1, aRow_size, HB1.out.flat]⟩
      have HO1 : Deep (R1.all (·.oneCell') = true) := ⟨by rw [hR1]; exact aRow_one _⟩
      have HR1 := Deep.mk hR1
      clear HW HG HC hk10 hR1 hlt hk hj
      go_wp2_with (first
        | (refine wpList_load_row rfl 104 (.tmp 3) rfl n rfl _ R1 _ _ HW1.out Tryd.underlying104 rfl HI1.out ?_)
        | (refine wpList_store_row rfl 104 (.tmp 2) (.tmp 22) rfl r R1 rfl rfl _ _ HRW.out HI1.out (by rw [HZS.out, HS1.out]) HO1.out ?_))
      refine bodyPost_ret (v := .agg R1) (results_cell_row Tryd.results57 _ _ r _ _ (0, 0) _ rfl (setRow_heap wr r _ _ _ _ HRW.out) Tryd.underlying104 rfl HI1.out) rfl ?_
      exact ⟨by rw [HR1.out], below_setRow HBW.out hwr _⟩
end
end Go.Proofs.YtbnnjkjmadnjkaaDoor
