/-
  Words for packets' keys in memory: their row, allocs, slices as arrays.
  The walks through varint.Size, the document's own Size, and math/bits.TrailingZeros at the sizes that there are.
-/
import Derived.Laws.Cover3
import Derived.Test.YtbnnjkjmadnjkaaDoorSk2
import Derived.Test.YtbnnjkjmadnjkaaDoorSk13
import Derived.Test.YtbnnjkjmadnjkaaDoorKMac
import Derived.Test.YtbnnjkjmadnjkaaDoorSk3
import Derived.Test.YtbnnjkjmadnjkaaDoorRows
import Derived.WalkSpells
import Derived.WalkLawsBesides
import Derived.Test.YtbnnjkjmadnjkaaDoorSk0
namespace Go.Proofs.YtbnnjkjmadnjkaaDoor
section
open Go.RowKit
set_option linter.unusedVariables false

theorem info_ky : (Tryd.prog.info? 27).map (·.size) = some 77 := by kernel_rfl
theorem info_kyRow {k : KS} (h : k.Ok) : (Tryd.prog.info? 27).map (·.size) = some (kyRow k).size := by rw [h.size]; exact info_ky
theorem info_kyL {k : KS} (h : k.Ok) : (Tryd.prog.info? 27).map (·.size) = some (kyL k).length := by rw [h.len]; exact info_ky
theorem info_k16 : (Tryd.prog.info? 23).map (·.size) = some 16 := by kernel_rfl
theorem info_k12 : (Tryd.prog.info? 24).map (·.size) = some 12 := by kernel_rfl
theorem info_k32 : (Tryd.prog.info? 22).map (·.size) = some 32 := by kernel_rfl
set_option maxRecDepth 100000 in
theorem zero_ky (w : World) : (zeroValue 27).run Tryd.prog w = .ok (.agg (kyRow kyZ)) w := by kernel_rfl
set_option maxRecDepth 100000 in
theorem zero_b32 (w : World) : (zeroValue 22).run Tryd.prog w = .ok (.agg (bRow (List.replicate 32 0))) w := by kernel_rfl
set_option maxRecDepth 100000 in
theorem zero_b16 (w : World) : (zeroValue 23).run Tryd.prog w = .ok (.agg (bRow (List.replicate 16 0))) w := by kernel_rfl

/-- A slice that is long enough as an array's place. -/
theorem yields_arr {P : Program} {ops : Array Oper} {S : World → Prop} {op : Oper} {a : Act} (hw : Region.wanted op (yielded ops a.tmps) = true) (t e : TypeId) (n : Nat) (x : Operand) (ho : op.op = .sliceToArrayPointer t x)
    (A : Option Addr) (len cap : Nat) (hx : a.eval x = .slice A len cap) (hu : P.underlying t = some (.array n e)) (hn : n ≤ len) : YieldsIf P ops S op (.pointer A) a :=
  .inl ⟨hw, fun w hw' => by
    unfold execOp
    simp only [ho, hx, Sem.run_bind, run_arrayAt w t e n A len cap hu hn, Result.andThen_ok, Sem.run_pure]⟩
theorem wpList_arr {P : Program} {ops : Array Oper} {rest : List Oper} {o : Oper} {a : Act} {w : World} {Q : Exit → Act → World → Prop} (hg : o.guard = none) (t e : TypeId) (n : Nat) (x : Operand) (ho : o.op = .sliceToArrayPointer t x)
    (A : Option Addr) (len cap : Nat) (hx : a.eval x = .slice A len cap) (hu : P.underlying t = some (.array n e)) (hn : n ≤ len)
    (h : wpList P ops Q rest (a.put o.dst (.pointer A)) w) : wpList P ops Q (o :: rest) a w :=
  wpList_plain hg fun _ hK => by
    unfold Oper.wp execOp
    simp only [ho, hx, Sem.run_bind, run_arrayAt w t e n A len cap hu hn, Result.andThen_ok, Sem.run_pure]
    exact hK _ _ h

/-- A slice that is not empty lies somewhere. -/
theorem Sl.there {w : World} {B : Nat} {A : Option Addr} {l : List UInt8} (h : Sl w B A l) (hn : l ≠ []) : ∃ b off, A = some ⟨b, off, none⟩ ∧ b < B ∧ w.rangeAt b off (l.map cell8) := by
  obtain ⟨b, off, rfl, hb, hc⟩ := h (by simpa using hn)
  exact ⟨b, off, rfl, hb, fun j v hv => hc j v hv⟩
theorem rangeAt_below {w w' : World} {B b o : Nat} {cs : List Value} (h : w.rangeAt b o cs) (hb : Below B w w') (hlt : b < B) : w'.rangeAt b o cs := fun j v hv => (hb.cell (p := ⟨b, o + j, none⟩) hlt).trans (h j v hv)

/-- A literal of four fields. -/
theorem wp_built4K {P : Program} {op : Oper} {a : Act} {w : World} {K : Act → World → Prop} {Q : Exit → Act → World → Prop} (t : TypeId) (x0 x1 x2 x3 : Operand) (ho : op.op = .build t #[(0, x0), (1, x1), (2, x2), (3, x3)])
    (v0 v1 v2 v3 : Value) (h0 : a.eval x0 = v0) (h1 : a.eval x1 = v1) (h2 : a.eval x2 = v2) (h3 : a.eval x3 = v3) (cells : Array Value) (hb : P.built t [(0, v0), (1, v1), (2, v2), (3, v3)] = some cells) (h : K (a.put op.dst (.agg cells)) w) : op.wp P a w K Q := by
  have e : ((#[(0, x0), (1, x1), (2, x2), (3, x3)] : Array (Nat × Operand)).map fun (i, x) => (i, a.eval x)).toList = [(0, v0), (1, v1), (2, v2), (3, v3)] := by simp [h0, h1, h2, h3]
  exact wp_build t _ ho (by rw [e, hb]; rfl) (by rw [e, hb]; exact h)
theorem yields_built4K {P : Program} {ops : Array Oper} {S : World → Prop} {op : Oper} {a : Act} (hw : Region.wanted op (yielded ops a.tmps) = true) (t : TypeId) (x0 x1 x2 x3 : Operand) (ho : op.op = .build t #[(0, x0), (1, x1), (2, x2), (3, x3)])
    (v0 v1 v2 v3 : Value) (h0 : a.eval x0 = v0) (h1 : a.eval x1 = v1) (h2 : a.eval x2 = v2) (h3 : a.eval x3 = v3) (cells : Array Value) (hb : P.built t [(0, v0), (1, v1), (2, v2), (3, v3)] = some cells) : YieldsIf P ops S op (.agg cells) a :=
  .inl ⟨hw, fun w hw' => by
    have e : ((#[(0, x0), (1, x1), (2, x2), (3, x3)] : Array (Nat × Operand)).map fun (i, x) => (i, a.eval x)).toList = [(0, v0), (1, v1), (2, v2), (3, v3)] := by simp [h0, h1, h2, h3]
    unfold execOp
    simp only [ho, Sem.run_bind, run_build w t _ cells (by rw [e]; exact hb), Result.andThen_ok, Sem.run_pure]⟩
theorem built_ky0 (a0 a1 a2 a3 a4 a5 a6 a7 a8 a9 a10 a11 a12 a13 a14 a15 a16 a17 a18 a19 a20 a21 a22 a23 a24 a25 a26 a27 a28 a29 a30 a31 b0 b1 b2 b3 b4 b5 b6 b7 b8 b9 b10 b11 b12 b13 b14 b15 c0 c1 c2 c3 c4 c5 c6 c7 c8 c9 c10 c11 d0 d1 d2 d3 d4 d5 d6 d7 d8 d9 d10 d11 d12 d13 d14 d15 : UInt8) : Tryd.prog.built 27 [(0, .agg (bRow [a0, a1, a2, a3, a4, a5, a6, a7, a8, a9, a10, a11, a12, a13, a14, a15, a16, a17, a18, a19, a20, a21, a22, a23, a24, a25, a26, a27, a28, a29, a30, a31])), (1, .agg (bRow [b0, b1, b2, b3, b4, b5, b6, b7, b8, b9, b10, b11, b12, b13, b14, b15])), (2, .agg (bRow [c0, c1, c2, c3, c4, c5, c6, c7, c8, c9, c10, c11])), (3, .agg (bRow [d0, d1, d2, d3, d4, d5, d6, d7, d8, d9, d10, d11, d12, d13, d14, d15]))] = some (kyRow ⟨[a0, a1, a2, a3, a4, a5, a6, a7, a8, a9, a10, a11, a12, a13, a14, a15, a16, a17, a18, a19, a20, a21, a22, a23, a24, a25, a26, a27, a28, a29, a30, a31], [b0, b1, b2, b3, b4, b5, b6, b7, b8, b9, b10, b11, b12, b13, b14, b15], [c0, c1, c2, c3, c4, c5, c6, c7, c8, c9, c10, c11], [d0, d1, d2, d3, d4, d5, d6, d7, d8, d9, d10, d11, d12, d13, d14, d15], 0⟩) := by kernel_rfl
set_option maxRecDepth 100000 in
theorem built_ky (s k i h : List UInt8) (hs : s.length = 32) (hk : k.length = 16) (hi : i.length = 12) (hh : h.length = 16) :
    Tryd.prog.built 27 [(0, .agg (bRow s)), (1, .agg (bRow k)), (2, .agg (bRow i)), (3, .agg (bRow h))] = some (kyRow ⟨s, k, i, h, 0⟩) := by
  match s, hs, k, hk, i, hi, h, hh with
  | [a0, a1, a2, a3, a4, a5, a6, a7, a8, a9, a10, a11, a12, a13, a14, a15, a16, a17, a18, a19, a20, a21, a22, a23, a24, a25, a26, a27, a28, a29, a30, a31], _, [b0, b1, b2, b3, b4, b5, b6, b7, b8, b9, b10, b11, b12, b13, b14, b15], _, [c0, c1, c2, c3, c4, c5, c6, c7, c8, c9, c10, c11], _, [d0, d1, d2, d3, d4, d5, d6, d7, d8, d9, d10, d11, d12, d13, d14, d15], _ => exact built_ky0 a0 a1 a2 a3 a4 a5 a6 a7 a8 a9 a10 a11 a12 a13 a14 a15 a16 a17 a18 a19 a20 a21 a22 a23 a24 a25 a26 a27 a28 a29 a30 a31 b0 b1 b2 b3 b4 b5 b6 b7 b8 b9 b10 b11 b12 b13 b14 b15 c0 c1 c2 c3 c4 c5 c6 c7 c8 c9 c10 c11 d0 d1 d2 d3 d4 d5 d6 d7 d8 d9 d10 d11 d12 d13 d14 d15
theorem built_kyS0 (a0 a1 a2 a3 a4 a5 a6 a7 a8 a9 a10 a11 a12 a13 a14 a15 a16 a17 a18 a19 a20 a21 a22 a23 a24 a25 a26 a27 a28 a29 a30 a31 : UInt8) : Tryd.prog.built 27 [(0, .agg (bRow [a0, a1, a2, a3, a4, a5, a6, a7, a8, a9, a10, a11, a12, a13, a14, a15, a16, a17, a18, a19, a20, a21, a22, a23, a24, a25, a26, a27, a28, a29, a30, a31]))] = some (kyRow ⟨[a0, a1, a2, a3, a4, a5, a6, a7, a8, a9, a10, a11, a12, a13, a14, a15, a16, a17, a18, a19, a20, a21, a22, a23, a24, a25, a26, a27, a28, a29, a30, a31], List.replicate 16 0, List.replicate 12 0, List.replicate 16 0, 0⟩) := by kernel_rfl
set_option maxRecDepth 100000 in
theorem built_kyS (s : List UInt8) (hs : s.length = 32) : Tryd.prog.built 27 [(0, .agg (bRow s))] = some (kyRow ⟨s, List.replicate 16 0, List.replicate 12 0, List.replicate 16 0, 0⟩) := by
  match s, hs with
  | [a0, a1, a2, a3, a4, a5, a6, a7, a8, a9, a10, a11, a12, a13, a14, a15, a16, a17, a18, a19, a20, a21, a22, a23, a24, a25, a26, a27, a28, a29, a30, a31], _ => exact built_kyS0 a0 a1 a2 a3 a4 a5 a6 a7 a8 a9 a10 a11 a12 a13 a14 a15 a16 a17 a18 a19 a20 a21 a22 a23 a24 a25 a26 a27 a28 a29 a30 a31

/-- A block that is known whole, by what it holds: a load and a store of part of it. -/
theorem Wh.partK {w : World} {g : Nat} {t : TypeId} {cs : List Value} (h : Wh w g t cs.toArray) (o : Nat) (seg : List Value) (he : ∀ j v, seg[j]? = some v → cs[o + j]? = some v) : w.rangeAt g o seg := fun j v hv => by
  rw [h.cell, List.getElem?_toArray]
  exact he j v hv
theorem Wh.wholeK {w : World} {g : Nat} {t : TypeId} {cs : List Value} (h : Wh w g t cs.toArray) : w.rangeAt g 0 cs := h.partK 0 cs fun j v hv => by rw [Nat.zero_add]; exact hv
theorem Wh.thereK {w : World} {g : Nat} {t : TypeId} {cs : List Value} (h : Wh w g t cs.toArray) (o n : Nat) (hn : o + n ≤ cs.length) : w.there g o n := fun j hj => by
  refine ⟨?_, h.frozen _⟩
  rw [h.cell, List.getElem?_toArray, List.getElem?_eq_getElem (by omega)]
  rfl
theorem Wh.putsK {g : Nat} {t : TypeId} : ∀ (vs : List Value) (o : Nat) (cs : List Value) (w : World), Wh w g t cs.toArray → o + vs.length ≤ cs.length →
    Wh (w.setCells g o vs) g t (cs.take o ++ (vs ++ cs.drop (o + vs.length))).toArray ∧ w.grownBy (w.setCells g o vs) (some g)
  | [], o, cs, w, h, hl => by
    refine ⟨?_, World.grownBy.refl _ _⟩
    rw [World.setCells, List.length_nil, Nat.add_zero, List.nil_append, List.take_append_drop]
    exact h
  | v :: r, o, cs, w, h, hl => by
    rw [List.length_cons] at hl
    have h1 := h.put o v
    rw [List.setIfInBounds_toArray] at h1
    obtain ⟨h2, h3⟩ := Wh.putsK r (o + 1) (cs.set o v) (w.setCell ⟨g, o, none⟩ v) h1 (by rw [List.length_set]; omega)
    rw [World.setCells]
    refine ⟨?_, grown_trans (grown_set w g o v) h3⟩
    have e1 : (cs.set o v).take (o + 1) = cs.take o ++ [v] := by
      rw [List.take_add_one, List.take_set_of_le (Nat.le_refl _), List.getElem?_set_self (by omega)]
      rfl
    have e2 : (cs.set o v).drop (o + 1 + r.length) = cs.drop (o + (v :: r).length) := by
      rw [List.drop_set_of_lt (by omega), List.length_cons]
      congr 1
      omega
    rw [e1, e2, List.append_assoc] at h2
    exact h2
theorem Wh.allK {w : World} {g : Nat} {t : TypeId} {cs ds : List Value} (h : Wh w g t cs.toArray) (hl : ds.length = cs.length) : Wh (w.setCells g 0 ds) g t ds.toArray ∧ w.grownBy (w.setCells g 0 ds) (some g) := by
  obtain ⟨h1, h2⟩ := Wh.putsK ds 0 cs w h (by omega)
  refine ⟨?_, h2⟩
  rw [List.take_zero, List.nil_append, List.drop_eq_nil_of_le (by omega), List.append_nil] at h1
  exact h1

/-! A region that draws its order. -/
theorem wpAnyH_moreK {P : Program} {md : Region.Mode} {ops : Array Oper} {Q : Exit → Act → World → Prop} {S S' : World → Prop} (hSS : ∀ w, S' w → S w) :
    ∀ (fuel : Nat) (listed : Array Bool) (a : Act) (w : World), wpAnyH P md ops Q S' fuel listed a w → wpAnyH P md ops Q S fuel listed a w
  | 0, _, _, _, h => h
  | fuel + 1, _, _, _, h => ⟨h.1, fun i hi => wpOp_mono (fun a' w' h' => ⟨hSS _ h'.1, wpAnyH_moreK hSS fuel _ a' w' h'.2⟩) (h.2 i hi)⟩
/-- All that stood at a world stands. -/
def SinceK (w0 wr : World) : Prop := Below w0.heap.size w0 wr
theorem SinceK.self (w : World) : SinceK w w := Below.refl _ _
theorem SinceK.trans {a b c : World} (h : SinceK a b) (k : SinceK b c) : SinceK a c := Below.trans h (k.mono h.size)
theorem SinceK.wh {a b : World} (h : SinceK a b) {g : Nat} {t : TypeId} {cs : Array Value} (hw : Wh a g t cs) : Wh b g t cs := hw.below h hw.lt
theorem SinceK.kt {a b : World} (h : SinceK a b) {ks : List W32} (hK : KT a ks) (hKb : 0 < a.heap.size) : KT b ks := hK.below hKb h
theorem SinceK.sl {a b : World} (h : SinceK a b) {A : Option Addr} {l : List UInt8} (hs : Sl a a.heap.size A l) : Sl b b.heap.size A l := (Sv.below hs h).keep h.size (fun _ _ => rfl)
theorem SinceK.range {a b : World} (h : SinceK a b) {g o : Nat} {cs : List Value} (hr : a.rangeAt g o cs) (hg : g < a.heap.size) : b.rangeAt g o cs := rangeAt_below hr h hg
theorem SinceK.put {a b c : World} {g : Nat} (h : SinceK a b) (k : b.grownBy c (some g)) (hg : a.heap.size ≤ g) : SinceK a c := below_grown h k hg h.size
theorem SinceK.below {B : Nat} {a b c : World} (h : Below B a b) (k : SinceK b c) (hB : B ≤ b.heap.size) : Below B a c := h.trans (k.mono hB)

/-- What two blocks that were just made hold. -/
theorem made2K (w : World) (r s : Array Value) (T U : TypeId) : Below w.heap.size w ((w.alloc (.cells r T)).alloc (.cells s U)) ∧ Wh ((w.alloc (.cells r T)).alloc (.cells s U)) w.heap.size T r ∧ Wh ((w.alloc (.cells r T)).alloc (.cells s U)) (w.heap.size + 1) U s ∧ ((w.alloc (.cells r T)).alloc (.cells s U)).heap.size = w.heap.size + 1 + 1 := by
  refine ⟨((Below.refl _ _).alloc (Nat.le_refl _) _).alloc (by simp) _, (Wh.new _ _ _).alloc _, ?_, by simp⟩
  have := Wh.new (w.alloc (.cells r T)) U s
  rwa [show (w.alloc (.cells r T)).heap.size = w.heap.size + 1 by simp] at this
/-- What kdf's calls want of the world. -/
def Kt (w : World) : Prop := KT w kW ∧ 0 < w.heap.size
theorem Kt.since {a b : World} (h : Kt a) (hb : Below a.heap.size a b) : Kt b := ⟨h.1.below h.2 hb, Nat.lt_of_lt_of_le h.2 hb.size⟩
theorem Kt.since' {a b : World} {B : Nat} (h : Kt a) (hb : Below B a b) (hB : a.heap.size ≤ B) : Kt b := h.since (hb.mono hB)
/-- Bytes that a call gave stand somewhere. -/
theorem own_there {w : World} {base : Nat} {e : TypeId} {A : Option Addr} {c : Nat} {l : List UInt8} (h : w.ownsRow base e 1 (.slice A l.length c) l.length (l.map cell8)) (hn : 0 < l.length) : ∃ b off, A = some ⟨b, off, none⟩ ∧ base ≤ b ∧ b < w.heap.size ∧ w.rangeAt b off (l.map cell8) := by
  have hs : Sl w w.heap.size A l := Sv.of_own h
  obtain ⟨b, off, hA, hlt, hr⟩ := hs.there (by intro e; rw [e] at hn; cases hn)
  refine ⟨b, off, hA, ?_, hlt, hr⟩
  rcases h.2 with ⟨hv, hz⟩ | ⟨g', cap', cur, hv, hb, _⟩
  · omega
  · simp only [hA, Value.slice.injEq, Option.some.injEq, Addr.mk.injEq] at hv
    omega
/-- All that stood at a world stands, but block r. -/
def SinceX (r : Nat) (a b : World) : Prop := a.grownBy b (some r)
theorem SinceX.self (r : Nat) (w : World) : SinceX r w w := World.grownBy.refl _ _
theorem SinceX.trans {r : Nat} {a b c : World} (h : SinceX r a b) (k : SinceX r b c) : SinceX r a c := grown_trans h k
theorem SinceX.of {r : Nat} {a b : World} (h : Below a.heap.size a b) : SinceX r a b := grown_below h
theorem SinceX.range {r : Nat} {a b : World} (h : SinceX r a b) {g o : Nat} {cs : List Value} (hr : a.rangeAt g o cs) (hg : g < a.heap.size) (hne : g ≠ r) : b.rangeAt g o cs := fun j v hv =>
  (World.cell?_of_block (h.block g hg (fun e => hne (Option.some.inj e)))).trans (hr j v hv)
theorem SinceX.wh {r : Nat} {a b : World} (h : SinceX r a b) {g : Nat} {t : TypeId} {cs : Array Value} (hw : Wh a g t cs) (hne : g ≠ r) : Wh b g t cs := hw.grown h (fun e => hne (Option.some.inj e))
theorem SinceX.put {r : Nat} {a b c : World} (h : SinceX r a b) (k : b.grownBy c (some r)) : SinceX r a c := grown_trans h k
theorem bRow_list (l : List UInt8) : (bRow l).toList = l.map cell8 := by simp [bRow]
end

section
open Go.RowKit
set_option linter.unusedVariables false

/-- A byte's row of the table of types. -/
theorem info8V : (Tryd.prog.info? 5).map (fun i => (i.zero, i.size, i.bytes)) = some (some (.int .u8 0), 1, 1) := by kernel_rfl

/-- What is answered where there are so many bytes: they, in memory of their own. -/
def Gave (w : World) (l : List UInt8) (f : Value → Value) (e : Ending) (w' : World) : Prop :=
  ∃ A' c', e = .returned (f (.slice A' l.length c')) ∧ l.length ≤ c' ∧ c' ≤ maxLen ∧ w'.ownsRow w.heap.size 5 1 (.slice A' l.length c') l.length (l.map cell8) ∧ Below w.heap.size w w'

set_option maxRecDepth 10000 in
set_option maxHeartbeats 400000 in
theorem size_any (n : Nat) (w : World) :
    Calls Tryd.prog 88 #[.int .u64 (n : Int)] w fun e w' => e = .returned (.int .i64 (szN n : Nat)) ∧ w = w' := by
  by_cases h1 : n ≤ 63
  · have HS := Lib.hid (szN_1 h1)
    go_enter Tryd.func88, Tryd.ntmps88
    go_wp2
    go_ret
    exact ⟨by rw [HS.out]; rfl, rfl⟩
  · by_cases h2 : n ≤ 16383
    · have HS := Lib.hid (szN_2 h1 h2)
      go_enter Tryd.func88, Tryd.ntmps88
      go_wp2
      go_ret
      exact ⟨by rw [HS.out]; rfl, rfl⟩
    · by_cases h3 : n ≤ 1073741823
      · have HS := Lib.hid (szN_4 h2 h3)
        go_enter Tryd.func88, Tryd.ntmps88
        go_wp2
        go_ret
        exact ⟨by rw [HS.out]; rfl, rfl⟩
      · by_cases h4 : n ≤ 4611686018427387903
        · have HS := Lib.hid (szN_8 h3 h4)
          go_enter Tryd.func88, Tryd.ntmps88
          go_wp2
          go_ret
          exact ⟨by rw [HS.out]; rfl, rfl⟩
        · have HS := Lib.hid (szN_0 h4)
          go_enter Tryd.func88, Tryd.ntmps88
          go_wp2
          go_ret
          exact ⟨by rw [HS.out]; rfl, rfl⟩

/-- The cells of the library's table that are read at 1, 2, 4, 8. -/
def Tab (w : World) : Prop :=
  w.cell? ⟨2, 0, none⟩ = some (.int .u8 0) ∧ w.cell? ⟨2, 1, none⟩ = some (.int .u8 1) ∧
  w.cell? ⟨2, 3, none⟩ = some (.int .u8 2) ∧ w.cell? ⟨2, 7, none⟩ = some (.int .u8 3)

theorem Tab.lt {w : World} (h : Tab w) : 2 < w.heap.size := World.block_lt_of_cell? w _ h.1

theorem Tab.below {w w' : World} {B : Nat} (h : Tab w) (hb : Below B w w') (hB : 2 < B) : Tab w' :=
  ⟨(hb.cell (p := ⟨_, _, none⟩) hB).trans h.1, (hb.cell (p := ⟨_, _, none⟩) hB).trans h.2.1, (hb.cell (p := ⟨_, _, none⟩) hB).trans h.2.2.1, (hb.cell (p := ⟨_, _, none⟩) hB).trans h.2.2.2⟩

set_option maxRecDepth 10000 in
set_option maxHeartbeats 400000 in
theorem zeros1 (w : World) (h : w.cell? ⟨2, 0, none⟩ = some (.int .u8 0)) :
    Calls Tryd.prog 89 #[.int .u64 1] w fun e w' => e = .returned (.int .i64 0) ∧ w = w' := by
  have he : IntKind.u64.wrap (bits .and .u64 1 (IntKind.u64.wrap (-1)) * 285870213051353865) = 285870213051353865 := by decide +kernel
  go_enter Tryd.func89, Tryd.ntmps89
  go_wp2
  go_ret
  exact ⟨rfl, rfl⟩

set_option maxRecDepth 10000 in
set_option maxHeartbeats 400000 in
theorem zeros2 (w : World) (h : w.cell? ⟨2, 1, none⟩ = some (.int .u8 1)) :
    Calls Tryd.prog 89 #[.int .u64 2] w fun e w' => e = .returned (.int .i64 1) ∧ w = w' := by
  have he : IntKind.u64.wrap (bits .and .u64 2 (IntKind.u64.wrap (-2)) * 285870213051353865) = 571740426102707730 := by decide +kernel
  go_enter Tryd.func89, Tryd.ntmps89
  go_wp2
  go_ret
  exact ⟨rfl, rfl⟩

set_option maxRecDepth 10000 in
set_option maxHeartbeats 400000 in
theorem zeros4 (w : World) (h : w.cell? ⟨2, 3, none⟩ = some (.int .u8 2)) :
    Calls Tryd.prog 89 #[.int .u64 4] w fun e w' => e = .returned (.int .i64 2) ∧ w = w' := by
  have he : IntKind.u64.wrap (bits .and .u64 4 (IntKind.u64.wrap (-4)) * 285870213051353865) = 1143480852205415460 := by decide +kernel
  go_enter Tryd.func89, Tryd.ntmps89
  go_wp2
  go_ret
  exact ⟨rfl, rfl⟩

set_option maxRecDepth 10000 in
set_option maxHeartbeats 400000 in
theorem zeros8 (w : World) (h : w.cell? ⟨2, 7, none⟩ = some (.int .u8 3)) :
    Calls Tryd.prog 89 #[.int .u64 8] w fun e w' => e = .returned (.int .i64 3) ∧ w = w' := by
  have he : IntKind.u64.wrap (bits .and .u64 8 (IntKind.u64.wrap (-8)) * 285870213051353865) = 2286961704410830920 := by decide +kernel
  go_enter Tryd.func89, Tryd.ntmps89
  go_wp2
  go_ret
  exact ⟨rfl, rfl⟩
end
end Go.Proofs.YtbnnjkjmadnjkaaDoor
