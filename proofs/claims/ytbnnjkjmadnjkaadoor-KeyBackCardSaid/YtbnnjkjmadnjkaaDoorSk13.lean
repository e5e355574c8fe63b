/-
  '==' of two arrays of integers. No program is named here.
  Words for what calls sha.Sum: lists of texts, regions that draw.
-/
import Derived.DeepKeys
import Derived.Laws.StructEq
import Derived.RowKit3
import Derived.Lib.SlBytesConst
import Derived.Test.YtbnnjkjmadnjkaaDoorSk12
import Derived.Test.YtbnnjkjmadnjkaaDoorSk1
import Derived.Deep.MidRow
import Derived.Deep.RegionHeld3
namespace Go.Proofs.YtbnnjkjmadnjkaaDoor
section
open Go.RowKit

theorem mapM_some {α β : Type} (f : α → Option β) (g : α → β) : ∀ l : List α, (∀ x ∈ l, f x = some (g x)) → l.mapM f = some (l.map g)
  | [], _ => rfl
  | x :: l, h => by
    rw [List.mapM_cons, h x (by simp), mapM_some f g l (fun y hy => h y (by simp [hy]))]
    rfl

section
variable {P : Program}

def ints (q : IntKind) (zs : List Int) : List Value := zs.map fun z => .int q z

theorem keyLits_ints {t e : TypeId} {n : Nat} {q : IntKind} (ht : P.underlying t = some (.array n e)) (he : P.underlying e = some (.int q)) (hct : P.cellsOf t = n) (hce : P.cellsOf e = 1) (d : Nat) (zs : List Int)
    (hl : zs.length = n) (hw : ∀ z ∈ zs, (Lit.int q z).wf = true) : P.keyLits (d + 2) t (ints q zs) = some (zs.map fun z => Lit.int q z) := by
  unfold Program.keyLits
  simp only [ht, hct, hce, Nat.mul_one]
  rw [if_pos (by simp [ints, hl])]
  rw [mapM_some _ (fun i => [Lit.int q (zs.getD i 0)]) (List.range n) (fun i hi => by
    have hi' : i < zs.length := by simp at hi; omega
    have h1 : ((ints q zs).drop i).take 1 = [.int q zs[i]] := by
      unfold ints
      rw [List.drop_eq_getElem_cons (by simpa using hi')]
      simp
    rw [h1]
    unfold Program.keyLits
    simp only [he]
    rw [if_pos ⟨trivial, hw _ (List.getElem_mem hi')⟩]
    simp [List.getD, hi'])]
  simp only [Option.map_some, Option.some.injEq]
  subst hl
  apply List.ext_getElem?
  intro i
  have hflat : ∀ l : List Nat, (l.map fun i => [Lit.int q (zs.getD i 0)]).flatten = l.map fun i => Lit.int q (zs.getD i 0) := by
    intro l
    induction l with
    | nil => rfl
    | cons a l ih => rw [List.map_cons, List.flatten_cons, ih]; rfl
  rw [hflat]
  by_cases hi : i < zs.length
  · simp [hi]
  · rw [List.getElem?_eq_none (by simp; omega), List.getElem?_eq_none (by simp; omega)]

theorem ints_inj {q : IntKind} {a b : List Int} : (a.map fun z => Lit.int q z) = (b.map fun z => Lit.int q z) ↔ a = b := by
  constructor
  · intro h
    have := congrArg (List.map fun x => match x with | Lit.int _ z => z | _ => 0) h
    simpa [List.map_map, Function.comp_def] using this
  · rintro rfl; rfl

/-- '==' of two arrays of integers. -/
theorem run_eql_ints {t e : TypeId} {n : Nat} {q : IntKind} (ht : P.underlying t = some (.array n e)) (he : P.underlying e = some (.int q)) (hct : P.cellsOf t = n) (hce : P.cellsOf e = 1) (hk : P.keyTypeAt 2 t = true)
    (xs ys : List Int) (hx : xs.length = n) (hy : ys.length = n) (wx : ∀ z ∈ xs, (Lit.int q z).wf = true) (wy : ∀ z ∈ ys, (Lit.int q z).wf = true) (w : World) :
    (binOp .eql t (.agg (ints q xs).toArray) (.agg (ints q ys).toArray)).run P w = .ok (.bool (decide (xs = ys))) w := by
  have hf : ∀ zs : List Int, zs.length = n → (Value.agg (ints q zs).toArray).formed P t = true := fun zs hz => by
    simp [Value.formed, ht, hct, ints, hz]
  obtain ⟨r, hr, hiff⟩ := run_equalIn_deep (P := P) 9998 2 t hk w 2 2 (.agg (ints q xs).toArray) (.agg (ints q ys).toArray) _ _ (hf xs hx) (hf ys hy)
    (by simpa [Value.cells] using keyLits_ints ht he hct hce 0 xs hx wx) (by simpa [Value.cells] using keyLits_ints ht he hct hce 0 ys hy wy)
  rw [ints_inj] at hiff
  have hd : r = decide (xs = ys) := by
    rw [Bool.eq_iff_iff, hiff, decide_eq_true_iff]
  rw [run_eql_struct, hr, hd]
  rfl
/-- '==' of two arrays of integers. -/
theorem run_equalIn_ints {t e : TypeId} {n : Nat} {q : IntKind} (ht : P.underlying t = some (.array n e)) (he : P.underlying e = some (.int q)) (hct : P.cellsOf t = n) (hce : P.cellsOf e = 1) (hk : P.keyTypeAt 2 t = true)
    (xs ys : List Int) (hx : xs.length = n) (hy : ys.length = n) (wx : ∀ z ∈ xs, (Lit.int q z).wf = true) (wy : ∀ z ∈ ys, (Lit.int q z).wf = true) (w : World) :
    (Op.equalIn 10000 t (.agg (ints q xs).toArray) (.agg (ints q ys).toArray)).run P w = .ok (decide (xs = ys)) w := by
  have hf : ∀ zs : List Int, zs.length = n → (Value.agg (ints q zs).toArray).formed P t = true := fun zs hz => by
    simp [Value.formed, ht, hct, ints, hz]
  obtain ⟨r, hr, hiff⟩ := run_equalIn_deep (P := P) 9998 2 t hk w 2 2 (.agg (ints q xs).toArray) (.agg (ints q ys).toArray) _ _ (hf xs hx) (hf ys hy)
    (by simpa [Value.cells] using keyLits_ints ht he hct hce 0 xs hx wx) (by simpa [Value.cells] using keyLits_ints ht he hct hce 0 ys hy wy)
  rw [ints_inj] at hiff
  have hd : r = decide (xs = ys) := by
    rw [Bool.eq_iff_iff, hiff, decide_eq_true_iff]
  rw [hr, hd]

end
end

section
open Go.RowKit
set_option linter.unusedVariables false

/-- A row that is known whole, as a slice of bytes. -/
theorem sl_of_wh {w : World} {g : Nat} {t : TypeId} {l : List UInt8} (h : Wh w g t (bRow l)) : Sl w w.heap.size (some ⟨g, 0, none⟩) l := by
  intro _
  refine ⟨g, 0, rfl, h.lt, fun i v hv => ?_⟩
  rw [Nat.zero_add, h.cell, bRow, List.getElem?_toArray]
  exact hv

/-- One part. -/
theorem one_part {w : World} {A : Option Addr} {c : Nat} {l : List UInt8} (h1 : l.length ≤ c) (h2 : c ≤ maxLen) (h3 : Sl w w.heap.size A l) :
    [Value.slice A l.length c].length = [l].length ∧ ∀ (i : Nat) (v : Value) (m : List UInt8), [Value.slice A l.length c][i]? = some v → [l][i]? = some m → ∃ A' c', v = .slice A' m.length c' ∧ m.length ≤ c' ∧ c' ≤ maxLen ∧ Sl w w.heap.size A' m := by
  refine ⟨rfl, fun i v m hv hm => ?_⟩
  rcases i with _ | i
  · obtain rfl := Option.some.inj hv
    obtain rfl := Option.some.inj hm
    exact ⟨A, c, rfl, h1, h2, h3⟩
  · cases hv

theorem wh_second (w : World) (o : Obj) (t : TypeId) (cs : Array Value) : Wh ((w.alloc o).alloc (.cells cs t)) (w.heap.size + 1) t cs := by
  have h := Wh.new (w.alloc o) t cs
  rwa [show (w.alloc o).heap.size = w.heap.size + 1 by simp] at h

/-- Sum of a list of texts that the call has just laid. -/
theorem sum_of (ks : List W32) (ps : List (List UInt8)) (vs : List Value) (n : Nat) (w : World) (hks : ks.length = 64) (hK : KT w ks) (hKb : 0 < w.heap.size) (hvn : vs.length = n) (hn : n ≤ 1000)
    (hP : vs.length = ps.length ∧ ∀ (i : Nat) (v : Value) (l : List UInt8), vs[i]? = some v → ps[i]? = some l → ∃ A c, v = .slice A l.length c ∧ l.length ≤ c ∧ c ≤ maxLen ∧ Sl w w.heap.size A l) (hmax : ps.flatten.length ≤ 16000000) :
    Calls Tryd.prog 75 #[.slice (some ⟨w.heap.size, 0, none⟩) n n] (w.alloc (.cells vs.toArray 28)) fun e w' => e = .returned (.agg (bRow (sumK ks ps.flatten))) ∧ Below w.heap.size w w' := by
  have hb : Below w.heap.size w (w.alloc (.cells vs.toArray 28)) := (Below.refl _ _).alloc (Nat.le_refl _) _
  have hA : Sv (w.alloc (.cells vs.toArray 28)) (w.alloc (.cells vs.toArray 28)).heap.size (some ⟨w.heap.size, 0, none⟩) vs := by
    intro _
    refine ⟨w.heap.size, 0, rfl, by simp, fun i v hv => ?_⟩
    rw [Nat.zero_add, (Wh.new w 28 vs.toArray).cell, List.getElem?_toArray]
    exact hv
  refine (sum_any ks ps vs _ n n _ hks (hK.below hKb hb) (Nat.lt_of_lt_of_le hKb hb.size) hA hvn (Nat.le_refl _) (by unfold maxLen; omega) ⟨hP.1, fun i v l hv hl => ?_⟩ hmax).mono ?_
  · obtain ⟨A, c, h1, h2, h3, h4⟩ := hP.2 i v l hv hl
    exact ⟨A, c, h1, h2, h3, (h4.below hb).keep hb.size (fun _ _ => rfl)⟩
  · rintro e w' ⟨rfl, h⟩
    exact ⟨rfl, hb.trans (h.mono hb.size)⟩

theorem yieldsIf_slice {P : Program} {ops : Array Oper} {S : World → Prop} {op : Oper} {a : Act} (hw : Region.wanted op (yielded ops a.tmps) = true) (ty : TypeId) (x : Operand) (lo hi mx : Option Operand) (ho : op.op = .slice ty x lo hi mx) (v : Value)
    (h : ∀ w, S w → (Instr.sliceAt ty (a.eval x) (lo.map a.eval) (hi.map a.eval) (mx.map a.eval)).run P w = .ok v w) : YieldsIf P ops S op v a :=
  .inl ⟨hw, fun w hw' => by
    unfold execOp
    simp only [ho, Sem.run_bind, h w hw', Result.andThen_ok, Sem.run_pure]⟩
theorem act_normS {P : Program} {md : Region.Mode} {ops : Array Oper} {Q : Exit → Act → World → Prop} {S : World → Prop} {fuel : Nat} {listed : Array Bool} {a b : Act} {w : World} (h : a = b) (k : wpAnyH P md ops Q S fuel listed b w) : wpAnyH P md ops Q S fuel listed a w :=
  h ▸ k
theorem wanted_goS {o : Oper} {y : Nat → Option Bool} {A B : Prop} (h : Region.wanted o y = true) (k : A) : if Region.wanted o y = true then A else B := by rw [if_pos h]; exact k
theorem yieldsIf_strS {P : Program} {ops : Array Oper} {S : World → Prop} {op : Oper} {a : Act} (hw : Region.wanted op (yielded ops a.tmps) = true) (src dst e : TypeId) (x : Operand) (ho : op.op = .convert src dst x)
    (hs : P.underlying src = some (.slice e)) (he : P.underlying e = some (.int .u8)) (hd : P.underlying dst = some .string) (B : Nat) (A : Option Addr) (n c : Nat) (l : List UInt8) (hx : a.eval x = .slice A n c) (hn : l.length = n) (hS : ∀ w, S w → Sl w B A l) :
    YieldsIf P ops S op (.string (strB l)) a :=
  .inl ⟨hw, fun w hw' => by
    unfold execOp
    simp only [ho, hx, Sem.run_bind, run_string_sl w src dst e hs he hd B A n c l (hS w hw') hn, Result.andThen_ok, Sem.run_pure]⟩
theorem bRow_ints (l : List UInt8) : bRow l = (ints .u8 (l.map fun x => (x.toNat : Int))).toArray := by
  unfold bRow ints
  rw [List.map_map]
  rfl
theorem bytes_wf (l : List UInt8) : ∀ z ∈ l.map (fun x => (x.toNat : Int)), (Lit.int .u8 z).wf = true := by
  intro z hz
  obtain ⟨x, _, rfl⟩ := List.mem_map.1 hz
  have := x.toNat_lt
  simp only [Lit.wf, Bool.and_eq_true, decide_eq_true_eq]
  refine ⟨?_, ?_⟩ <;> simp [IntKind.min, IntKind.max, IntKind.signed, IntKind.bits] <;> omega
set_option maxRecDepth 100000 in
set_option maxRecDepth 100000 in
/-- '==' of two sums. -/
theorem eq_sums (a b : List UInt8) (ha : a.length = 32) (hb : b.length = 32) (w : World) : (Op.equalIn 10000 22 (.agg (bRow a)) (.agg (bRow b))).run Tryd.prog w = .ok (decide (a = b)) w := by
  rw [bRow_ints, bRow_ints]
  have h := run_equalIn_ints (P := Tryd.prog) (q := .u8) (n := 32) Tryd.underlying22 Tryd.underlying5 (by kernel_rfl) (by kernel_rfl) (by kernel_rfl) (a.map fun x => (x.toNat : Int)) (b.map fun x => (x.toNat : Int)) (by simpa using ha) (by simpa using hb) (bytes_wf a) (bytes_wf b) w
  rw [h]
  congr 1
  rw [Bool.eq_iff_iff, decide_eq_true_iff, decide_eq_true_iff]
  constructor
  · intro h
    apply List.map_inj_right (f := fun x : UInt8 => (x.toNat : Int)) (fun x y h => UInt8.toNat_inj.1 (by omega)) |>.1 h
  · rintro rfl; rfl
/-- The address of 's[k:]'. -/
def cutA (A : Option Addr) (c k : Nat) : Option Addr := if c = k then A else A.map fun x => x.add k
/-- A part that is cut out. -/
theorem part_cut {w : World} {B : Nat} {A : Option Addr} {l : List UInt8} {len c k n : Nat} (h : Sl w B A l) (hl : l.length = len) (hlc : len ≤ c) : Sl w B (cutA A c k) ((l.drop k).take n) := by
  have h1 := Sv.cut h k n c (by rw [List.length_map, hl]; exact hlc)
  unfold Sl
  rw [List.map_take, List.map_drop]
  exact h1

theorem row_rangeS {w : World} {g : Nat} {t : TypeId} {R : Array Value} (h : Wh w g t R) : w.rangeAt g 0 R.toList := fun j v hv => by
  rw [Nat.zero_add, h.cell]
  simpa using hv

set_option maxRecDepth 100000 in
theorem run_cut1 (A : Option Addr) (len c k : Nat) (h : k ≤ c) (w : World) : (Instr.sliceAt 28 (.slice A len c) none (some (.int .i64 (k : Int))) none).run Tryd.prog w = .ok (.slice A k c) w := by
  have hu : Tryd.prog.underlying 28 = some (.slice (Tryd.prog.elem 28)) := by kernel_rfl
  have h1 : (sizeOf (Tryd.prog.elem 28)).run Tryd.prog w = .ok 1 w := by kernel_rfl
  rw [run_sliceAt_slice w _ _ _ _ _ hu, run_slice_h w _ A len c hu .i64 (k : Int) (by omega) (by omega), h1]
  simp only [Result.andThen_ok, sliced, Int.toNat_natCast, Nat.zero_mul, Nat.sub_zero]
  congr 2
  split
  · rfl
  · cases A <;> simp [Addr.add]
set_option maxRecDepth 100000 in
theorem run_cut2 (A : Option Addr) (len c k h' : Nat) (h : k ≤ h') (h2 : h' ≤ c) (w : World) : (Instr.sliceAt 28 (.slice A len c) (some (.int .i64 (k : Int))) (some (.int .i64 (h' : Int))) none).run Tryd.prog w = .ok (.slice (cutA A c k) (h' - k) (c - k)) w := by
  have hu : Tryd.prog.underlying 28 = some (.slice (Tryd.prog.elem 28)) := by kernel_rfl
  have h1 : (sizeOf (Tryd.prog.elem 28)).run Tryd.prog w = .ok 1 w := by kernel_rfl
  rw [run_sliceAt_slice w _ _ _ _ _ hu, run_slice_lh w _ A len c hu .i64 .i64 (k : Int) (h' : Int) (by omega) (by omega) (by omega), h1]
  simp only [Result.andThen_ok, sliced, Int.toNat_natCast, Nat.mul_one, cutA]
set_option maxRecDepth 100000 in
theorem run_cut3 (A : Option Addr) (len c k : Nat) (h : k ≤ len) (h2 : len ≤ c) (w : World) : (Instr.sliceAt 28 (.slice A len c) (some (.int .i64 (k : Int))) none none).run Tryd.prog w = .ok (.slice (cutA A c k) (len - k) (c - k)) w := by
  have hu : Tryd.prog.underlying 28 = some (.slice (Tryd.prog.elem 28)) := by kernel_rfl
  have h1 : (sizeOf (Tryd.prog.elem 28)).run Tryd.prog w = .ok 1 w := by kernel_rfl
  rw [run_sliceAt_slice w _ _ _ _ _ hu, run_slice_l w _ A len c hu .i64 (k : Int) (by omega) (by omega), h1]
  simp only [Result.andThen_ok, sliced, Int.toNat_natCast, Nat.mul_one, cutA]
end
end Go.Proofs.YtbnnjkjmadnjkaaDoor
