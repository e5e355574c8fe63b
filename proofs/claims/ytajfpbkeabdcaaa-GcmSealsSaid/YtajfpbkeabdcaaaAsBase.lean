/-
  Words for blocks of 16 bytes: loads, builds, '==', what stood and stands; the document's example reckoned.
-/
import Derived.Deep.CutRange
import Derived.Lib.SlBytesConst
import Derived.Test.YtajfpbkeabdcaaaEq
import Derived.Test.YtajfpbkeabdcaaaAsSeal
namespace Go.Proofs.Ytajfpbkeabdcaaa
open Go.RowKit
set_option linter.unusedVariables false

def kvN : Nat → List UInt8
  | 0 => List.replicate 16 0
  | k + 1 => (kvN k).set k (UInt8.ofNat k)
def bvN : Nat → List UInt8
  | 0 => List.replicate 16 0
  | k + 1 => (bvN k).set k (UInt8.ofNat (17 * k))
theorem kvN_len (k : Nat) : (kvN k).length = 16 := by
  induction k with
  | zero => rfl
  | succ k ih => simp [kvN, ih]
theorem bvN_len (k : Nat) : (bvN k).length = 16 := by
  induction k with
  | zero => rfl
  | succ k ih => simp [bvN, ih]
def exOut : List UInt8 := [105, 196, 224, 216, 106, 123, 4, 48, 216, 205, 183, 128, 112, 180, 197, 90]
theorem ex_out : seL (ksL (kvN 16)) (bvN 16) = exOut := by decide +kernel
theorem ex_sub : sB 0 = 99 ∧ sB 83 = 237 ∧ sB 255 = 22 := by decide +kernel

/-- All that stood at a world stands. -/
def SinceA (w0 wr : World) : Prop := Below w0.heap.size w0 wr
theorem SinceA.self (w : World) : SinceA w w := Below.refl _ _
theorem SinceA.trans {a b c : World} (h : SinceA a b) (k : SinceA b c) : SinceA a c := Below.trans h (k.mono h.size)
theorem SinceA.wh {a b : World} (h : SinceA a b) {g : Nat} {t : TypeId} {cs : Array Value} (hw : Wh a g t cs) : Wh b g t cs := hw.below h hw.lt
theorem kv_byte {k : Nat} (h : k < 16) : (k : Int) = ((UInt8.ofNat k).toNat : Int) := by
  have e : (UInt8.ofNat k).toNat = k := by simp; omega
  rw [e]
theorem bv_byte {k : Nat} (h : k < 16) : 17 * (k : Int) = ((UInt8.ofNat (17 * k)).toNat : Int) := by
  have e : (UInt8.ofNat (17 * k)).toNat = 17 * k := by simp; omega
  rw [e]
  omega
theorem zlen : (List.replicate 16 (0 : UInt8)).length = 16 := rfl
theorem sl_of_whA {w : World} {g : Nat} {t : TypeId} {l : List UInt8} (h : Wh w g t (aRow l)) : Sl w w.heap.size (some ⟨g, 0, none⟩) l := by
  intro _
  refine ⟨g, 0, rfl, h.lt, fun i v hv => ?_⟩
  rw [Nat.zero_add, h.cell, aRow, List.getElem?_toArray]
  exact hv

theorem wpList_load_blkG {ops : Array Oper} {rest : List Oper} {op : Oper} {a : Act} {w : World} {Q : Exit → Act → World → Prop} (x : Operand) (ho : op.op = .load 22 x) (hw : Region.wanted op (yielded ops a.tmps) = true)
    (b o : Nat) (hx : a.eval x = .pointer (some ⟨b, o, none⟩)) (l : List UInt8) (hl : l.length = 16) (hc : w.rangeAt b o (l.map cell8))
    (h : wpList Try.prog ops Q rest (a.put op.dst (.agg (aRow l))) w) : wpList Try.prog ops Q (op :: rest) a w :=
  wpList_step fun K hK => by
    rw [if_pos hw]
    exact wp_load_mid 22 x ho b o hx (l.map cell8) _ hc Try.underlying22 rfl (by rw [List.length_map, hl]; exact info_a16) (hK _ _ h)
theorem wpList_built0G {P : Program} {ops : Array Oper} {rest : List Oper} {o : Oper} {a : Act} {w : World} {Q : Exit → Act → World → Prop} (t : TypeId) (ho : o.op = .build t #[]) (hw : Region.wanted o (yielded ops a.tmps) = true)
    (cells : Array Value) (hb : P.built t [] = some cells)
    (h : wpList P ops Q rest (a.put o.dst (.agg cells)) w) : wpList P ops Q (o :: rest) a w := by
  have e : ((#[] : Array (Nat × Operand)).map fun (i, x) => (i, a.eval x)).toList = [] := by simp
  exact wpList_step fun K hK => by
    rw [if_pos hw]
    exact wp_build t #[] ho (by rw [e, hb]; rfl) (by rw [e, hb]; exact hK _ _ h)
theorem aRow_ints (l : List UInt8) : aRow l = (ints .u8 (l.map fun x => (x.toNat : Int))).toArray := by
  unfold aRow ints
  rw [List.map_map]
  rfl
theorem bytes_wfA (l : List UInt8) : ∀ z ∈ l.map (fun x => (x.toNat : Int)), (Lit.int .u8 z).wf = true := by
  intro z hz
  obtain ⟨x, _, rfl⟩ := List.mem_map.1 hz
  have := x.toNat_lt
  simp only [Lit.wf, Bool.and_eq_true, decide_eq_true_eq]
  refine ⟨?_, ?_⟩ <;> simp [IntKind.min, IntKind.max, IntKind.signed, IntKind.bits] <;> omega
/-- '==' of two blocks. -/
theorem eq_blks (a b : List UInt8) (ha : a.length = 16) (hb : b.length = 16) (w : World) : (Op.equalIn 10000 22 (.agg (aRow a)) (.agg (aRow b))).run Try.prog w = .ok (decide (a = b)) w := by
  rw [aRow_ints, aRow_ints]
  have h := run_equalIn_ints (P := Try.prog) (q := .u8) (n := 16) Try.underlying22 Try.underlying5 (by kernel_rfl) (by kernel_rfl) (by kernel_rfl) (a.map fun x => (x.toNat : Int)) (b.map fun x => (x.toNat : Int)) (by simpa using ha) (by simpa using hb) (bytes_wfA a) (bytes_wfA b) w
  rw [h]
  congr 1
  rw [decide_eq_decide]
  exact ⟨fun e => List.map_inj_right (fun x y h => b_inj h) |>.1 e, fun e => by rw [e]⟩
theorem sub_ex0 (w : World) : Calls Try.prog 43 #[.int .u8 0] w fun e w' => e = .returned (.int .u8 99) ∧ w = w' := by
  have h := sub_any 0 w
  rw [ex_sub.1] at h
  exact h
theorem sub_ex1 (w : World) : Calls Try.prog 43 #[.int .u8 83] w fun e w' => e = .returned (.int .u8 237) ∧ w = w' := by
  have h := sub_any 83 w
  rw [ex_sub.2.1] at h
  exact h
theorem sub_ex2 (w : World) : Calls Try.prog 43 #[.int .u8 255] w fun e w' => e = .returned (.int .u8 22) ∧ w = w' := by
  have h := sub_any 255 w
  rw [ex_sub.2.2] at h
  exact h

end Go.Proofs.Ytajfpbkeabdcaaa
