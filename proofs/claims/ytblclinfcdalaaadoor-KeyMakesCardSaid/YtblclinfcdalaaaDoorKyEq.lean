/-
  '==' of keys, and of tokens, that are equal.
-/
import Derived.Test.YtblclinfcdalaaaDoorEq
import Derived.Test.YtblclinfcdalaaaDoorKyTok
namespace Go.Proofs.YtblclinfcdalaaaDoor
open Go.RowKit
set_option linter.unusedVariables false

theorem cells_ints (l : List UInt8) : l.map cell8 = ints .u8 (l.map fun x => (x.toNat : Int)) := by
  unfold ints
  rw [List.map_map]
  rfl
theorem c32 : Tryd.prog.cellsOf 22 = 32 := by kernel_rfl
theorem c16 : Tryd.prog.cellsOf 26 = 16 := by kernel_rfl
theorem c12 : Tryd.prog.cellsOf 27 = 12 := by kernel_rfl
theorem c8 : Tryd.prog.cellsOf 5 = 1 := by kernel_rfl
theorem c64 : Tryd.prog.cellsOf 24 = 1 := by kernel_rfl
theorem cky : Tryd.prog.cellsOf 29 = 77 := by kernel_rfl
theorem lits32 (d : Nat) (l : List UInt8) (hl : l.length = 32) : Tryd.prog.keyLits (d + 2) 22 (l.map cell8) = some ((l.map fun x => (x.toNat : Int)).map fun z => Lit.int .u8 z) := by
  rw [cells_ints]
  exact keyLits_ints Tryd.underlying22 Tryd.underlying5 c32 c8 d _ (by simpa using hl) (bytes_wf l)
theorem lits16 (d : Nat) (l : List UInt8) (hl : l.length = 16) : Tryd.prog.keyLits (d + 2) 26 (l.map cell8) = some ((l.map fun x => (x.toNat : Int)).map fun z => Lit.int .u8 z) := by
  rw [cells_ints]
  exact keyLits_ints Tryd.underlying26 Tryd.underlying5 c16 c8 d _ (by simpa using hl) (bytes_wf l)
theorem lits12 (d : Nat) (l : List UInt8) (hl : l.length = 12) : Tryd.prog.keyLits (d + 2) 27 (l.map cell8) = some ((l.map fun x => (x.toNat : Int)).map fun z => Lit.int .u8 z) := by
  rw [cells_ints]
  exact keyLits_ints Tryd.underlying27 Tryd.underlying5 c12 c8 d _ (by simpa using hl) (bytes_wf l)
theorem seg_at {a b c : List Value} {n m : Nat} (hn : a.length = n) (hm : b.length = m) : ((a ++ (b ++ c)).drop n).take m = b := by
  rw [List.drop_left' hn, List.take_left' hm]
theorem lits_u64 (d n : Nat) (h : n < 18446744073709551616) : Tryd.prog.keyLits (d + 1) 24 [.int .u64 (n : Int)] = some [.int .u64 (n : Int)] := by
  unfold Program.keyLits
  simp only [Tryd.underlying24]
  rw [if_pos ⟨trivial, by simp [Lit.wf, IntKind.min, IntKind.max, IntKind.signed, IntKind.bits]; omega⟩]
set_option maxRecDepth 100000 in
theorem ky_lits (k : KS) (h : k.Ok) : ∃ l, Tryd.prog.keyLits 3 29 (kyL k) = some l := by
  have s0 : ((kyL k).drop 0).take 32 = k.sec.map cell8 := seg_at (a := []) rfl (by simp [h.sec])
  have s1 : ((kyL k).drop 32).take 16 = k.key.map cell8 := seg_at (by simp [h.sec]) (by simp [h.key])
  have s2 : ((kyL k).drop 48).take 12 = k.iv.map cell8 := by
    have := seg_at (a := k.sec.map cell8 ++ k.key.map cell8) (b := k.iv.map cell8) (c := k.hp.map cell8 ++ [.int .u64 (k.ph : Int)]) (n := 48) (m := 12) (by simp [h.sec, h.key]) (by simp [h.iv])
    simpa [kyL] using this
  have s3 : ((kyL k).drop 60).take 16 = k.hp.map cell8 := by
    have := seg_at (a := k.sec.map cell8 ++ (k.key.map cell8 ++ k.iv.map cell8)) (b := k.hp.map cell8) (c := [.int .u64 (k.ph : Int)]) (n := 60) (m := 16) (by simp [h.sec, h.key, h.iv]) (by simp [h.hp])
    simpa [kyL] using this
  have s4 : ((kyL k).drop 76).take 1 = [.int .u64 (k.ph : Int)] := by
    have := seg_at (a := k.sec.map cell8 ++ (k.key.map cell8 ++ (k.iv.map cell8 ++ k.hp.map cell8))) (b := [.int .u64 (k.ph : Int)]) (c := []) (n := 76) (m := 1) (by simp [h.sec, h.key, h.iv, h.hp]) rfl
    simpa [kyL] using this
  have hl := h.len
  generalize kyL k = L at *
  unfold Program.keyLits
  simp only [Tryd.underlying29]
  rw [if_pos ⟨by rw [hl, cky], by kernel_rfl⟩]
  simp only [List.mapM_cons, List.mapM_nil, c32, c16, c12, c64, s0, s1, s2, s3, s4, lits32 0 _ h.sec, lits16 0 _ h.key, lits12 0 _ h.iv, lits16 0 _ h.hp, lits_u64 1 _ h.ph]
  exact ⟨_, rfl⟩
set_option maxRecDepth 100000 in
/-- Keys are equal to themselves. -/
theorem eq_ky (k : KS) (h : k.Ok) (w : World) : (Op.equalIn 10000 29 (.agg (kyRow k)) (.agg (kyRow k))).run Tryd.prog w = .ok true w := by
  obtain ⟨l, hl⟩ := ky_lits k h
  have hf : (Value.agg (kyRow k)).formed Tryd.prog 29 = true := by
    simp [Value.formed, Tryd.underlying29, cky, h.size]
  obtain ⟨r, hr, hiff⟩ := run_equalIn_deep (P := Tryd.prog) 9997 3 29 (by kernel_rfl) w 3 3 (.agg (kyRow k)) (.agg (kyRow k)) l l hf hf
    (by simpa [Value.cells, kyRow] using hl) (by simpa [Value.cells, kyRow] using hl)
  rw [hiff.2 rfl] at hr
  exact hr
set_option maxRecDepth 100000 in
/-- A token is equal to itself. -/
theorem eq_tok (a : List UInt8) (ha : a.length = 16) (w : World) : (Op.equalIn 10000 35 (.agg (bRow a)) (.agg (bRow a))).run Tryd.prog w = .ok true w := by
  rw [bRow_ints]
  have h := run_equalIn_ints (P := Tryd.prog) (q := .u8) (n := 16) Tryd.underlying35 Tryd.underlying5 (by kernel_rfl) (by kernel_rfl) (by kernel_rfl) (a.map fun x => (x.toNat : Int)) (a.map fun x => (x.toNat : Int)) (by simpa using ha) (by simpa using ha) (bytes_wf a) (bytes_wf a) w
  rw [h, decide_eq_true rfl]
/-- '==' of two that are equal, as an operation of a region that draws its order. -/
theorem yields_eqlK {P : Program} {ops : Array Oper} {S : World → Prop} {op : Oper} {a : Act} (hw : Region.wanted op (yielded ops a.tmps) = true) (t u : TypeId) (x y : Operand) (ho : op.op = .binOp .eql t x y u)
    (xs ys : Array Value) (hx : a.eval x = .agg xs) (hy : a.eval y = .agg ys) (hm : P.eqGuardType P.depth t = false) (h : ∀ w, (Op.equalIn 10000 t (.agg xs) (.agg ys)).run P w = .ok true w) : YieldsIf P ops S op (.bool true) a :=
  .inl ⟨hw, fun w hw' => by
    unfold execOp
    simp only [ho, hx, hy, Sem.run_bind, run_eqGuard_agg w .eql t x y xs ys hm, run_eql_struct, h w, Result.andThen_ok, Sem.run_pure]⟩
end Go.Proofs.YtblclinfcdalaaaDoor
