/-
  Words for blocks that are known whole, and for slices that lie apart from a block. No program is named here.
  A step law for a region that draws its order: append of a slice that reads, whatever its address, to a row of the call's own. No program is named here.
  make([]T, m, n): m zero values, room for n. No program is named here.
  The walks through aes.twice, aes.Sub, hostlerref08.Times, hostlerref08.Sub.
  Words for rows of bytes in memory: arrays of 16 bytes, of eleven such arrays, and byte slices of the call's own.
  An alloc and a literal of a great type, by what they hold. No program is named here.
-/
import Derived.Test.YtbnnjkjmadnjkaaDoorSk2
import Derived.Deep.RegionLaw
import Derived.Deep.RegionHeld3
import Derived.OwnWalk
import Derived.Deep.OwnRows
import Derived.IntWalk
import Derived.Test.YtbnnjkjmadnjkaaDoorProg
import Derived.KernelRfl
import Derived.WalkSpells
import Derived.WalkLawsBesides
import Derived.Deep.QuietTactic
import Derived.BigQuiet
import Derived.Deep.DeepCutAuto
import Derived.Deep.RegionWith
import Derived.Deep.WholeRow
import Derived.Deep.MidRow
import Derived.Laws.CopyOwn
import Derived.Test.YtbnnjkjmadnjkaaDoorSk0
namespace Go.Proofs.YtbnnjkjmadnjkaaDoor
section
open Go.RowKit

/-- A store into a block turns no other one. -/
theorem grown_set (w : World) (g i : Nat) (u : Value) : w.grownBy (w.setCell ⟨g, i, none⟩ u) (some g) :=
  ⟨rfl, rfl, rfl, by simp [World.setCell], fun k hk hne => Below.heap_setCell w ⟨g, i, none⟩ u k (fun e => hne (by rw [e]))⟩

theorem grown_trans {a b c : World} {row : Option Nat} (h : a.grownBy b row) (k : b.grownBy c row) : a.grownBy c row :=
  ⟨k.os.trans h.os, k.tape.trans h.tape, k.output.trans h.output, Nat.le_trans h.size k.size, fun i hi hne => (k.block i (Nat.lt_of_lt_of_le hi h.size) hne).trans (h.block i hi hne)⟩

theorem grown_below {a b : World} {row : Option Nat} (h : Below a.heap.size a b) : a.grownBy b row :=
  ⟨h.os, h.tape, h.output, h.size, fun k hk _ => h.block k hk⟩

/-- A block that is known whole. -/
def Wh (w : World) (g : Nat) (t : TypeId) (cs : Array Value) : Prop := w.heap[g]? = some (.cells cs t (0, 0))

theorem Wh.lt {w : World} {g : Nat} {t : TypeId} {cs : Array Value} (h : Wh w g t cs) : g < w.heap.size := by
  rcases Nat.lt_or_ge g w.heap.size with hlt | hge
  · exact hlt
  · unfold Wh at h; rw [Array.getElem?_eq_none hge] at h; cases h
theorem Wh.cell {w : World} {g : Nat} {t : TypeId} {cs : Array Value} (h : Wh w g t cs) (i : Nat) : w.cell? ⟨g, i, none⟩ = cs[i]? := cell_of_row w g i cs t (0, 0) h
theorem Wh.frozen {w : World} {g : Nat} {t : TypeId} {cs : Array Value} (h : Wh w g t cs) (i : Nat) : w.frozen? ⟨g, i, none⟩ = false := by
  unfold Wh at h
  simp [World.frozen?, h]
theorem Wh.new (w : World) (t : TypeId) (cs : Array Value) : Wh (w.alloc (.cells cs t)) w.heap.size t cs := heap_alloc_new w _
theorem Wh.alloc {w : World} {g : Nat} {t : TypeId} {cs : Array Value} (h : Wh w g t cs) (o : Obj) : Wh (w.alloc o) g t cs := (Below.heap_alloc w o g h.lt).trans h
theorem Wh.put {w : World} {g : Nat} {t : TypeId} {cs : Array Value} (h : Wh w g t cs) (i : Nat) (u : Value) : Wh (w.setCell ⟨g, i, none⟩ u) g t (cs.setIfInBounds i u) := by
  unfold Wh at h ⊢
  simp [World.setCell, Array.getElem?_modify, h]
theorem Wh.far {w : World} {g : Nat} {t : TypeId} {cs : Array Value} (h : Wh w g t cs) {p : Addr} (hp : g ≠ p.block) (u : Value) : Wh (w.setCell p u) g t cs := (Below.heap_setCell w p u g hp).trans h
theorem Wh.below {w w' : World} {g B : Nat} {t : TypeId} {cs : Array Value} (h : Wh w g t cs) (hb : Below B w w') (hg : g < B) : Wh w' g t cs := (hb.block g hg).trans h
theorem Wh.grown {w w' : World} {g : Nat} {row : Option Nat} {t : TypeId} {cs : Array Value} (h : Wh w g t cs) (hb : w.grownBy w' row) (hg : some g ≠ row) : Wh w' g t cs := (hb.block g h.lt hg).trans h

/-- The slice at A reads as the values xs, and lies outside block g. -/
def Sx (w : World) (g : Nat) (A : Option Addr) (xs : List Value) : Prop :=
  xs ≠ [] → ∃ b off, A = some ⟨b, off, none⟩ ∧ b < w.heap.size ∧ b ≠ g ∧ ∀ i v, xs[i]? = some v → w.cell? ⟨b, off + i, none⟩ = some v

theorem Sx.nil (w : World) (g : Nat) (A : Option Addr) : Sx w g A [] := fun h => absurd rfl h

theorem Sx.grown {w w' : World} {g : Nat} {A : Option Addr} {xs : List Value} (h : Sx w g A xs) (hb : w.grownBy w' (some g)) : Sx w' g A xs := by
  intro hn
  obtain ⟨b, off, rfl, hlt, hne, hc⟩ := h hn
  exact ⟨b, off, rfl, Nat.lt_of_lt_of_le hlt hb.size, hne, fun i v hv => (World.cell?_of_block (hb.block b hlt (fun e => hne (Option.some.inj e)))).trans (hc i v hv)⟩

theorem Sx.sv {w : World} {g : Nat} {A : Option Addr} {xs : List Value} (h : Sx w g A xs) : Sv w w.heap.size A xs := by
  intro hn
  obtain ⟨b, off, rfl, hlt, _, hc⟩ := h hn
  exact ⟨b, off, rfl, hlt, hc⟩

theorem Sx.of {w : World} {B g : Nat} {A : Option Addr} {xs : List Value} (h : Sv w B A xs) (hB : B ≤ g) (hg : g < w.heap.size) : Sx w g A xs := by
  intro hn
  obtain ⟨b, off, rfl, hlt, hc⟩ := h hn
  exact ⟨b, off, rfl, by omega, by omega, hc⟩

/-- What a call made in memory of its own lies outside every elder block. -/
theorem Sx.of_own {w : World} {base g : Nat} {e : TypeId} {A : Option Addr} {n c : Nat} {xs : List Value} (h : w.ownsRow base e 1 (.slice A n c) n xs) (hg : g < base) : Sx w g A xs := by
  intro hn
  obtain ⟨b, off, rfl, hb, hc⟩ := Sv.of_own h hn
  refine ⟨b, off, rfl, hb, ?_, hc⟩
  rcases h.2 with ⟨_, hz⟩ | ⟨k, cap, cur, hv, hbk, _⟩
  · subst hz
    have := h.1
    simp at this
    exact absurd this hn
  · simp only [Value.slice.injEq, Option.some.injEq, Addr.mk.injEq] at hv
    omega

theorem Sx.below {w w' : World} {g : Nat} {A : Option Addr} {xs : List Value} (h : Sx w g A xs) (hb : Below w.heap.size w w') : Sx w' g A xs := h.grown (grown_below hb)

/-- The slice at A reads as the values xs, and lies at block lo or behind it. -/
def Sy (w : World) (lo : Nat) (A : Option Addr) (xs : List Value) : Prop :=
  xs ≠ [] → ∃ b off, A = some ⟨b, off, none⟩ ∧ lo ≤ b ∧ b < w.heap.size ∧ ∀ i v, xs[i]? = some v → w.cell? ⟨b, off + i, none⟩ = some v

theorem Sy.nil (w : World) (lo : Nat) (A : Option Addr) : Sy w lo A [] := fun h => absurd rfl h

theorem Sy.grown {w w' : World} {lo : Nat} {row : Option Nat} {A : Option Addr} {xs : List Value} (h : Sy w lo A xs) (hb : w.grownBy w' row) (hr : ∀ g, row = some g → g < lo) : Sy w' lo A xs := by
  intro hn
  obtain ⟨b, off, rfl, hlo, hlt, hc⟩ := h hn
  exact ⟨b, off, rfl, hlo, Nat.lt_of_lt_of_le hlt hb.size, fun i v hv => (World.cell?_of_block (hb.block b hlt (fun e => by have := hr b e.symm; omega))).trans (hc i v hv)⟩

theorem Sy.sv {w : World} {lo : Nat} {A : Option Addr} {xs : List Value} (h : Sy w lo A xs) : Sv w w.heap.size A xs := by
  intro hn
  obtain ⟨b, off, rfl, _, hlt, hc⟩ := h hn
  exact ⟨b, off, rfl, hlt, hc⟩

theorem Sy.mono {w : World} {lo lo' : Nat} {A : Option Addr} {xs : List Value} (h : Sy w lo A xs) (hl : lo' ≤ lo) : Sy w lo' A xs := by
  intro hn
  obtain ⟨b, off, rfl, h1, hlt, hc⟩ := h hn
  exact ⟨b, off, rfl, by omega, hlt, hc⟩

theorem Sy.below {w w' : World} {lo : Nat} {A : Option Addr} {xs : List Value} (h : Sy w lo A xs) (hb : Below w.heap.size w w') : Sy w' lo A xs := h.grown (row := none) (grown_below hb) (by simp)

theorem Sy.of_own {w : World} {base lo : Nat} {e : TypeId} {A : Option Addr} {n c : Nat} {xs : List Value} (h : w.ownsRow base e 1 (.slice A n c) n xs) (hl : lo ≤ base) : Sy w lo A xs := by
  intro hn
  obtain ⟨b, off, rfl, hb, hc⟩ := Sv.of_own h hn
  refine ⟨b, off, rfl, ?_, hb, hc⟩
  rcases h.2 with ⟨_, hz⟩ | ⟨k, cap, cur, hv, hbk, _⟩
  · subst hz
    have := h.1
    simp at this
    exact absurd this hn
  · simp only [Value.slice.injEq, Option.some.injEq, Addr.mk.injEq] at hv
    omega

/-- A store into a block that is new since then. -/
theorem grown_far {a b : World} {row : Option Nat} (h : a.grownBy b row) {g : Nat} (hg : a.heap.size ≤ g) (i : Nat) (v : Value) : a.grownBy (b.setCell ⟨g, i, none⟩ v) row :=
  ⟨h.os, h.tape, h.output, by simpa [World.setCell] using h.size, fun k hk hne => (Below.heap_setCell b ⟨g, i, none⟩ v k (by simp; omega)).trans (h.block k hk hne)⟩

theorem grown_alloc {a b : World} {row : Option Nat} (h : a.grownBy b row) (o : Obj) : a.grownBy (b.alloc o) row :=
  ⟨h.os, h.tape, h.output, by have := h.size; simp; omega, fun k hk hne => (Below.heap_alloc b o k (by have := h.size; omega)).trans (h.block k hk hne)⟩

theorem below_drewN {B : Nat} {a w : World} (h : Below B a w) (n : Nat) : Below B a (w.drewN n) := by
  induction n with
  | zero => exact h
  | succ n ih => exact ih.drew

theorem grown_drewN {a w : World} {row : Option Nat} (h : a.grownBy w row) (n : Nat) : a.grownBy (w.drewN n) row := grown_trans h (grown_below (below_drewN (Below.refl _ _) _))

theorem Wh.drewN {w : World} {g : Nat} {t : TypeId} {cs : Array Value} (h : Wh w g t cs) (n : Nat) : Wh (w.drewN n) g t cs := h.below (below_drewN (Below.refl _ _) _) h.lt
end

section
open Go.RowKit

theorem step_app_sv {P : Program} {ops : Array Oper} {o : Oper} {a : Act} {w : World} {K : Act → World → Prop} {Q : Exit → Act → World → Prop} {E : Prop} (hgd : o.guard = none) (s x : Operand) (t : TypeId)
    (ho : o.op = .call { callee := .builtin .append, args := #[s, x], argTypes := #[t, t] })
    (base : Nat) (e : TypeId) (i : TypeInfo) (z : Value) (bytes : Nat) (ht : P.underlying t = some (.slice e)) (hi : P.info? e = some i) (hz : i.zero = some z)
    (hsize : i.size = 1) (hby : i.bytes = bytes) (hzs : z.cells.size = 1)
    (v : Value) (n : Nat) (xs : List Value) (hs : a.eval s = v) (hown : w.ownsRow base e 1 v n xs)
    (B : Nat) (A : Option Addr) (m c : Nat) (news : List Value) (hx : a.eval x = .slice A m c) (hr : Sv w B A news) (hm : news.length = m) (h1 : ∀ u ∈ news, u.oneCell' = true)
    (h63 : n + m ≤ maxLen) (hbytes : (n + m) * bytes ≤ 140737488355328) (hbase : base ≤ w.heap.size)
    (h : ∀ v' w', w'.ownsRow base e 1 v' (n + m) (xs ++ news) → w.grownBy w' v.ownBlock → K (a.put o.dst v') w') :
    if Region.wanted o (yielded ops a.tmps) = true then Oper.wp P o a w K Q else E := by
  have hw : Region.wanted o (yielded ops a.tmps) = true := by simp [Region.wanted, hgd]
  rw [if_pos hw]
  obtain ⟨v', w', hrun, h2, h3, _⟩ := run_append_sv (P := P) w base t o.type e i z bytes ht hi hz hsize hby hzs v n xs hown B A m c news hr hm h1 h63 hbytes hbase
  unfold Oper.wp execOp
  simp only [ho, resolve, invoke, builtin, Sem.run_bind, Sem.run_pure, Result.andThen_ok, List.map_toArray, List.map_cons, List.map_nil, hs, hx, hrun]
  exact h v' w' h2 h3
end

section
open Go.RowKit

theorem madeCells_one (z : Value) (n : Nat) : madeCells #[z] n = (List.replicate n z).toArray := by
  apply Array.ext
  · simp [madeCells]
  · intro i h1 h2
    simp [madeCells, Nat.mod_one]

theorem wpList_make_mn {P : Program} (w : World) {ops : Array Oper} {rest : List Oper} {o : Oper} {a : Act} {Q : Exit → Act → World → Prop}
    (hg : o.guard = none) (l c : Operand) (t : TypeId) (hop : o.op = Op.makeSlice t l c)
    (e : TypeId) (i : TypeInfo) (z : Value) (ht : P.underlying t = some (.slice e)) (hi : P.info? e = some i) (hz : i.zero = some z) (hsize : i.size = 1) (hz1 : z.cells = #[z])
    (kl kc : IntKind) (M N : Int) (m n : Nat) (hl : a.eval l = .int kl M) (hc : a.eval c = .int kc N) (hM : M = (m : Int)) (hN : N = (n : Int)) (hmn : m ≤ n) (hbytes : i.bytes * n ≤ 281474976710656) (h63 : n ≤ 9223372036854775807)
    (hK : wpList P ops Q rest (a.put o.dst (.slice (some ⟨w.heap.size, 0, none⟩) m n)) (w.alloc (.cells (List.replicate n z).toArray e))) :
    wpList P ops Q (o :: rest) a w := by
  refine wpList_plain hg fun K hK' => ?_
  have hb' : (i.bytes : Int) * (n : Int) ≤ 281474976710656 := by
    have h : ((i.bytes * n : Nat) : Int) ≤ 281474976710656 := by omega
    rwa [Int.natCast_mul] at h
  have hr := run_make (P := P) w t e i z ht hi hz kl kc m n (by omega) (by omega) hb' (by omega)
  simp only [Int.toNat_natCast, hsize, Nat.mul_one, hz1, madeCells_one] at hr
  subst hM
  subst hN
  unfold Oper.wp
  simp [execOp, hop, hl, hc, hr, Result.andThen]
  exact hK' _ _ hK

/-- A row that is known whole, as one of the call's own. -/
theorem own_of_wh {w : World} {g : Nat} {t : TypeId} {l : List Value} (h : Wh w g t l.toArray) (base m n : Nat) (hb : base ≤ g) (hn : l.length = n) (hm : m ≤ n) (hx : n ≤ maxLen) :
    w.ownsRow base t 1 (.slice (some ⟨g, 0, none⟩) m n) m (l.take m) :=
  ⟨by simp; omega, .inr ⟨g, n, l.toArray, rfl, hb, h, hm, hx, by simp; omega, by simp⟩⟩
end

section
open Go.RowKit
set_option linter.unusedVariables false

set_option maxHeartbeats 400000 in
theorem twice_any (x : UInt8) (w : World) :
    Calls Tryd.prog 79 #[.int .u8 (x.toNat : Int)] w fun e w' => e = .returned (.int .u8 ((tw x).toNat : Int)) ∧ w = w' := by
  have hx := x.toNat_lt
  go_enter Tryd.func79, Tryd.ntmps79
  go_wp2
  go_ret
  exact ⟨b_of (b_tw x), rfl⟩

def oS : ByteArray := ⟨oT.toArray⟩
theorem oS_at (x : UInt8) (h : x.toNat < oS.size) : oS[x.toNat]'h = sB x := by
  have h2 : x.toNat < oT.length := by rw [oT_len]; exact x.toNat_lt
  show oT.toArray[x.toNat]'h = oT.getD x.toNat 0
  rw [List.getD, List.getElem?_eq_getElem h2]
  exact List.getElem_toArray _

set_option maxHeartbeats 400000 in
set_option maxRecDepth 100000 in
theorem sub_any (x : UInt8) (w : World) :
    Calls Tryd.prog 82 #[.int .u8 (x.toNat : Int)] w fun e w' => e = .returned (.int .u8 ((sB x).toNat : Int)) ∧ w = w' := by
  have hx := x.toNat_lt
  go_enter Tryd.func82, Tryd.ntmps82
  go_wp2_with fail
  go_ret
  exact ⟨b_of (congrArg (fun b : UInt8 => (b.toNat : Int)) (oS_at x _)), rfl⟩
end

section
open Go.RowKit
set_option linter.unusedVariables false

/-- A row of bytes in memory. -/
def aRow (l : List UInt8) : Array Value := (l.map cell8).toArray
theorem aRow_set (l : List UInt8) (j : Nat) (x : UInt8) : (aRow l).setIfInBounds j (.int .u8 (x.toNat : Int)) = aRow (l.set j x) := by simp [aRow, cell8]
theorem aRow_size (l : List UInt8) : (aRow l).size = l.length := by simp [aRow]
theorem aRow_one (l : List UInt8) : (aRow l).all (·.oneCell') = true := by
  rw [Array.all_eq_true_iff_forall_mem]
  intro v hv
  simp only [aRow, List.mem_toArray] at hv
  obtain ⟨x, _, rfl⟩ := List.mem_map.1 hv
  rfl
theorem aRow_at {l : List UInt8} {k : Nat} (hk : k < l.length) : (aRow l)[k]? = some (.int .u8 ((l.getD k 0).toNat : Int)) := by
  simp [aRow, List.getD, hk, cell8]
theorem aRow_list (l : List UInt8) : (aRow l).toList = l.map cell8 := by simp [aRow]
theorem info_a16 : (Tryd.prog.info? 23).map (·.size) = some 16 := by kernel_rfl
theorem info_aRow {l : List UInt8} (h : l.length = 16) : (Tryd.prog.info? 23).map (·.size) = some (aRow l).size := by rw [aRow_size, h]; exact info_a16
theorem below_grownA {B g : Nat} {a b c : World} (h : Below B a b) (k : b.grownBy c (some g)) (hg : B ≤ g) (hB : B ≤ b.heap.size) : Below B a c :=
  ⟨k.os.trans h.os, k.tape.trans h.tape, k.output.trans h.output, Nat.le_trans h.size k.size, fun i hi => (k.block i (by omega) (fun e => by have := Option.some.inj e; omega)).trans (h.block i hi)⟩
theorem zeros16 : (#[.int .u8 0, .int .u8 0, .int .u8 0, .int .u8 0, .int .u8 0, .int .u8 0, .int .u8 0, .int .u8 0, .int .u8 0, .int .u8 0, .int .u8 0, .int .u8 0, .int .u8 0, .int .u8 0, .int .u8 0, .int .u8 0] : Array Value) = aRow (List.replicate 16 0) := by kernel_rfl

/-- What two, three blocks that were just made hold. -/
theorem made2 (w : World) (r s : Array Value) (T U : TypeId) : Below w.heap.size w ((w.alloc (.cells r T)).alloc (.cells s U)) ∧ Wh ((w.alloc (.cells r T)).alloc (.cells s U)) w.heap.size T r ∧ Wh ((w.alloc (.cells r T)).alloc (.cells s U)) (w.heap.size + 1) U s := by
  refine ⟨((Below.refl _ _).alloc (Nat.le_refl _) _).alloc (by simp) _, (Wh.new _ _ _).alloc _, ?_⟩
  have := Wh.new (w.alloc (.cells r T)) U s
  rwa [show (w.alloc (.cells r T)).heap.size = w.heap.size + 1 by simp] at this
theorem made3 (w : World) (r s q : Array Value) (T U V : TypeId) : Below w.heap.size w (((w.alloc (.cells r T)).alloc (.cells s U)).alloc (.cells q V)) ∧ Wh (((w.alloc (.cells r T)).alloc (.cells s U)).alloc (.cells q V)) w.heap.size T r ∧ Wh (((w.alloc (.cells r T)).alloc (.cells s U)).alloc (.cells q V)) (w.heap.size + 1) U s ∧ Wh (((w.alloc (.cells r T)).alloc (.cells s U)).alloc (.cells q V)) (w.heap.size + 1 + 1) V q := by
  obtain ⟨h1, h2, h3⟩ := made2 w r s T U
  refine ⟨h1.alloc h1.size _, h2.alloc _, h3.alloc _, ?_⟩
  have := Wh.new ((w.alloc (.cells r T)).alloc (.cells s U)) V q
  rwa [show ((w.alloc (.cells r T)).alloc (.cells s U)).heap.size = w.heap.size + 1 + 1 by simp] at this

set_option maxRecDepth 100000 in
/-- A byte of an array by value. -/
theorem idx16 (l : List UInt8) (n : Nat) (w : World) (hl : l.length = 16) (hn : n < 16) : (Instr.index 23 (.agg (aRow l)) (.int .i64 (n : Int))).run Tryd.prog w = .ok (.int .u8 ((l.getD n 0).toNat : Int)) w := by
  have h1 : n < l.length := by omega
  have h2 : (sizeOf 5).run Tryd.prog w = .ok 1 w := by kernel_rfl
  have h4 : (part 5 (aRow l) n).run Tryd.prog w = .ok (.int .u8 ((l.getD n 0).toNat : Int)) w := by
    have h5 : (isAgg 5).run Tryd.prog w = .ok false w := by kernel_rfl
    simp [part, h5, aRow, h1, cell8, List.getD]
  have h3 : (0 : Int) ≤ (n : Int) ∧ (n : Int) < 16 := by omega
  simp [Instr.index, asIntOf, run_underlying Tryd.underlying23, h2, hn, h4]

/-- A byte's row of the table of types. -/
theorem info8A : (Tryd.prog.info? 5).map (fun i => (i.zero, i.size, i.bytes)) = some (some (.int .u8 0), 1, 1) := by kernel_rfl

/-- Bytes in memory of their own. -/
def GaveO (w : World) (l : List UInt8) (e : Ending) (w' : World) : Prop :=
  ∃ A' c', e = .returned (.slice A' l.length c') ∧ l.length ≤ c' ∧ c' ≤ maxLen ∧ w'.ownsRow w.heap.size 5 1 (.slice A' l.length c') l.length (l.map cell8) ∧ Below w.heap.size w w'
end

section
open Go.RowKit

theorem run_allocZ {P : Program} (w : World) (t : TypeId) (cells : Array Value) (hz : (zeroValue t).run P w = .ok (.agg cells) w) :
    (Instr.alloc t true (.tuple #[])).run P w = .ok (.pointer (some ⟨w.heap.size, 0, none⟩)) (w.alloc (.cells cells t)) := by
  simp only [Instr.alloc, Sem.run_bind, hz, Result.andThen_ok]
  rfl
theorem wp_allocZ {P : Program} {o : Oper} {a : Act} {w : World} {K : Act → World → Prop} {Q : Exit → Act → World → Prop} (t : TypeId) (ho : o.op = .alloc t) (cells : Array Value) (hz : (zeroValue t).run P w = .ok (.agg cells) w)
    (h : K (a.put o.dst (.pointer (some ⟨w.heap.size, 0, none⟩))) (w.alloc (.cells cells t))) : o.wp P a w K Q := by
  unfold Oper.wp execOp
  simp only [ho, Sem.run_bind, run_allocZ w t cells hz, Result.andThen_ok]
  exact h
theorem wpList_allocZ {P : Program} {ops : Array Oper} {rest : List Oper} {o : Oper} {a : Act} {w : World} {Q : Exit → Act → World → Prop} (hg : o.guard = none) (t : TypeId) (ho : o.op = .alloc t) (cells : Array Value) (hz : (zeroValue t).run P w = .ok (.agg cells) w)
    (h : wpList P ops Q rest (a.put o.dst (.pointer (some ⟨w.heap.size, 0, none⟩))) (w.alloc (.cells cells t))) : wpList P ops Q (o :: rest) a w :=
  wpList_plain hg fun _ hK => wp_allocZ t ho cells hz (hK _ _ h)
theorem wpList_built1Z {P : Program} {ops : Array Oper} {rest : List Oper} {o : Oper} {a : Act} {w : World} {Q : Exit → Act → World → Prop} (hg : o.guard = none) (t : TypeId) (x : Operand) (ho : o.op = .build t #[(0, x)])
    (v : Value) (hx : a.eval x = v) (cells : Array Value) (hb : P.built t [(0, v)] = some cells)
    (h : wpList P ops Q rest (a.put o.dst (.agg cells)) w) : wpList P ops Q (o :: rest) a w := by
  have e : ((#[(0, x)] : Array (Nat × Operand)).map fun (i, x) => (i, a.eval x)).toList = [(0, v)] := by simp [hx]
  exact wpList_plain hg fun _ hK => wp_build t #[(0, x)] ho (by rw [e, hb]; rfl) (by rw [e, hb]; exact hK _ _ h)
end
end Go.Proofs.YtbnnjkjmadnjkaaDoor
