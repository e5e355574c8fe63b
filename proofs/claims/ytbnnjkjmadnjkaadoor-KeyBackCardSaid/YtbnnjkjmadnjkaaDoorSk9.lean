/-
  Words for blocks that are known whole, as lists of cells: loads and stores of parts of them. No program is named here.
  Words turned: the walks through math/bits.RotateLeft32, sha.turned, sha.mix.
  sha.schedule: a block's words.
-/
import Derived.Deep.MidRow
import Derived.Deep.RegionLaw
import Derived.Deep.RegionHeld3
import Derived.Laws.CopyOwn
import Derived.Test.YtbnnjkjmadnjkaaDoorSk6
import Derived.Test.YtbnnjkjmadnjkaaDoorSk3
import Derived.IntWalk
import Derived.Test.YtbnnjkjmadnjkaaDoorSk2
import Derived.Test.YtbnnjkjmadnjkaaDoorSk0
import Derived.Test.YtbnnjkjmadnjkaaDoorProg
import Derived.KernelRfl
import Derived.Deep.QuietTactic
import Derived.BigQuiet
import Derived.Deep.DeepCutAuto
import Derived.Deep.WholeRow
import Derived.Test.YtbnnjkjmadnjkaaDoorSk1
namespace Go.Proofs.YtbnnjkjmadnjkaaDoor
section
open Go.RowKit

/-- A part of a block that is known whole. -/
theorem Wh.part {w : World} {g : Nat} {t : TypeId} {cs : List Value} (h : Wh w g t cs.toArray) (o : Nat) (seg : List Value) (he : ∀ j v, seg[j]? = some v → cs[o + j]? = some v) : w.rangeAt g o seg := fun j v hv => by
  rw [h.cell, List.getElem?_toArray]
  exact he j v hv
theorem Wh.whole {w : World} {g : Nat} {t : TypeId} {cs : List Value} (h : Wh w g t cs.toArray) : w.rangeAt g 0 cs := h.part 0 cs fun j v hv => by rw [Nat.zero_add]; exact hv
theorem Wh.thereL {w : World} {g : Nat} {t : TypeId} {cs : List Value} (h : Wh w g t cs.toArray) (o n : Nat) (hn : o + n ≤ cs.length) : w.there g o n := fun j hj => by
  refine ⟨?_, h.frozen _⟩
  rw [h.cell, List.getElem?_toArray, List.getElem?_eq_getElem (by omega)]
  rfl
/-- A block laid over wholly. -/
theorem Wh.allL {w : World} {g : Nat} {t : TypeId} {cs ds : List Value} (h : Wh w g t cs.toArray) (hl : ds.length = cs.length) : Wh (w.setCells g 0 ds) g t ds.toArray ∧ w.grownBy (w.setCells g 0 ds) (some g) := by
  obtain ⟨h1, h2⟩ := Wh.puts ds 0 cs w h (by omega)
  refine ⟨?_, h2⟩
  rw [List.take_zero, List.nil_append, List.drop_eq_nil_of_le (by omega), List.append_nil] at h1
  exact h1

/-! A region that draws its order. -/
theorem act_normM {P : Program} {md : Region.Mode} {ops : Array Oper} {Q : Exit → Act → World → Prop} {S : World → Prop} {fuel : Nat} {listed : Array Bool} {a b : Act} {w : World} (h : a = b) (k : wpAnyH P md ops Q S fuel listed b w) : wpAnyH P md ops Q S fuel listed a w := h ▸ k
theorem wanted_goM {o : Oper} {y : Nat → Option Bool} {A B : Prop} (h : Region.wanted o y = true) (k : A) : if Region.wanted o y = true then A else B := by rw [if_pos h]; exact k
theorem wpAnyH_moreM {P : Program} {md : Region.Mode} {ops : Array Oper} {Q : Exit → Act → World → Prop} {S S' : World → Prop} (hSS : ∀ w, S' w → S w) :
    ∀ (fuel : Nat) (listed : Array Bool) (a : Act) (w : World), wpAnyH P md ops Q S' fuel listed a w → wpAnyH P md ops Q S fuel listed a w
  | 0, _, _, _, h => h
  | fuel + 1, _, _, _, h => ⟨h.1, fun i hi => wpOp_mono (fun a' w' h' => ⟨hSS _ h'.1, wpAnyH_moreM hSS fuel _ a' w' h'.2⟩) (h.2 i hi)⟩
/-- All that stood at a world stands. -/
def SinceM (w0 wr : World) : Prop := Below w0.heap.size w0 wr
theorem SinceM.self (w : World) : SinceM w w := Below.refl _ _
theorem SinceM.trans {a b c : World} (h : SinceM a b) (k : SinceM b c) : SinceM a c := Below.trans h (k.mono h.size)
theorem SinceM.of {a b : World} (h : Below a.heap.size a b) : SinceM a b := h
theorem SinceM.wh {a b : World} (h : SinceM a b) {g : Nat} {t : TypeId} {cs : Array Value} (hw : Wh a g t cs) : Wh b g t cs := hw.below h hw.lt
/-- What is stored into a block that is new since then. -/
theorem SinceM.put {a b c : World} {g : Nat} (h : SinceM a b) (k : b.grownBy c (some g)) (hg : a.heap.size ≤ g) : SinceM a c := below_grownA h k hg h.size
theorem SinceM.below {B : Nat} {a b c : World} (h : Below B a b) (k : SinceM b c) (hB : B ≤ b.heap.size) : Below B a c := h.trans (k.mono hB)
theorem step_copy_rowM {P : Program} {ops : Array Oper} {o : Oper} {a : Act} {w : World} {K : Act → World → Prop} {Q : Exit → Act → World → Prop} {E : Prop} (hgd : o.guard = none) (d s : Operand) (dT sT : TypeId)
    (ho : o.op = .call { callee := .builtin .copy, args := #[d, s], argTypes := #[dT, sT] }) (elem : TypeId) (hu : P.underlying dT = some (.slice elem)) (hsz : (P.info? elem).map (·.size) = some 1)
    (g off dLen dCap : Nat) (ad : Addr) (sLen sCap : Nat) (hd : a.eval d = .slice (some ⟨g, off, none⟩) dLen dCap) (hs : a.eval s = .slice (some ad) sLen sCap)
    (cur : Array Value) (t : TypeId) (hg : w.heap[g]? = some (.cells cur t (0, 0))) (cs : List Value) (hn : cs.length = Nat.min sLen dLen)
    (hsrc : ∀ j v, cs[j]? = some v → w.cell? (ad.add j) = some v) (hfit : off + cs.length ≤ cur.size) (h1 : ∀ v ∈ cs, v.oneCell' = true)
    (n : Nat) (hcn : cs.length = n)
    (row : Array Value) (hrow : (cur.toList.take off ++ (cs ++ cur.toList.drop (off + cs.length))).toArray = row)
    (h : K (a.put o.dst (goInt n)) (w.setRow g row)) : if Region.wanted o (yielded ops a.tmps) = true then Oper.wp P o a w K Q else E := by
  have hw : Region.wanted o (yielded ops a.tmps) = true := by simp [Region.wanted, hgd]
  rw [if_pos hw]
  subst hrow
  subst hcn
  have hrun := run_copy_row (P := P) w dT sT o.type elem g off dLen dCap ad sLen sCap cur t cs hu hsz hg hn hsrc hfit h1
  unfold Oper.wp
  simp [execOp, ho, resolve, invoke, builtin, hd, hs, hrun, Result.andThen]
  exact h
theorem wp_built2M {P : Program} {op : Oper} {a : Act} {w : World} {K : Act → World → Prop} {Q : Exit → Act → World → Prop} (t : TypeId) (i j : Nat) (x y : Operand) (ho : op.op = .build t #[(i, x), (j, y)])
    (v u : Value) (hx : a.eval x = v) (hy : a.eval y = u) (cells : Array Value) (hb : P.built t [(i, v), (j, u)] = some cells) (h : K (a.put op.dst (.agg cells)) w) : op.wp P a w K Q := by
  have e : ((#[(i, x), (j, y)] : Array (Nat × Operand)).map fun (i, x) => (i, a.eval x)).toList = [(i, v), (j, u)] := by simp [hx, hy]
  exact wp_build t #[(i, x), (j, y)] ho (by rw [e, hb]; rfl) (by rw [e, hb]; exact h)
theorem yields_built2M {P : Program} {ops : Array Oper} {S : World → Prop} {op : Oper} {a : Act} (hw : Region.wanted op (yielded ops a.tmps) = true) (t : TypeId) (i j : Nat) (x y : Operand) (ho : op.op = .build t #[(i, x), (j, y)])
    (v u : Value) (hx : a.eval x = v) (hy : a.eval y = u) (cells : Array Value) (hb : P.built t [(i, v), (j, u)] = some cells) : YieldsIf P ops S op (.agg cells) a :=
  .inl ⟨hw, fun w hw' => by
    have e : ((#[(i, x), (j, y)] : Array (Nat × Operand)).map fun (i, x) => (i, a.eval x)).toList = [(i, v), (j, u)] := by simp [hx, hy]
    unfold execOp
    simp only [ho, Sem.run_bind, run_build w t _ cells (by rw [e]; exact hb), Result.andThen_ok, Sem.run_pure]⟩
theorem SinceM.sl {a b : World} (h : SinceM a b) {B : Nat} {A : Option Addr} {l : List UInt8} (hs : Sl a B A l) (hB : B ≤ a.heap.size) : Sl b B A l := Sv.below hs (Below.mono h hB)
theorem yields_strM {P : Program} {ops : Array Oper} {S : World → Prop} {op : Oper} {a : Act} (hw : Region.wanted op (yielded ops a.tmps) = true) (src dst e : TypeId) (x : Operand) (ho : op.op = .convert src dst x)
    (hs : P.underlying src = some (.slice e)) (he : P.underlying e = some (.int .u8)) (hd : P.underlying dst = some .string) (B : Nat) (A : Option Addr) (n c : Nat) (l : List UInt8) (hx : a.eval x = .slice A n c) (hn : l.length = n) (hS : ∀ w, S w → Sl w B A l) :
    YieldsIf P ops S op (.string (strB l)) a :=
  .inl ⟨hw, fun w hw' => by
    unfold execOp
    simp only [ho, hx, Sem.run_bind, run_string_sl w src dst e hs he hd B A n c l (hS w hw') hn, Result.andThen_ok, Sem.run_pure]⟩
theorem wp_make_mnM {P : Program} {w : World} {o : Oper} {a : Act} {K : Act → World → Prop} {Q : Exit → Act → World → Prop}
    (l c : Operand) (t : TypeId) (hop : o.op = Op.makeSlice t l c)
    (e : TypeId) (i : TypeInfo) (z : Value) (ht : P.underlying t = some (.slice e)) (hi : P.info? e = some i) (hz : i.zero = some z) (hsize : i.size = 1) (hz1 : z.cells = #[z])
    (kl kc : IntKind) (M N : Int) (m n : Nat) (hl : a.eval l = .int kl M) (hc : a.eval c = .int kc N) (hM : M = (m : Int)) (hN : N = (n : Int)) (hmn : m ≤ n) (hbytes : i.bytes * n ≤ 281474976710656) (h63 : n ≤ 9223372036854775807)
    (hK : K (a.put o.dst (.slice (some ⟨w.heap.size, 0, none⟩) m n)) (w.alloc (.cells (List.replicate n z).toArray e))) : o.wp P a w K Q := by
  have hb' : (i.bytes : Int) * (n : Int) ≤ 281474976710656 := by
    have h : ((i.bytes * n : Nat) : Int) ≤ 281474976710656 := by omega
    rwa [Int.natCast_mul] at h
  have hr := run_make (P := P) w t e i z ht hi hz kl kc m n (by omega) (by omega) hb' (by omega)
  simp only [Int.toNat_natCast, hsize, Nat.mul_one, hz1, madeCells_one] at hr
  subst hM
  subst hN
  unfold Oper.wp
  simp [execOp, hop, hl, hc, hr, Result.andThen]
  exact hK
/-- A row of the call's own, of a call that began earlier. -/
theorem own_base {w : World} {base base' : Nat} {e : TypeId} {v : Value} {n : Nat} {xs : List Value} (h : w.ownsRow base e 1 v n xs) (hb : base' ≤ base) : w.ownsRow base' e 1 v n xs := by
  refine ⟨h.1, ?_⟩
  rcases h.2 with hn | ⟨g, cap, cur, h1, h2, h3⟩
  · exact .inl hn
  · exact .inr ⟨g, cap, cur, h1, Nat.le_trans hb h2, h3⟩
end

section
open Go.RowKit
set_option linter.unusedVariables false

set_option maxHeartbeats 400000 in
theorem rot_any (x : W32) (p : Nat) (w : World) (h1 : 1 ≤ p) (h2 : p ≤ 31) :
    Calls Tryd.prog 97 #[.int .u32 (wi x), .int .i64 (-(p : Int))] w fun e w' => e = .returned (.int .u32 (wi (rr x p))) ∧ w = w' := by
  have hx := wi_lt x
  have hx0 := wi_nn x
  obtain ⟨q, hq⟩ : ∃ q : Nat, q = 32 - p := ⟨_, rfl⟩
  have hs : bits .and .u64 (IntKind.u64.wrap (-(p : Int))) 31 = (q : Int) := by
    rw [IntKind.wrap_u64]
    have := u64_and_nat (18446744073709551616 - p) 31 (by omega) (by omega)
    rw [show (-(p : Int)) % 18446744073709551616 = ((18446744073709551616 - p : Nat) : Int) by omega]
    rw [show (31 : Int) = ((31 : Nat) : Int) by rfl, this, nat_mask5]
    omega
  have hq1 : 1 ≤ q := by omega
  have hq2 : q ≤ 31 := by omega
  have HQ := Lib.hid hq
  clear hq
  go_enter Tryd.func97, Tryd.ntmps97
  go_wp2
  go_ret
  exact ⟨cw_of (wi_rot x p q h1 h2 HQ.out), rfl⟩

set_option maxHeartbeats 400000 in
theorem turned_any (x : W32) (p : Nat) (w : World) (h1 : 1 ≤ p) (h2 : p ≤ 31) :
    Calls Tryd.prog 96 #[.int .u32 (wi x), .int .i64 (p : Int)] w fun e w' => e = .returned (.int .u32 (wi (rr x p))) ∧ w = w' := by
  go_enter Tryd.func96, Tryd.ntmps96
  go_wp2_with (go_at_call 97; refine (rot_any x p _ h1 h2).mono ?_; rintro e w1 ⟨rfl, rfl⟩)
  go_ret
  exact ⟨rfl, rfl⟩

set_option maxHeartbeats 400000 in
theorem mix_any (x : W32) (i j k : Nat) (w : World) (h1 : 1 ≤ i) (h2 : i ≤ 31) (h3 : 1 ≤ j) (h4 : j ≤ 31) (h5 : 1 ≤ k) (h6 : k ≤ 31) :
    Calls Tryd.prog 95 #[.int .u32 (wi x), .int .i64 (i : Int), .int .i64 (j : Int), .int .i64 (k : Int)] w fun e w' => e = .returned (.int .u32 (wi (mix3 x i j k))) ∧ w = w' := by
  go_enter Tryd.func95, Tryd.ntmps95
  go_wp2_with (go_at_call 96; refine (turned_any _ _ _ (by omega) (by omega)).mono ?_; rintro e w1 ⟨rfl, rfl⟩)
  go_ret
  exact ⟨cw_of (by rw [wi_xor, wi_xor]; rfl), rfl⟩
/-- The same at integers. -/
theorem turned_i (x : W32) (i : Int) (w : World) (h1 : 1 ≤ i) (h2 : i ≤ 31) :
    Calls Tryd.prog 96 #[.int .u32 (wi x), .int .i64 i] w fun e w' => e = .returned (.int .u32 (wi (rr x i.toNat))) ∧ w = w' := by
  obtain ⟨p, rfl⟩ := Int.eq_ofNat_of_zero_le (by omega : 0 ≤ i)
  exact turned_any x p w (by omega) (by omega)
theorem mix_i (x : W32) (i j k : Int) (w : World) (h1 : 1 ≤ i) (h2 : i ≤ 31) (h3 : 1 ≤ j) (h4 : j ≤ 31) (h5 : 1 ≤ k) (h6 : k ≤ 31) :
    Calls Tryd.prog 95 #[.int .u32 (wi x), .int .i64 i, .int .i64 j, .int .i64 k] w fun e w' => e = .returned (.int .u32 (wi (mix3 x i.toNat j.toNat k.toNat))) ∧ w = w' := by
  obtain ⟨p, rfl⟩ := Int.eq_ofNat_of_zero_le (by omega : 0 ≤ i)
  obtain ⟨q, rfl⟩ := Int.eq_ofNat_of_zero_le (by omega : 0 ≤ j)
  obtain ⟨r, rfl⟩ := Int.eq_ofNat_of_zero_le (by omega : 0 ≤ k)
  exact mix_any x p q r w (by omega) (by omega) (by omega) (by omega) (by omega) (by omega)
end

section
open Go.RowKit
set_option linter.unusedVariables false

/-- 64 words in memory. -/
def wRow (l : List W32) : Array Value := (l.map cw).toArray
theorem wRow_set (l : List W32) (j : Nat) (v : W32) : (wRow l).setIfInBounds j (.int .u32 (wi v)) = wRow (l.set j v) := by simp [wRow, cw]
theorem wRow_size (l : List W32) : (wRow l).size = l.length := by simp [wRow]
theorem wRow_one (l : List W32) : (wRow l).all (·.oneCell') = true := by
  rw [Array.all_eq_true_iff_forall_mem]
  intro v hv
  simp only [wRow, List.mem_toArray] at hv
  obtain ⟨x, _, rfl⟩ := List.mem_map.1 hv
  rfl
theorem info_w64 : (Tryd.prog.info? 152).map (·.size) = some 64 := by kernel_rfl
theorem info_wRow {l : List W32} (h : l.length = 64) : (Tryd.prog.info? 152).map (·.size) = some (wRow l).size := by rw [wRow_size, h]; exact info_w64
theorem below_grown {B g : Nat} {a b c : World} (h : Below B a b) (k : b.grownBy c (some g)) (hg : B ≤ g) (hB : B ≤ b.heap.size) : Below B a c :=
  ⟨k.os.trans h.os, k.tape.trans h.tape, k.output.trans h.output, Nat.le_trans h.size k.size, fun i hi => (k.block i (by omega) (fun e => by have := Option.some.inj e; omega)).trans (h.block i hi)⟩
theorem zeros64 : (#[.int .u32 0, .int .u32 0, .int .u32 0, .int .u32 0, .int .u32 0, .int .u32 0, .int .u32 0, .int .u32 0, .int .u32 0, .int .u32 0, .int .u32 0, .int .u32 0, .int .u32 0, .int .u32 0, .int .u32 0, .int .u32 0, .int .u32 0, .int .u32 0, .int .u32 0, .int .u32 0, .int .u32 0, .int .u32 0, .int .u32 0, .int .u32 0, .int .u32 0, .int .u32 0, .int .u32 0, .int .u32 0, .int .u32 0, .int .u32 0, .int .u32 0, .int .u32 0, .int .u32 0, .int .u32 0, .int .u32 0, .int .u32 0, .int .u32 0, .int .u32 0, .int .u32 0, .int .u32 0, .int .u32 0, .int .u32 0, .int .u32 0, .int .u32 0, .int .u32 0, .int .u32 0, .int .u32 0, .int .u32 0, .int .u32 0, .int .u32 0, .int .u32 0, .int .u32 0, .int .u32 0, .int .u32 0, .int .u32 0, .int .u32 0, .int .u32 0, .int .u32 0, .int .u32 0, .int .u32 0, .int .u32 0, .int .u32 0, .int .u32 0, .int .u32 0] : Array Value) = wRow (List.replicate 64 0) := by kernel_rfl

set_option maxRecDepth 100000 in
set_option maxHeartbeats 400000 in
theorem sched_any (b off : Nat) (bs : List UInt8) (w : World) (hb : b < w.heap.size) (hl : bs.length = 64) (hc : ∀ j x, bs[j]? = some x → w.cell? ⟨b, off + j, none⟩ = some (cell8 x)) :
    Calls Tryd.prog 94 #[.pointer (some ⟨b, off, none⟩)] w fun e w' => e = .returned (.agg (wRow (wsW bs))) ∧ Below w.heap.size w w' := by
  have HL := Lib.hid hl
  have hbe : Below w.heap.size w ((w.alloc (.cells (wRow (List.replicate 64 0)) 152)).alloc (.cells (wRow (List.replicate 64 0)) 152)) := ((Below.refl _ _).alloc (Nat.le_refl _) _).alloc (by simp) _
  have h2 : Wh ((w.alloc (.cells (wRow (List.replicate 64 0)) 152)).alloc (.cells (wRow (List.replicate 64 0)) 152)) w.heap.size 152 (wRow (List.replicate 64 0)) := (Wh.new _ _ _).alloc _
  have h3 : Wh ((w.alloc (.cells (wRow (List.replicate 64 0)) 152)).alloc (.cells (wRow (List.replicate 64 0)) 152)) (w.heap.size + 1) 152 (wRow (List.replicate 64 0)) := by
    have := Wh.new (w.alloc (.cells (wRow (List.replicate 64 0)) 152)) 152 (wRow (List.replicate 64 0))
    rwa [show (w.alloc (.cells (wRow (List.replicate 64 0)) 152)).heap.size = w.heap.size + 1 by simp] at this
  have HC := Lib.hid (fun j x h => (hbe.cell (p := ⟨b, off + j, none⟩) hb).trans (hc j x h))
  clear hl hc
  go_enter Tryd.func94, Tryd.ntmps94
  go_upto_region 2 with (fail)
  rw [zeros64]
  generalize (w.alloc (.cells (wRow (List.replicate 64 0)) 152)).alloc (.cells (wRow (List.replicate 64 0)) 152) = W at *
  obtain ⟨r, hr⟩ : ∃ r, r = w.heap.size := ⟨_, rfl⟩
  obtain ⟨g, hg⟩ : ∃ g, g = w.heap.size + 1 := ⟨_, rfl⟩
  rw [← hr] at h2
  rw [← hg] at h3
  rw [← hg, ← hr]
  have HG := Lib.hid hg
  have HR := Lib.hid hr
  have H2 := Lib.hid h2
  have hbg : b < r := by omega
  have hbW : b < W.heap.size := by have := hbe.size; omega
  have hgr : r < g := by omega
  clear hg hr h2
  have HZ := ldW_zero bs
  rw [← HZ] at h3
  have H3 := Lib.hid h3
  clear h3 HZ
  go_wp2
  go_loopw [4, 5, 12] (fun _ _ i wr => ∃ k : Nat, k ≤ 64 ∧ i = .int .i64 (k : Int) ∧ Hid (Wh wr g 152 (wRow (ldW bs k))) ∧ Hid (W.grownBy wr (some g))) (fun _ _ i _ => 64 - (intOf i).toNat)
  case atStart => exact ⟨0, by omega, rfl, H3, Lib.hid (World.grownBy.refl _ _)⟩
  case round =>
    obtain ⟨k, hk, rfl, HW, HGr⟩ := hrel
    by_cases hlt : k < 64
    · have hkb : k < bs.length := by rw [HL.out]; exact hlt
      have hx : wr.cell? ⟨b, off + k, none⟩ = some (.int .u8 ((bs.getD k 0).toNat : Int)) := by
        have h1 : bs[k]? = some (bs.getD k 0) := by simp [List.getD, hkb]
        rw [World.cell?_of_block (HGr.out.block b hbW (fun e => by have := Option.some.inj e; omega)), HC.out k _ h1]
        rfl
      have hlen := ldW_len bs k
      have hv : wr.cell? ⟨g, k / 4, none⟩ = some (.int .u32 (wi ((ldW bs k).getD (k / 4) 0))) := by
        rw [HW.out.cell]
        have : k / 4 < (ldW bs k).length := by omega
        simp [wRow, List.getD, this, cw]
      have hf := HW.out.frozen (k / 4)
      generalize hvv : (ldW bs k).getD (k / 4) 0 = v at *
      generalize hbb : bs.getD k 0 = x at *
      have HV := Lib.hid hvv
      have HX := Lib.hid hbb
      have HLN := Lib.hid hlen
      clear hvv hbb hlen
      have hx8 := x.toNat_lt
      go_wp2
      go_quiet (fail)
      go_wp2
      refine ⟨⟨k + 1, by omega, rfl, ?_, ?_⟩, by simp [intOf]; omega⟩
      · have h := (HW.out.drewN nq).put (k / 4) (.int .u32 (bits BinOp.or IntKind.u32 (wi v * 256 % 4294967296) ↑x.toNat))
        rw [wi_inB] at h ⊢
        rw [ldW, HV.out, HX.out, ← wRow_set]
        exact Lib.hid h
      · exact Lib.hid (grown_trans (grown_drewN HGr.out nq) (grown_set _ _ _ _))
    · rw [show k = 64 by omega, ldW_full] at HW
      have hkd : decide ((k : Int) < 64) = false := by rw [decide_eq_false_iff_not]; omega
      clear hlt hk
      go_wp2
      generalize wr = w1 at *
      go_loopw [6, 7, 8, 9, 10] (fun i _ _ _ _ wr => ∃ t : Nat, 16 ≤ t ∧ t ≤ 64 ∧ i = .int .i64 (t : Int) ∧ Hid (Wh wr g 152 (wRow (schW (mW bs) (t - 16) ++ List.replicate (64 - t) 0))) ∧ Hid (W.grownBy wr (some g))) (fun i _ _ _ _ _ => 64 - (intOf i).toNat)
      case atStart => exact ⟨16, by omega, by omega, rfl, HW, HGr⟩
      case round =>
        obtain ⟨t, ht1, ht2, rfl, HW2, HG2⟩ := hrel
        clear HW HGr
        by_cases htl : t < 64
        · clear hkd
          go_wp2
          obtain ⟨l, hl⟩ : ∃ l, l = schW (mW bs) (t - 16) := ⟨_, rfl⟩
          rw [← hl] at HW2
          have hll : l.length = t := by rw [hl, schW_len, mW_len bs]; omega
          have HLL := Lib.hid hll
          have HLD := Lib.hid hl
          have cell : ∀ j, j < t → wr.cell? ⟨g, j, none⟩ = some (.int .u32 (wi (l.getD j 0))) := by
            intro j hj
            rw [HW2.out.cell]
            simp only [wRow, List.getElem?_toArray, List.getElem?_map]
            rw [sch_get l _ j (by omega)]
            rfl
          have c15 := cell (t - 15) (by omega)
          have c2 := cell (t - 2) (by omega)
          have c16 := cell (t - 16) (by omega)
          have c7 := cell (t - 7) (by omega)
          have ct : ∃ u, wr.cell? ⟨g, t, none⟩ = some (.int .u32 (wi u)) := by
            refine ⟨(0 : W32), ?_⟩
            rw [HW2.out.cell]
            simp only [wRow, List.getElem?_toArray, List.getElem?_map]
            rw [List.getElem?_append_right (by omega), hll, Nat.sub_self, show 64 - t = (63 - t) + 1 by omega, List.replicate_succ]
            rfl
          obtain ⟨u, ct⟩ := ct
          have hf := HW2.out.frozen t
          clear cell hl hll
          generalize h15 : l.getD (t - 15) 0 = x15 at *
          generalize h2 : l.getD (t - 2) 0 = x2 at *
          generalize h16 : l.getD (t - 16) 0 = x16 at *
          generalize h7 : l.getD (t - 7) 0 = x7 at *
          have H15 := Lib.hid h15
          have H2' := Lib.hid h2
          have H16 := Lib.hid h16
          have H7 := Lib.hid h7
          clear h15 h2 h16 h7
          have e1 : IntKind.i64.wrap ((t : Int) - 15) = (t : Int) - 15 := IntWalk.i64_in _ (by omega)
          have e2 : IntKind.i64.wrap ((t : Int) - 2) = (t : Int) - 2 := IntWalk.i64_in _ (by omega)
          have e5 : (0 : Int) ≤ (t : Int) - 15 := by omega
          have e6 : (0 : Int) ≤ (t : Int) - 2 := by omega
          have e3 : ((t : Int) - 15).toNat = t - 15 := by omega
          have e4 : ((t : Int) - 2).toNat = t - 2 := by omega
          go_quiet (fail)
          clear e1 e2 e3 e4 e5 e6 c15 c2
          have c7' : (wr.drewN nq).cell? ⟨g, t - 7, none⟩ = some (.int .u32 (wi x7)) := by simpa using c7
          have c16' : (wr.drewN nq).cell? ⟨g, t - 16, none⟩ = some (.int .u32 (wi x16)) := by simpa using c16
          have ct' : (wr.drewN nq).cell? ⟨g, t, none⟩ = some (.int .u32 (wi u)) := by simpa using ct
          have hf' : (wr.drewN nq).frozen? ⟨g, t, none⟩ = false := by simpa using hf
          clear c7 c16 ct hf
          have HW3 := Lib.hid (HW2.out.drewN nq)
          have HG3 := Lib.hid (grown_drewN HG2.out nq)
          clear HW2 HG2
          generalize wr.drewN nq = w3 at *
          go_wp2_with (go_at_call 96; refine (turned_i _ _ _ (by omega) (by omega)).mono ?_; rintro e w4 ⟨rfl, rfl⟩)
          rw [wi_sig0, wi_sig1]
          have e8 : (16 : Int) ≤ (t : Int) := by omega
          have e9 : (t : Int) - 16 < 64 := by omega
          have e10 : (7 : Int) ≤ (t : Int) := by omega
          have e11 : (t : Int) - 7 < 64 := by omega
          have e12 : (t : Int) < 64 := by omega
          have e1 : IntKind.i64.wrap ((t : Int) - 16) = (t : Int) - 16 := IntWalk.i64_in _ (by omega)
          have e2 : IntKind.i64.wrap ((t : Int) - 7) = (t : Int) - 7 := IntWalk.i64_in _ (by omega)
          have e3 : ((t : Int) - 16).toNat = t - 16 := by omega
          have e4 : ((t : Int) - 7).toNat = t - 7 := by omega
          go_region_law (fail)
          all_goals
            clear e1 e2 e3 e4 e8 e9 e10 e11 e12
            rw [wi_add, wi_add, wi_add]
            have HW4 := Lib.hid ((HW3.out.put t (.int .u32 (wi (x16 + sig0 x15 + x7 + sig1 x2)))).drewN 1)
            have HG4 := Lib.hid (grown_drewN (grown_trans HG3.out (grown_set _ g t (.int .u32 (wi (x16 + sig0 x15 + x7 + sig1 x2))))) 1)
            clear HW3 HG3
            change Exit.inBlock 3 _ _ _ ((w3.setCell ⟨g, t, none⟩ (.int .u32 (wi (x16 + sig0 x15 + x7 + sig1 x2)))).drewN 1)
            generalize (w3.setCell ⟨g, t, none⟩ (.int .u32 (wi (x16 + sig0 x15 + x7 + sig1 x2)))).drewN 1 = w5 at *
            go_wp2
            refine ⟨⟨t + 1, by omega, by omega, rfl, ?_, HG4⟩, by simp [intOf]; omega⟩
            have h := HW4.out
            rw [wRow_set, show 64 - t = (63 - t) + 1 by omega, sch_set l _ t _ HLL.out] at h
            rw [show t + 1 - 16 = (t - 16) + 1 by omega, schW, ← HLD.out, show 64 - (t + 1) = 63 - t by omega, nextW, HLL.out, H16.out, H15.out, H7.out, H2'.out]
            exact Lib.hid h
        · obtain ⟨HB, HS⟩ : Hid (Wh wr g 152 (wRow (wsW bs))) ∧ Hid (Wh wr r 152 (wRow (List.replicate 64 0))) := by
            have h := HW2.out
            rw [show t = 64 by omega, show 64 - 64 = 0 from rfl, List.replicate_zero, List.append_nil] at h
            exact ⟨Lib.hid h, Lib.hid (H2.out.grown HG2.out (by intro e; have := Option.some.inj e; omega))⟩
          have hBe := Lib.hid (below_grown hbe HG2.out (by rw [HG.out]; omega) hbe.size)
          have hwr : w.heap.size ≤ r := by rw [HR.out]; exact Nat.le_refl _
          have htd : decide ((t : Int) < 64) = false := by rw [decide_eq_false_iff_not]; omega
          clear HW2 HG2 htl ht1 ht2 hkd hbe H3 H2 hbW HC
          go_wp2_with (first
            | (refine wpList_load_row rfl 152 (.tmp 3) rfl g rfl _ (wRow (wsW bs)) _ _ HB.out Tryd.underlying152 rfl (info_wRow (wsW_len bs)) ?_)
            | (refine wpList_store_row rfl 152 (.tmp 2) (.tmp 73) rfl r (wRow (wsW bs)) rfl rfl _ _ HS.out (info_wRow (wsW_len bs)) (by rw [wRow_size, wRow_size, wsW_len]; rfl) (wRow_one _) ?_))
          refine bodyPost_ret (v := .agg (wRow (wsW bs))) (results_cell_row Tryd.results94 _ _ r _ _ (0, 0) _ rfl (setRow_heap wr r _ _ _ _ HS.out) Tryd.underlying152 rfl (info_wRow (wsW_len bs))) rfl ?_
          exact ⟨rfl, below_setRow hBe.out hwr _⟩
end
end Go.Proofs.YtbnnjkjmadnjkaaDoor
