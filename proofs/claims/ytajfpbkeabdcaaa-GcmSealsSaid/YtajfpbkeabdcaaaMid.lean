/-
  Words for blocks that are known whole, as lists of cells: loads and stores of parts of them. No program is named here.
-/
import Derived.Deep.MidRow
import Derived.Deep.RegionLaw
import Derived.Deep.RegionHeld3
import Derived.Laws.CopyOwn
import Derived.Test.YtajfpbkeabdcaaaAsRow
import Derived.Test.YtajfpbkeabdcaaaWhS
namespace Go.Proofs.Ytajfpbkeabdcaaa
open Go.RowKit

/-- A part of a block that is known whole. -/
theorem Wh.part {w : World} {g : Nat} {t : TypeId} {cs : List Value} (h : Wh w g t cs.toArray) (o : Nat) (seg : List Value) (he : ∀ j v, seg[j]? = some v → cs[o + j]? = some v) : w.rangeAt g o seg := fun j v hv => by
  rw [h.cell, List.getElem?_toArray]
  exact he j v hv
theorem Wh.whole {w : World} {g : Nat} {t : TypeId} {cs : List Value} (h : Wh w g t cs.toArray) : w.rangeAt g 0 cs := h.part 0 cs fun j v hv => by rw [Nat.zero_add]; exact hv
theorem Wh.thereL {w : World} {g : Nat} {t : TypeId} {cs : List Value} (h : Wh w g t cs.toArray) (o n : Nat) (hn : o + n ≤ cs.length) : w.there g o n := fun j hj => by
  refine ⟨?_, h.frozen _⟩
  rw [h.cell, List.getElem?_toArray, List.getElem?_eq_getElem (by omega)]
  rfl
/-- A block laid over wholly. -/
theorem Wh.allL {w : World} {g : Nat} {t : TypeId} {cs ds : List Value} (h : Wh w g t cs.toArray) (hl : ds.length = cs.length) : Wh (w.setCells g 0 ds) g t ds.toArray ∧ w.grownBy (w.setCells g 0 ds) (some g) := by
  obtain ⟨h1, h2⟩ := Wh.puts ds 0 cs w h (by omega)
  refine ⟨?_, h2⟩
  rw [List.take_zero, List.nil_append, List.drop_eq_nil_of_le (by omega), List.append_nil] at h1
  exact h1

/-! A region that draws its order. -/
theorem act_normM {P : Program} {md : Region.Mode} {ops : Array Oper} {Q : Exit → Act → World → Prop} {S : World → Prop} {fuel : Nat} {listed : Array Bool} {a b : Act} {w : World} (h : a = b) (k : wpAnyH P md ops Q S fuel listed b w) : wpAnyH P md ops Q S fuel listed a w := h ▸ k
theorem wanted_goM {o : Oper} {y : Nat → Option Bool} {A B : Prop} (h : Region.wanted o y = true) (k : A) : if Region.wanted o y = true then A else B := by rw [if_pos h]; exact k
theorem wpAnyH_moreM {P : Program} {md : Region.Mode} {ops : Array Oper} {Q : Exit → Act → World → Prop} {S S' : World → Prop} (hSS : ∀ w, S' w → S w) :
    ∀ (fuel : Nat) (listed : Array Bool) (a : Act) (w : World), wpAnyH P md ops Q S' fuel listed a w → wpAnyH P md ops Q S fuel listed a w
  | 0, _, _, _, h => h
  | fuel + 1, _, _, _, h => ⟨h.1, fun i hi => wpOp_mono (fun a' w' h' => ⟨hSS _ h'.1, wpAnyH_moreM hSS fuel _ a' w' h'.2⟩) (h.2 i hi)⟩
/-- All that stood at a world stands. -/
def SinceM (w0 wr : World) : Prop := Below w0.heap.size w0 wr
theorem SinceM.self (w : World) : SinceM w w := Below.refl _ _
theorem SinceM.trans {a b c : World} (h : SinceM a b) (k : SinceM b c) : SinceM a c := Below.trans h (k.mono h.size)
theorem SinceM.of {a b : World} (h : Below a.heap.size a b) : SinceM a b := h
theorem SinceM.wh {a b : World} (h : SinceM a b) {g : Nat} {t : TypeId} {cs : Array Value} (hw : Wh a g t cs) : Wh b g t cs := hw.below h hw.lt
/-- What is stored into a block that is new since then. -/
theorem SinceM.put {a b c : World} {g : Nat} (h : SinceM a b) (k : b.grownBy c (some g)) (hg : a.heap.size ≤ g) : SinceM a c := below_grown h k hg h.size
theorem SinceM.below {B : Nat} {a b c : World} (h : Below B a b) (k : SinceM b c) (hB : B ≤ b.heap.size) : Below B a c := h.trans (k.mono hB)
theorem step_copy_rowM {P : Program} {ops : Array Oper} {o : Oper} {a : Act} {w : World} {K : Act → World → Prop} {Q : Exit → Act → World → Prop} {E : Prop} (hgd : o.guard = none) (d s : Operand) (dT sT : TypeId)
    (ho : o.op = .call { callee := .builtin .copy, args := #[d, s], argTypes := #[dT, sT] }) (elem : TypeId) (hu : P.underlying dT = some (.slice elem)) (hsz : (P.info? elem).map (·.size) = some 1)
    (g off dLen dCap : Nat) (ad : Addr) (sLen sCap : Nat) (hd : a.eval d = .slice (some ⟨g, off, none⟩) dLen dCap) (hs : a.eval s = .slice (some ad) sLen sCap)
    (cur : Array Value) (t : TypeId) (hg : w.heap[g]? = some (.cells cur t (0, 0))) (cs : List Value) (hn : cs.length = Nat.min sLen dLen)
    (hsrc : ∀ j v, cs[j]? = some v → w.cell? (ad.add j) = some v) (hfit : off + cs.length ≤ cur.size) (h1 : ∀ v ∈ cs, v.oneCell' = true)
    (n : Nat) (hcn : cs.length = n)
    (row : Array Value) (hrow : (cur.toList.take off ++ (cs ++ cur.toList.drop (off + cs.length))).toArray = row)
    (h : K (a.put o.dst (goInt n)) (w.setRow g row)) : if Region.wanted o (yielded ops a.tmps) = true then Oper.wp P o a w K Q else E := by
  have hw : Region.wanted o (yielded ops a.tmps) = true := by simp [Region.wanted, hgd]
  rw [if_pos hw]
  subst hrow
  subst hcn
  have hrun := run_copy_row (P := P) w dT sT o.type elem g off dLen dCap ad sLen sCap cur t cs hu hsz hg hn hsrc hfit h1
  unfold Oper.wp
  simp [execOp, ho, resolve, invoke, builtin, hd, hs, hrun, Result.andThen]
  exact h
theorem wp_built2M {P : Program} {op : Oper} {a : Act} {w : World} {K : Act → World → Prop} {Q : Exit → Act → World → Prop} (t : TypeId) (i j : Nat) (x y : Operand) (ho : op.op = .build t #[(i, x), (j, y)])
    (v u : Value) (hx : a.eval x = v) (hy : a.eval y = u) (cells : Array Value) (hb : P.built t [(i, v), (j, u)] = some cells) (h : K (a.put op.dst (.agg cells)) w) : op.wp P a w K Q := by
  have e : ((#[(i, x), (j, y)] : Array (Nat × Operand)).map fun (i, x) => (i, a.eval x)).toList = [(i, v), (j, u)] := by simp [hx, hy]
  exact wp_build t #[(i, x), (j, y)] ho (by rw [e, hb]; rfl) (by rw [e, hb]; exact h)
theorem yields_built2M {P : Program} {ops : Array Oper} {S : World → Prop} {op : Oper} {a : Act} (hw : Region.wanted op (yielded ops a.tmps) = true) (t : TypeId) (i j : Nat) (x y : Operand) (ho : op.op = .build t #[(i, x), (j, y)])
    (v u : Value) (hx : a.eval x = v) (hy : a.eval y = u) (cells : Array Value) (hb : P.built t [(i, v), (j, u)] = some cells) : YieldsIf P ops S op (.agg cells) a :=
  .inl ⟨hw, fun w hw' => by
    have e : ((#[(i, x), (j, y)] : Array (Nat × Operand)).map fun (i, x) => (i, a.eval x)).toList = [(i, v), (j, u)] := by simp [hx, hy]
    unfold execOp
    simp only [ho, Sem.run_bind, run_build w t _ cells (by rw [e]; exact hb), Result.andThen_ok, Sem.run_pure]⟩
theorem SinceM.sl {a b : World} (h : SinceM a b) {B : Nat} {A : Option Addr} {l : List UInt8} (hs : Sl a B A l) (hB : B ≤ a.heap.size) : Sl b B A l := Sv.below hs (Below.mono h hB)
theorem yields_strM {P : Program} {ops : Array Oper} {S : World → Prop} {op : Oper} {a : Act} (hw : Region.wanted op (yielded ops a.tmps) = true) (src dst e : TypeId) (x : Operand) (ho : op.op = .convert src dst x)
    (hs : P.underlying src = some (.slice e)) (he : P.underlying e = some (.int .u8)) (hd : P.underlying dst = some .string) (B : Nat) (A : Option Addr) (n c : Nat) (l : List UInt8) (hx : a.eval x = .slice A n c) (hn : l.length = n) (hS : ∀ w, S w → Sl w B A l) :
    YieldsIf P ops S op (.string (strB l)) a :=
  .inl ⟨hw, fun w hw' => by
    unfold execOp
    simp only [ho, hx, Sem.run_bind, run_string_sl w src dst e hs he hd B A n c l (hS w hw') hn, Result.andThen_ok, Sem.run_pure]⟩
theorem wp_make_mnM {P : Program} {w : World} {o : Oper} {a : Act} {K : Act → World → Prop} {Q : Exit → Act → World → Prop}
    (l c : Operand) (t : TypeId) (hop : o.op = Op.makeSlice t l c)
    (e : TypeId) (i : TypeInfo) (z : Value) (ht : P.underlying t = some (.slice e)) (hi : P.info? e = some i) (hz : i.zero = some z) (hsize : i.size = 1) (hz1 : z.cells = #[z])
    (kl kc : IntKind) (M N : Int) (m n : Nat) (hl : a.eval l = .int kl M) (hc : a.eval c = .int kc N) (hM : M = (m : Int)) (hN : N = (n : Int)) (hmn : m ≤ n) (hbytes : i.bytes * n ≤ 281474976710656) (h63 : n ≤ 9223372036854775807)
    (hK : K (a.put o.dst (.slice (some ⟨w.heap.size, 0, none⟩) m n)) (w.alloc (.cells (List.replicate n z).toArray e))) : o.wp P a w K Q := by
  have hb' : (i.bytes : Int) * (n : Int) ≤ 281474976710656 := by
    have h : ((i.bytes * n : Nat) : Int) ≤ 281474976710656 := by omega
    rwa [Int.natCast_mul] at h
  have hr := run_make (P := P) w t e i z ht hi hz kl kc m n (by omega) (by omega) hb' (by omega)
  simp only [Int.toNat_natCast, hsize, Nat.mul_one, hz1, madeCells_one] at hr
  subst hM
  subst hN
  unfold Oper.wp
  simp [execOp, hop, hl, hc, hr, Result.andThen]
  exact hK
/-- A row of the call's own, of a call that began earlier. -/
theorem own_base {w : World} {base base' : Nat} {e : TypeId} {v : Value} {n : Nat} {xs : List Value} (h : w.ownsRow base e 1 v n xs) (hb : base' ≤ base) : w.ownsRow base' e 1 v n xs := by
  refine ⟨h.1, ?_⟩
  rcases h.2 with hn | ⟨g, cap, cur, h1, h2, h3⟩
  · exact .inl hn
  · exact .inr ⟨g, cap, cur, h1, Nat.le_trans hb h2, h3⟩
end Go.Proofs.Ytajfpbkeabdcaaa
