/-
  Transport parameters by value: their cells by their reading; what Append, Take and the document's Same tell of them.
-/
import Derived.Test.YtpnpbjdkldmmdaaDoorQTake2
import Derived.Test.YtpnpbjdkldmmdaaDoorQApp
import Derived.Test.YtpnpbjdkldmmdaaDoorQSame
namespace Go.Proofs.YtpnpbjdkldmmdaaDoor
open Go.RowKit
set_option linter.unusedVariables false

/-- The cells R are the parameters q. -/
def IsQ (w : World) (R : Array Value) (q : PQ) : Prop :=
  q.tok.length = 16 ∧ ∃ A0 c0 A1 c1, R = prC A0 c0 A1 c1 q ∧ Sl w w.heap.size A0 q.orig ∧ Sl w w.heap.size A1 q.cid

theorem IsQ.below {w w' : World} {R : Array Value} {q : PQ} (h : IsQ w R q) (hb : Below w.heap.size w w') : IsQ w' R q := by
  obtain ⟨ht, A0, c0, A1, c1, e, h0, h1⟩ := h
  exact ⟨ht, A0, c0, A1, c1, e, (h0.below hb).keep hb.size (fun _ _ => rfl), (h1.below hb).keep hb.size (fun _ _ => rfl)⟩

theorem IsQ.size {w : World} {R : Array Value} {q : PQ} (h : IsQ w R q) : R.size = 28 := by
  obtain ⟨ht, A0, c0, A1, c1, rfl, _⟩ := h
  rw [prC_size, ht]

theorem IsQ.one {w : World} {R : Array Value} {q : PQ} (h : IsQ w R q) : R.all (·.oneCell') = true := by
  obtain ⟨ht, A0, c0, A1, c1, rfl, _⟩ := h
  exact prC_one _ _ _ _ _

theorem IsQ.info {w : World} {R : Array Value} {q : PQ} (h : IsQ w R q) : (Tryd.prog.info? 43).map (·.size) = some R.size := by
  rw [h.size]
  exact info_params

theorem IsQ.z (w : World) : IsQ w zRowQ zQ := ⟨rfl, none, 0, none, 0, zRowQ_eq, Sv.nil _ _ _, Sv.nil _ _ _⟩

/-- The same, their bytes in block lo or behind it. -/
def IsN (w : World) (lo : Nat) (R : Array Value) (q : PQ) : Prop :=
  q.tok.length = 16 ∧ ∃ A0 c0 A1 c1, R = prC A0 c0 A1 c1 q ∧ Sy w lo A0 (q.orig.map cell8) ∧ Sy w lo A1 (q.cid.map cell8)

theorem IsN.is {w : World} {lo : Nat} {R : Array Value} {q : PQ} (h : IsN w lo R q) : IsQ w R q := by
  obtain ⟨ht, A0, c0, A1, c1, e, h0, h1⟩ := h
  exact ⟨ht, A0, c0, A1, c1, e, h0.sv, h1.sv⟩

theorem IsN.grown {w w' : World} {lo : Nat} {row : Option Nat} {R : Array Value} {q : PQ} (h : IsN w lo R q) (hb : w.grownBy w' row) (hr : ∀ g, row = some g → g < lo) : IsN w' lo R q := by
  obtain ⟨ht, A0, c0, A1, c1, e, h0, h1⟩ := h
  exact ⟨ht, A0, c0, A1, c1, e, h0.grown hb hr, h1.grown hb hr⟩

theorem IsN.below {w w' : World} {lo : Nat} {R : Array Value} {q : PQ} (h : IsN w lo R q) (hb : Below w.heap.size w w') : IsN w' lo R q := h.grown (row := none) (grown_below hb) (by simp)

/-- What Take tells of bytes that tell some. -/
def TookQ (w : World) (q : PQ) (e : Ending) (w' : World) : Prop :=
  ∃ R, e = .returned (.tuple #[.agg R, .int .i64 0]) ∧ IsN w' w.heap.size R q ∧ Below w.heap.size w w'

/-- What Take tells of bytes that tell none. -/
def NoneQ (w : World) (e : Ending) (w' : World) : Prop :=
  ∃ R, e = .returned (.tuple #[.agg R, .int .i64 2]) ∧ IsQ w' R zQ ∧ Below w.heap.size w w'

theorem qtake_ok {l : List UInt8} {q : PQ} (h : takeQ l = some q) (A : Option Addr) (len c : Nat) (w : World) (hl : l.length = len) (hs : Sl w w.heap.size A l) (hc : len ≤ c) (hm : c ≤ maxLen) (hlen : len ≤ 1048576) :
    Calls Tryd.prog 19 #[.slice A len c] w (TookQ w q) := by
  subst hl
  refine (qtake_any l A c w hs hc hm hlen).mono ?_
  rintro e w' ⟨hb, hg⟩
  rw [h] at hg
  obtain ⟨ht, A0, c0, A1, c1, rfl, h0, h1⟩ := hg
  exact ⟨_, rfl, ⟨ht, A0, c0, A1, c1, rfl, h0, h1⟩, hb⟩

theorem qtake_no {l : List UInt8} (h : takeQ l = none) (A : Option Addr) (len c : Nat) (w : World) (hl : l.length = len) (hs : Sl w w.heap.size A l) (hc : len ≤ c) (hm : c ≤ maxLen) (hlen : len ≤ 1048576) :
    Calls Tryd.prog 19 #[.slice A len c] w (NoneQ w) := by
  subst hl
  refine (qtake_any l A c w hs hc hm hlen).mono ?_
  rintro e w' ⟨hb, hg⟩
  rw [h] at hg
  exact ⟨_, hg, IsQ.z _, hb⟩

theorem sameq_is {Ra Rb : Array Value} {q : PQ} {w : World} (ha : IsQ w Ra q) (hb : IsQ w Rb q) : Calls Tryd.prog 20 #[.agg Ra, .agg Rb] w fun e w' => e = .returned (.bool true) ∧ Below w.heap.size w w' := by
  obtain ⟨ht, A0, c0, A1, c1, ea, h0, h1⟩ := ha
  obtain ⟨_, B0, d0, B1, d1, eb, k0, k1⟩ := hb
  exact sameq_yes Ra Rb A0 c0 A1 c1 B0 d0 B1 d1 q ea eb w ht h0 h1 k0 k1

theorem qapp_is {R : Array Value} {q : PQ} {w : World} (h : IsQ w R q) (hm : mayQ q = true) (hT : Tab w) (A : Option Addr) (len c : Nat) (b : List UInt8) (hlb : b.length = len) (hrb : Sl w w.heap.size A b) (hlenb : len ≤ 65536) :
    Calls Tryd.prog 15 #[.slice A len c, .agg R] w (Gave w (b ++ bytesQ q) fun v => .tuple #[v, .int .i64 0]) := by
  obtain ⟨ht, A0, c0, A1, c1, e, h0, h1⟩ := h
  exact qapp_ok A len c b R A0 c0 A1 c1 q e w hT ht hm hlb hrb hlenb h0 h1

theorem qapp_isnt {R : Array Value} {q : PQ} {w : World} (h : IsQ w R q) (hm : mayQ q = false) (A : Option Addr) (len c : Nat) :
    Calls Tryd.prog 15 #[.slice A len c, .agg R] w (AppBad w) := by
  obtain ⟨ht, A0, c0, A1, c1, e, h0, h1⟩ := h
  exact qapp_bad A len c R A0 c0 A1 c1 q e w ht hm

/-- Parameters, loaded by an operation that may be guarded. -/
theorem wpList_load_q {P : Program} {ops : Array Oper} {rest : List Oper} {o : Oper} {a : Act} {w : World} {Q : Exit → Act → World → Prop} (ty : TypeId) (x : Operand) (ho : o.op = .load ty x) (hw : Region.wanted o (yielded ops a.tmps) = true)
    (g : Nat) (hx : a.eval x = .pointer (some ⟨g, 0, none⟩)) (t : TypeId) (cs : Array Value) (d : TypeDesc) (hg : Wh w g t cs)
    (hu : P.underlying ty = some d) (hd : (match d with | .struct _ | .array _ _ => true | _ => false) = true) (hi : (P.info? ty).map (·.size) = some cs.size)
    (h : wpList P ops Q rest (a.put o.dst (.agg cs)) w) : wpList P ops Q (o :: rest) a w :=
  wpList_step fun K hK => by
    rw [if_pos hw]
    exact wp_load_row ty x ho g hx t cs (0, 0) d hg hu hd hi (hK _ _ h)

/-- A slice that a region has written out. -/
theorem OB.lit {w : World} (cs : Array Value) (l : List UInt8) (n : Nat) (hc : cs = (l.map cell8).toArray) (hn : l.length = n) (hm : n ≤ 1000) : OB w (w.alloc (.cells cs 5)) (.slice (some ⟨w.heap.size, 0, none⟩) n n) l := by
  subst hn hc
  refine ⟨⟨by simp, .inr ⟨w.heap.size, l.length, _, rfl, Nat.le_refl _, heap_alloc_new w _, Nat.le_refl _, by unfold maxLen; omega, by simp, ?_⟩⟩, (Below.refl _ _).alloc (Nat.le_refl _) _⟩
  rw [Nat.mul_one]
  exact List.take_of_length_le (by simp)

/-- 'append(b, d...)' of bytes of one's own. -/
theorem wpList_app_ob {w0 w : World} {ops : Array Oper} {rest : List Oper} {o : Oper} {a : Act} {Q : Exit → Act → World → Prop} (hgd : o.guard = none) (s x : Operand)
    (ho : o.op = .call { callee := .builtin .append, args := #[s, x], argTypes := #[22, 22] })
    (v : Value) (b : List UInt8) (hs : a.eval s = v) (h : OB w0 w v b) (A : Option Addr) (m c : Nat) (d : List UInt8) (hx : a.eval x = .slice A m c) (hr : Sl w w.heap.size A d) (hm : d.length = m) (h63 : b.length + m ≤ 1048576)
    (k : ∀ v' w', OB w0 w' v' (b ++ d) → w.grownBy w' v.ownBlock → wpList Tryd.prog ops Q rest (a.put o.dst v') w') :
    wpList Tryd.prog ops Q (o :: rest) a w := by
  obtain ⟨i0, hi0, hz0, hz1, hz2⟩ := info_parts info8
  exact wpList_append_sv w hgd s x _ ho w0.heap.size 5 i0 _ 1 Tryd.underlying22 hi0 hz0 hz1 hz2 rfl v _ _ hs h.own w.heap.size A m c (d.map cell8) hx hr (by simpa using hm) (cell8_one d) (by unfold maxLen; omega) (by omega) h.bel.size
    (fun v' w' hown hg _ => k v' w' (h.app hown hm hg) hg)

/-- A block of bytes, as a slice. -/
theorem sl_blk {w : World} {g : Nat} {t : TypeId} {l : List UInt8} {R : Array Value} (h : Wh w g t R) (hR : R = (l.map cell8).toArray) : Sl w w.heap.size (some ⟨g, 0, none⟩) l := by
  subst hR
  intro hn
  exact ⟨g, 0, rfl, h.lt, fun i v hv => by rw [Nat.zero_add, h.cell]; simpa using hv⟩

/-- Parameters that are stored in a box of their own. -/
theorem box_put {w : World} {R : Array Value} {q : PQ} (h : IsQ w R q) (Z : Array Value) :
    Wh ((w.alloc (.cells Z 43)).setRow w.heap.size R) w.heap.size 43 R ∧ Below w.heap.size w ((w.alloc (.cells Z 43)).setRow w.heap.size R) :=
  ⟨setRow_heap _ _ _ _ _ _ (Wh.new _ _ _), below_setRow ((Below.refl _ _).alloc (Nat.le_refl _) _) (Nat.le_refl _) _⟩

end Go.Proofs.YtpnpbjdkldmmdaaDoor
