/-
  Transport parameters: all that bytes tell (param.Take).
-/
import Derived.Test.YtpnpbjdkldmmdaaDoorQOne
import Derived.Test.YtpnpbjdkldmmdaaDoorQSet
import Derived.Maps.OwnSet
import Derived.Deep.Cut
import Derived.BigQuiet
namespace Go.Proofs.YtpnpbjdkldmmdaaDoor
open Go.RowKit Go.Maps
set_option linter.unusedVariables false

/-- The cells of parameters that are zero. -/
def zRowQ : Array Value :=
  #[.slice none 0 0, .slice none 0 0, .int .u64 0, .int .u64 0, .int .u64 0, .int .u64 0, .int .u64 0, .int .u64 0, .int .u64 0, .int .u64 0, .int .u64 0, .bool false,
    .int .u8 0, .int .u8 0, .int .u8 0, .int .u8 0, .int .u8 0, .int .u8 0, .int .u8 0, .int .u8 0, .int .u8 0, .int .u8 0, .int .u8 0, .int .u8 0, .int .u8 0, .int .u8 0, .int .u8 0, .int .u8 0]

theorem zRowQ_eq : zRowQ = prC none 0 none 0 zQ := rfl

/-- The set of the numbers that stood. -/
def Sd (st : List Nat) : DataW Unit := setOf (.agg []) (st.reverse.map fun (n : Nat) => Lit.int .u64 (n : Int))

theorem Sd_nil : Sd [] = .map [] := rfl
theorem Sd_cons (st : List Nat) (id : Nat) : Sd (id :: st) = (Sd st).put (.int .u64 (id : Int)) (.agg []) := by
  unfold Sd
  rw [List.reverse_cons, List.map_append]
  exact setOf_snoc _ _ _

theorem any_key (id : Nat) : ∀ l : List Nat, (l.map fun (n : Nat) => Lit.int .u64 (n : Int)).any (fun y => y.sameKey (.int .u64 (id : Int))) = decide (id ∈ l)
  | [] => rfl
  | a :: r => by
    rw [List.map_cons, List.any_cons, any_key id r]
    have h : (Lit.int .u64 (a : Int)).sameKey (.int .u64 (id : Int)) = decide (a = id) := by
      show decide (IntKind.u64 = IntKind.u64 ∧ (a : Int) = (id : Int)) = decide (a = id)
      rw [decide_eq_decide]
      constructor
      · intro h; omega
      · intro h; exact ⟨rfl, by omega⟩
    rw [h, Bool.eq_iff_iff, Bool.or_eq_true, decide_eq_true_iff, decide_eq_true_iff, decide_eq_true_iff, List.mem_cons]
    constructor
    · rintro (h | h)
      · exact .inl h.symm
      · exact .inr h
    · rintro (h | h)
      · exact .inl h.symm
      · exact .inr h

theorem has_Sd (st : List Nat) (id : Nat) : Maps.has (Sd st) (.int .u64 (id : Int)) = decide (id ∈ st) := by
  unfold Sd
  rw [has_setOf _ _ _ (fun y hy => by obtain ⟨_, _, rfl⟩ := List.mem_map.1 hy; trivial), any_key, decide_eq_decide]
  exact List.mem_reverse

theorem lawKey : Keyed Tryd.prog 23 := int_keyed Tryd.underlying23
theorem zeroUnit (w : World) : (zeroValue 81).run Tryd.prog w = .ok (.agg #[]) w := by kernel_rfl

theorem key_of (id : Nat) (h : id < 18446744073709551616) : keyOf Tryd.prog 23 (.int .u64 (id : Int)) = some (.int .u64 (id : Int)) := keyOf_int_mk Tryd.underlying23 (by
  have h1 : IntKind.u64.min = 0 := by decide
  have h2 : IntKind.u64.max = 18446744073709551615 := by decide
  simp only [Lit.wf, h1, h2, Bool.and_eq_true, decide_eq_true_iff]
  omega)

theorem unit_mk : (unitElem (H := Unit)) (.agg #[]) = some (.agg [], []) := unitElem_mk

/-- What Take has under way. -/
structure TQ (w wr : World) (o : Option PQ) (rest : List UInt8) (Ar : Option Addr) (cr : Nat) (st : List Nat) (q : PQ) (A0 : Option Addr) (c0 : Nat) (A1 : Option Addr) (c1 : Nat) : Prop where
  go : o = goQ (rest.length + 1) rest st q
  bel : Below w.heap.size w wr
  sz : w.heap.size + 3 ≤ wr.heap.size
  res : Wh wr w.heap.size 43 zRowQ
  box : Wh wr (w.heap.size + 1) 43 (prC A0 c0 A1 c1 q)
  tok : q.tok.length = 16
  s0 : Sy wr (w.heap.size + 3) A0 (q.orig.map cell8)
  s1 : Sy wr (w.heap.size + 3) A1 (q.cid.map cell8)
  map : wr.ownsMap Tryd.prog 23 (unitElem (H := Unit)) (w.heap.size + 2) st.length (Sd st)
  src : Sl w w.heap.size Ar rest
  hc : rest.length ≤ cr
  hm : cr ≤ maxLen
  cnt : st.length + rest.length ≤ 1048576

theorem TQ.below {w wr w' : World} {o : Option PQ} {rest : List UInt8} {Ar : Option Addr} {cr : Nat} {st : List Nat} {q : PQ} {A0 : Option Addr} {c0 : Nat} {A1 : Option Addr} {c1 : Nat} (h : TQ w wr o rest Ar cr st q A0 c0 A1 c1) (hb : Below wr.heap.size wr w') :
    TQ w w' o rest Ar cr st q A0 c0 A1 c1 :=
  { h with
    bel := h.bel.trans (hb.mono h.bel.size)
    sz := Nat.le_trans h.sz hb.size
    res := h.res.below hb h.res.lt
    box := h.box.below hb h.box.lt
    s0 := h.s0.below hb
    s1 := h.s1.below hb
    map := h.map.kept (row := none) (grown_below hb) (by simp) }

/-- A round's end. -/
theorem TQ.next {w w2 w3 w4 : World} {o : Option PQ} {rest v : List UInt8} {Ar Ar' A' : Option Addr} {cr cr' id used : Nat} {st : List Nat} {q q' : PQ} {A0 A0' : Option Addr} {c0 c0' : Nat} {A1 A1' : Option Addr} {c1 c1' : Nat} (h : TQ w w2 o rest Ar cr st q A0 c0 A1 c1)
    (hset : setQ q id v = some q') (hgo : o = goQ ((rest.drop used).length + 1) (rest.drop used) (id :: st) q') (hu : 1 ≤ used) (hul : used ≤ rest.length) (hg3 : w2.grownBy w3 (some (w.heap.size + 1))) (hbox : Wh w3 (w.heap.size + 1) 43 (prC A0' c0' A1' c1' q'))
    (hy : Sy w2 (w.heap.size + 3) A' (v.map cell8)) (h0 : (A0' = A0 ∧ q'.orig = q.orig) ∨ (A0' = A' ∧ q'.orig = v)) (h1 : (A1' = A1 ∧ q'.cid = q.cid) ∨ (A1' = A' ∧ q'.cid = v))
    (hown : w4.ownsMap Tryd.prog 23 (unitElem (H := Unit)) (w.heap.size + 2) (st.length + 1) ((Sd st).put (.int .u64 (id : Int)) (.agg []))) (hg4 : w3.grownBy w4 (some (w.heap.size + 2)))
    (hsrc : Sl w w.heap.size Ar' (rest.drop used)) (hc' : (rest.drop used).length ≤ cr') (hm' : cr' ≤ maxLen) : TQ w w4 o (rest.drop used) Ar' cr' (id :: st) q' A0' c0' A1' c1' where
  go := hgo
  bel := (h.bel.grown hg3 h.bel.size (fun j hj => by obtain rfl := Option.some.inj hj; omega)).grown hg4 (Nat.le_trans h.bel.size hg3.size) (fun j hj => by obtain rfl := Option.some.inj hj; omega)
  sz := Nat.le_trans h.sz (Nat.le_trans hg3.size hg4.size)
  res := (h.res.grown hg3 (by simp)).grown hg4 (by simp)
  box := hbox.grown hg4 (by simp)
  tok := by
    rcases (set_val hset).2.2.2.1 with e | e
    · exact e
    · rw [e]; exact h.tok
  s0 := by
    have hl3 : ∀ g, some (w.heap.size + 1) = some g → g < w.heap.size + 3 := fun g hg => by obtain rfl := Option.some.inj hg; omega
    have hl4 : ∀ g, some (w.heap.size + 2) = some g → g < w.heap.size + 3 := fun g hg => by obtain rfl := Option.some.inj hg; omega
    rcases h0 with ⟨rfl, e⟩ | ⟨rfl, e⟩
    · rw [e]; exact (h.s0.grown hg3 hl3).grown hg4 hl4
    · rw [e]; exact (hy.grown hg3 hl3).grown hg4 hl4
  s1 := by
    have hl3 : ∀ g, some (w.heap.size + 1) = some g → g < w.heap.size + 3 := fun g hg => by obtain rfl := Option.some.inj hg; omega
    have hl4 : ∀ g, some (w.heap.size + 2) = some g → g < w.heap.size + 3 := fun g hg => by obtain rfl := Option.some.inj hg; omega
    rcases h1 with ⟨rfl, e⟩ | ⟨rfl, e⟩
    · rw [e]; exact (h.s1.grown hg3 hl3).grown hg4 hl4
    · rw [e]; exact (hy.grown hg3 hl3).grown hg4 hl4
  map := by
    rw [Sd_cons]
    exact hown
  src := hsrc
  hc := hc'
  hm := hm'
  cnt := by
    have := h.cnt
    rw [List.length_cons, List.length_drop]
    omega

end Go.Proofs.YtpnpbjdkldmmdaaDoor
