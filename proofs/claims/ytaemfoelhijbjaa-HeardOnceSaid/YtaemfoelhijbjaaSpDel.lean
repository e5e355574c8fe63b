/-
  slices.Clone, slices.IndexFunc, slices.DeleteFunc at ranges.
-/
import Derived.Test.YtaemfoelhijbjaaSpRow
import Derived.Test.YtaemfoelhijbjaaSpShelf
import Derived.Lib.SliceRun
namespace Go.Proofs.Ytaemfoelhijbjaa
open Go.RowKit
set_option linter.unusedVariables false

theorem Wh.putsS {g : Nat} {t : TypeId} : ∀ (vs : List Value) (o : Nat) (cs : List Value) (w : World), Wh w g t cs.toArray → o + vs.length ≤ cs.length →
    Wh (w.setCells g o vs) g t (cs.take o ++ (vs ++ cs.drop (o + vs.length))).toArray ∧ w.grownBy (w.setCells g o vs) (some g)
  | [], o, cs, w, h, hl => by
    refine ⟨?_, World.grownBy.refl _ _⟩
    rw [World.setCells, List.length_nil, Nat.add_zero, List.nil_append, List.take_append_drop]
    exact h
  | v :: r, o, cs, w, h, hl => by
    rw [List.length_cons] at hl
    have h1 := h.put o v
    rw [List.setIfInBounds_toArray] at h1
    obtain ⟨h2, h3⟩ := Wh.putsS r (o + 1) (cs.set o v) (w.setCell ⟨g, o, none⟩ v) h1 (by rw [List.length_set]; omega)
    rw [World.setCells]
    refine ⟨?_, grown_trans (grown_set w g o v) h3⟩
    have e1 : (cs.set o v).take (o + 1) = cs.take o ++ [v] := by
      rw [List.take_add_one, List.take_set_of_le (Nat.le_refl _), List.getElem?_set_self (by omega)]
      rfl
    have e2 : (cs.set o v).drop (o + 1 + r.length) = cs.drop (o + (v :: r).length) := by
      rw [List.drop_set_of_lt (by omega), List.length_cons, show o + 1 + r.length = o + (r.length + 1) by omega]
    rw [e1, e2, List.append_assoc] at h2
    exact h2

theorem flat_take : ∀ (l : List (Nat × Nat)) (m : Nat), (l.flatMap rcS).take (m * 2) = (l.take m).flatMap rcS
  | [], m => by simp
  | r :: l, 0 => by simp
  | r :: l, m + 1 => by
    rw [List.flatMap_cons, List.take_succ_cons, List.flatMap_cons, ← flat_take l m, show (m + 1) * 2 = (rcS r).length + m * 2 by simp [rcS]; omega, List.take_length_add_append]

/-- The first elements of a row of one's own, where what is behind them is laid over. -/
theorem OwR.cutOver {base : Nat} {w : World} {g c m : Nat} {l : List (Nat × Nat)} (h : OwR base w (.slice (some ⟨g, 0, none⟩) l.length c) l) (hm : m ≤ l.length) (vs : List Value) (hv : vs.length ≤ (l.length - m) * 2) :
    OwR base (w.setCells g (m * 2) vs) (.slice (some ⟨g, 0, none⟩) (l.take m).length c) (l.take m) ∧ w.grownBy (w.setCells g (m * 2) vs) (some g) := by
  have hmc : (l.take m).length = m := by simp; omega
  by_cases h0 : l.length = 0
  · have hl : l = [] := List.eq_nil_of_length_eq_zero h0
    subst hl
    have hvs : vs = [] := List.eq_nil_of_length_eq_zero (by simpa using hv)
    subst hvs
    refine ⟨by simpa [World.setCells] using h, World.grownBy.refl _ _⟩
  obtain ⟨g', c', cur, hs, h1, h2, h3, h4, h5, h6⟩ := ownR_some h (by omega)
  simp only [Value.slice.injEq, Option.some.injEq, Addr.mk.injEq, and_true] at hs
  obtain ⟨rfl, _, rfl⟩ := hs
  have hcur : cur.toList.length = c * 2 := by simpa using h5
  have hmul : l.length * 2 ≤ c * 2 := by omega
  obtain ⟨h7, h8⟩ := Wh.putsS vs (m * 2) cur.toList w (by simpa using h4) (by rw [hcur]; omega)
  refine ⟨?_, h8⟩
  refine ownR_of h1 h7 (by omega) h3 (by simp [hcur]; omega) (rcS_len _) ?_
  rw [hmc, List.take_append_of_le_length (by rw [List.length_take, hcur]; omega), List.take_take, Nat.min_self]
  have e : cur.toList.take (m * 2) = (cur.toList.take (l.length * 2)).take (m * 2) := by rw [List.take_take, Nat.min_eq_left (by omega)]
  rw [e, h6, flat_take]

/-- One element of a row of one's own stored anew. -/
theorem OwR.put {base : Nat} {w : World} {g n c : Nat} {l : List (Nat × Nat)} (h : w.ownsRow base 42 2 (.slice (some ⟨g, 0, none⟩) n c) n (l.flatMap rcS)) (i : Nat) (hi : i < l.length) (x : Nat × Nat) :
    ((w.setCell ⟨g, i * 2, none⟩ (.int .u64 (x.1 : Int))).setCell ⟨g, i * 2 + 1, none⟩ (.int .u64 (x.2 : Int))).ownsRow base 42 2 (.slice (some ⟨g, 0, none⟩) n c) n ((l.set i x).flatMap rcS) := by
  obtain ⟨y, hy⟩ : ∃ y, l[i]? = some y := ⟨_, List.getElem?_eq_getElem hi⟩
  have h1 := ownR_set0 h i y x.1 hy
  have h2 := ownR_set h1 i (x.1, y.2) x.2 (by simp [hi])
  rw [List.set_set] at h2
  exact h2

theorem emptyB_any (x y : Nat) (w : World) :
    Calls Try.prog 26 #[.agg #[.int .u64 (x : Int), .int .u64 (y : Int)]] w fun e w' => e = .returned (.bool (decide (y ≤ x))) ∧ Below w.heap.size w w' :=
  (empty_any x y w).mono fun _ _ ⟨he, h⟩ => ⟨he, below_of_grow h⟩

set_option maxRecDepth 10000 in
set_option maxHeartbeats 400000 in
theorem clone_any (b off c : Nat) (l : List (Nat × Nat)) (w : World) (hb : b < w.heap.size) (hr : Rs w w.heap.size (some ⟨b, off, none⟩) l) (hlen : l.length ≤ 16777216) :
    Calls Try.prog 20 #[.slice (some ⟨b, off, none⟩) l.length c] w fun e w' => ∃ v, e = .returned v ∧ OwR w.heap.size w' v l ∧ Below w.heap.size w w' := by
  have q22 : ∀ (w : World) (a : Option Addr) (n c n' c' : Nat), (binOp .eql 23 (.slice a n c) (.slice none n' c')).run Try.prog w = .ok (.bool a.isNone) w := fun w a n c n' c' => Lib.run_eql_slice_nil w _ _ a n c n' c' Try.underlying23
  have HR := Lib.hid (hr.keep (Nat.le_refl _) (w' := w.alloc (.cells #[] 42)) fun p hp => ((Below.refl w.heap.size w).alloc (Nat.le_refl _) _).cell hp)
  have HO := Lib.hid (OwR.made w)
  clear hr
  obtain ⟨n, hn⟩ : ∃ n, n = l.length := ⟨_, rfl⟩
  rw [← hn] at hlen ⊢
  have HN := Lib.hid hn.symm
  clear hn
  go_enter Try.func20, Try.ntmps20
  go_wp2_with (at_builtin; refine wpList_app_rg rfl _ _ rfl w.heap.size (.slice (some ⟨w.heap.size, 0, none⟩) 0 0) [] rfl HO.out w.heap.size _ _ _ l rfl HR.out HN.out (by simp; omega) (by simp) ?_; intro v1 w1 ho1 hg1 ha1)
  go_ret
  exact ⟨v1, rfl, by simpa using ho1, ((Below.refl _ w).alloc (Nat.le_refl _) _).grown hg1 (by simp) (fun q hq => by simp [Value.ownBlock] at hq; omega)⟩

/-- Has the range a number? -/
def keepR (r : Nat × Nat) : Bool := !decide (r.2 ≤ r.1)

theorem index_any (b off n c : Nat) (l : List (Nat × Nat)) (w : World) (hb : b < w.heap.size) (hn : n = l.length) (hlen : n ≤ 16777216) (hr : Rs w w.heap.size (some ⟨b, off, none⟩) l) :
    Calls Try.prog 35 #[.slice (some ⟨b, off, none⟩) n c, .func (.func 26) #[] #[]] w fun e w' => e = .returned (.int .i64 (Lib.idxBy (fun _ y => decide (y.2 ≤ y.1)) (l.take n) (default : Nat × Nat))) ∧ Below w.heap.size w w' := by
  have eg : ∀ args w, (callFunc 26 args).run Try.prog w = .ok (.enter 26 args) w := enters_of Try.func26 (by kernel_rfl) rfl
  have hp : PredBelow Try.prog 26 #[] (fun x => .agg (rcS x).toArray) (fun x : Nat × Nat => decide (x.2 ≤ x.1)) w := fun W x hB => by
    show Calls Try.prog 26 #[.agg #[.int .u64 (x.1 : Int), .int .u64 (x.2 : Int)]] W _
    exact (emptyB_any x.1 x.2 W).mono fun _ _ ⟨he, h⟩ => ⟨he, hB.trans (h.mono hB.size)⟩
  have hcon := AnyQ.slices_IndexFunc idxRg 2 Try.isAgg42 Try.sizeOf42 rcS (fun _ => rfl) (fun x => decide (x.2 ≤ x.1)) 26 #[] eg b off n c l w hp (by omega) (by omega) hb (fun j hj i v hi => by
    obtain ⟨b', off', e1, _, hc⟩ := hr (by rintro rfl; simp at hj)
    simp only [Option.some.injEq, Addr.mk.injEq, and_true] at e1
    obtain ⟨rfl, rfl⟩ := e1
    have hx : l[j]? = some l[j] := List.getElem?_eq_getElem hj
    have h2 := hc j _ hx
    rw [getElem!_pos l j hj] at hi
    match i, hi with
    | 0, hi => simp [rcS] at hi; rw [← hi]; exact h2.1
    | 1, hi => simp [rcS] at hi; rw [← hi]; exact h2.2
    | i + 2, hi => simp [rcS] at hi)
  exact hcon

end Go.Proofs.Ytaemfoelhijbjaa
