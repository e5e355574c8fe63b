/-
  append of ranges to a row of ranges of the call's own; and span.turned.
-/
import Derived.Test.YtaemfoelhijbjaaSpSmall
import Derived.Maps.AppendAt
import Derived.Deep.RegionLaw
namespace Go.Proofs.Ytaemfoelhijbjaa
open Go.RowKit
set_option linter.unusedVariables false

theorem info_rg : (Try.prog.info? 42).map (fun i => (i.zero, i.size, i.bytes)) = some (some (.agg #[.int .u64 0, .int .u64 0]), 2, 16) := by kernel_rfl
theorem size_rg : (Try.prog.info? 42).map (·.size) = some 2 := by kernel_rfl

/-- A row of ranges of the call's own. -/
def OwR (base : Nat) (w : World) (v : Value) (l : List (Nat × Nat)) : Prop := w.ownsRow base 42 2 v l.length (l.flatMap rcS)

theorem OwR.nil (base : Nat) (w : World) : OwR base w (.slice none 0 0) [] := World.ownsRow_nil _ _ _ 2
theorem OwR.made (w : World) : OwR w.heap.size (w.alloc (.cells #[] 42)) (.slice (some ⟨w.heap.size, 0, none⟩) 0 0) [] := World.ownsRow_made w #[] 0 (Nat.le_refl _) (Nat.zero_le _) rfl
theorem OwR.form {base : Nat} {w : World} {v : Value} {l : List (Nat × Nat)} (h : OwR base w v l) : ∃ A c, v = .slice A l.length c ∧ l.length ≤ c ∧ c ≤ maxLen := ownR_form h
theorem OwR.rs {base : Nat} {w : World} {A : Option Addr} {c : Nat} {l : List (Nat × Nat)} (h : OwR base w (.slice A l.length c) l) : Rs w w.heap.size A l := Rs.of_own h
theorem OwR.rsIn {base : Nat} {w : World} {A : Option Addr} {c : Nat} {l : List (Nat × Nat)} (h : OwR base w (.slice A l.length c) l) : RsIn w (base ≤ ·) A l := RsIn.of_own h
theorem OwR.below {base : Nat} {w w' : World} {v : Value} {l : List (Nat × Nat)} (h : OwR base w v l) (hb : Below w.heap.size w w') : OwR base w' v l := ownR_below h hb
theorem OwR.grown {base : Nat} {w w' : World} {v : Value} {row : Option Nat} {l : List (Nat × Nat)} (h : OwR base w v l) (hb : w.grownBy w' row) (hne : ∀ g, row = some g → v.ownBlock ≠ some g) : OwR base w' v l := ownR_grown h hb hne
theorem OwR.base {base base' : Nat} {w : World} {v : Value} {l : List (Nat × Nat)} (h : OwR base w v l) (hb : base' ≤ base) : OwR base' w v l := ownR_base h hb
theorem OwR.ge {base : Nat} {w : World} {v : Value} {l : List (Nat × Nat)} (h : OwR base w v l) {g : Nat} (hg : v.ownBlock = some g) : base ≤ g ∧ g < w.heap.size := World.ownsRow.lt h g hg

/-- What an append of ranges leaves, wherever they lie. -/
theorem run_app_rg {w : World} {base : Nat} {v : Value} {l : List (Nat × Nat)} (hown : OwR base w v l) {B : Nat} {A : Option Addr} {m c : Nat} {news : List (Nat × Nat)} (hr : Rs w B A news) (hm : news.length = m)
    (hlen : l.length + m ≤ 16777216) (hbase : base ≤ w.heap.size) (ty : TypeId) :
    ∃ v' w', (Builtin.append_ #[23, 23] ty #[v, .slice A m c]).run Try.prog w = .ok v' w' ∧ OwR base w' v' (l ++ news) ∧ w.grownBy w' v.ownBlock ∧ (v'.ownBlock = v.ownBlock ∨ v'.ownBlock = some w.heap.size) := by
  obtain ⟨i0, hi0, hz0, hz1, hz2⟩ := info_parts info_rg
  subst hm
  have key : ∀ (b off : Nat), A = some ⟨b, off, none⟩ → (∀ i x, news[i]? = some x → w.cell? ⟨b, off + i * 2, none⟩ = some (.int .u64 (x.1 : Int)) ∧ w.cell? ⟨b, off + i * 2 + 1, none⟩ = some (.int .u64 (x.2 : Int))) →
      ∃ v' w', (Builtin.append_ #[23, 23] ty #[v, .slice A news.length c]).run Try.prog w = .ok v' w' ∧ OwR base w' v' (l ++ news) ∧ w.grownBy w' v.ownBlock ∧ (v'.ownBlock = v.ownBlock ∨ v'.ownBlock = some w.heap.size) := by
    intro b off hA hc
    subst hA
    obtain ⟨v', w', h1, h2, h3, _, h5⟩ := run_append_own_at (P := Try.prog) w base 23 ty 42 i0 _ 2 16 Try.underlying23 hi0 hz0 hz1 hz2 rfl (by omega) v l.length (l.flatMap rcS) hown ⟨b, off, none⟩ news.length c (news.flatMap rcS) (rcS_len news)
      (fun j u hu => by rw [Addr.add_lit]; exact cells_of_flat hc j u hu) (rcSs_one news) (by unfold maxLen; omega) (by omega) hbase
    refine ⟨v', w', h1, ?_, h3, h5⟩
    unfold OwR
    rw [List.length_append, List.flatMap_append]
    exact h2
  by_cases h0 : news = []
  · subst h0
    rcases A with _ | ad
    · refine ⟨v, w, ?_, by simpa using hown, World.grownBy.refl w _, .inl rfl⟩
      rcases hown.2 with ⟨rfl, hz⟩ | ⟨g, cap, cur, rfl, _, _, hnc, _⟩
      · simp [Builtin.append_, run_underlying Try.underlying23, sizeOf, typeInfo, hi0, Builtin.lenOf, Builtin.firstCells]
      · simp [Builtin.append_, run_underlying Try.underlying23, sizeOf, typeInfo, hi0, Builtin.lenOf, Builtin.firstCells, hnc, storeCells]
    · obtain ⟨v', w', h1, h2, h3, _, h5⟩ := run_append_own_at (P := Try.prog) w base 23 ty 42 i0 _ 2 16 Try.underlying23 hi0 hz0 hz1 hz2 rfl (by omega) v l.length (l.flatMap rcS) hown ad 0 c [] rfl
        (fun j u hu => by simp at hu) (by simp) (by unfold maxLen; omega) (by omega) hbase
      exact ⟨v', w', h1, by simpa [OwR] using h2, h3, h5⟩
  · obtain ⟨b, off, hA, _, hc⟩ := hr h0
    exact key b off hA hc

/-- append at an operation of a plain region. -/
theorem wpList_app_rg {ops : Array Oper} {rest : List Oper} {o : Oper} {a : Act} {w : World} {Q : Exit → Act → World → Prop} (hgd : o.guard = none) (s x : Operand) (ho : o.op = .call { callee := .builtin .append, args := #[s, x], argTypes := #[23, 23] })
    (base : Nat) (v : Value) (l : List (Nat × Nat)) (hs : a.eval s = v) (hown : OwR base w v l) (B : Nat) (A : Option Addr) (m c : Nat) (news : List (Nat × Nat)) (hx : a.eval x = .slice A m c) (hr : Rs w B A news) (hm : news.length = m)
    (hlen : l.length + m ≤ 16777216) (hbase : base ≤ w.heap.size)
    (h : ∀ v' w', OwR base w' v' (l ++ news) → w.grownBy w' v.ownBlock → (v'.ownBlock = v.ownBlock ∨ v'.ownBlock = some w.heap.size) → wpList Try.prog ops Q rest (a.put o.dst v') w') :
    wpList Try.prog ops Q (o :: rest) a w := by
  refine wpList_plain hgd fun K hK => ?_
  obtain ⟨v', w', hrun, h2, h3, h4⟩ := run_app_rg hown (c := c) hr hm hlen hbase o.type
  unfold Oper.wp execOp
  simp only [ho, resolve, invoke, builtin, Sem.run_bind, Sem.run_pure, Result.andThen_ok, List.map_toArray, List.map_cons, List.map_nil, hs, hx, hrun]
  exact hK _ _ (h v' w' h2 h3 h4)

/-- .. of a region that draws its order. -/
theorem step_app_rg {ops : Array Oper} {o : Oper} {a : Act} {w : World} {K : Act → World → Prop} {Q : Exit → Act → World → Prop} {E : Prop} (hgd : o.guard = none) (s x : Operand) (ho : o.op = .call { callee := .builtin .append, args := #[s, x], argTypes := #[23, 23] })
    (base : Nat) (v : Value) (l : List (Nat × Nat)) (hs : a.eval s = v) (hown : OwR base w v l) (B : Nat) (A : Option Addr) (m c : Nat) (news : List (Nat × Nat)) (hx : a.eval x = .slice A m c) (hr : Rs w B A news) (hm : news.length = m)
    (hlen : l.length + m ≤ 16777216) (hbase : base ≤ w.heap.size)
    (h : ∀ v' w', OwR base w' v' (l ++ news) → w.grownBy w' v.ownBlock → (v'.ownBlock = v.ownBlock ∨ v'.ownBlock = some w.heap.size) → K (a.put o.dst v') w') :
    if Region.wanted o (yielded ops a.tmps) = true then Oper.wp Try.prog o a w K Q else E := by
  have hw : Region.wanted o (yielded ops a.tmps) = true := by simp [Region.wanted, hgd]
  rw [if_pos hw]
  obtain ⟨v', w', hrun, h2, h3, h4⟩ := run_app_rg hown (c := c) hr hm hlen hbase o.type
  unfold Oper.wp execOp
  simp only [ho, resolve, invoke, builtin, Sem.run_bind, Sem.run_pure, Result.andThen_ok, List.map_toArray, List.map_cons, List.map_nil, hs, hx, hrun]
  exact h v' w' h2 h3 h4

/-- A range in a block of its own. -/
theorem rs_new (w : World) (r : Nat × Nat) : Rs (w.alloc (.cells #[.int .u64 (r.1 : Int), .int .u64 (r.2 : Int)] 42)) (w.heap.size + 1) (some ⟨w.heap.size, 0, none⟩) [r] := by
  intro _
  refine ⟨w.heap.size, 0, rfl, by omega, fun i x hx => ?_⟩
  have hW := Wh.new w 42 #[.int .u64 (r.1 : Int), .int .u64 (r.2 : Int)]
  cases i with
  | zero =>
    simp only [List.getElem?_cons_zero, Option.some.injEq] at hx
    subst hx
    exact ⟨(hW.cell 0).trans rfl, (hW.cell 1).trans rfl⟩
  | succ i => simp at hx

theorem OwR.alloc {base : Nat} {w : World} {v : Value} {l : List (Nat × Nat)} (h : OwR base w v l) (o : Obj) : OwR base (w.alloc o) v l := h.below ((Below.refl _ _).alloc (Nat.le_refl _) o)

/-- What a function that goes on with a row of one's own leaves. -/
def RowGave (base : Nat) (w : World) (v : Value) (l : List (Nat × Nat)) (e : Ending) (w' : World) : Prop :=
  ∃ v', e = .returned v' ∧ OwR base w' v' l ∧ w.grownBy w' v.ownBlock ∧ (v'.ownBlock = v.ownBlock ∨ ∃ g, v'.ownBlock = some g ∧ w.heap.size ≤ g)

set_option maxRecDepth 10000 in
set_option maxHeartbeats 400000 in
theorem turnOpen_any (base : Nat) (v : Value) (l : List (Nat × Nat)) (x : Nat) (w : World) (hown : OwR base w v l) (hbase : base ≤ w.heap.size) (hlen : l.length ≤ 16777215) :
    Calls Try.prog 34 #[v, .int .u64 (x : Int), .bool true] w (RowGave base w v (l ++ [(x, 0)])) := by
  have HO := Lib.hid (hown.alloc (.cells #[.int .u64 (x : Int), .int .u64 0] 42))
  have HR := Lib.hid (rs_new w (x, 0))
  clear hown
  go_enter Try.func34, Try.ntmps34
  go_wp2_with (at_builtin; refine wpList_app_rg rfl _ _ rfl base v l rfl HO.out (w.heap.size + 1) _ _ _ [(x, 0)] rfl HR.out rfl (by omega) (by simp; omega) ?_; intro v1 w1 ho1 hg1 ha1)
  go_ret
  refine ⟨v1, rfl, ho1, grown_trans (World.grownBy_alloc w _ _) hg1, ?_⟩
  rcases ha1 with h | h
  · exact .inl h
  · exact .inr ⟨_, h, by simp⟩

set_option maxRecDepth 10000 in
set_option maxHeartbeats 400000 in
theorem turnShut_any (base : Nat) (v : Value) (o : List (Nat × Nat)) (f x : Nat) (w : World) (hown : OwR base w v (o ++ [(f, 0)])) (hlen : o.length ≤ 16777215) :
    Calls Try.prog 34 #[v, .int .u64 (x : Int), .bool false] w (RowGave base w v (o ++ [(f, x)])) := by
  have hl : (o ++ [(f, 0)]).length = o.length + 1 := by simp
  obtain ⟨g, c, cur, rfl, hb, hnc, hcm, hwh, _, _⟩ := ownR_some hown (by omega)
  have hown2 := hown
  have hx : (o ++ [(f, 0)])[o.length]? = some (f, 0) := by simp
  have hset := ownR_set hown o.length (f, 0) x hx
  have he : (o ++ [(f, 0)]).set o.length (f, x) = o ++ [(f, x)] := by simp
  rw [he] at hset
  rw [hl] at hset hnc ⊢
  have hfz := hwh.frozen (o.length * 2 + 1)
  have hcell : ∃ u, w.cell? ⟨g, o.length * 2 + 1, none⟩ = some u := by
    have := (Rs.of_own hown).at_ (by rw [hl]; omega)
    obtain ⟨b', off', e1, _, hc⟩ := this
    simp only [Option.some.injEq, Addr.mk.injEq, and_true] at e1
    obtain ⟨rfl, rfl⟩ := e1
    have := (hc o.length (f, 0) hx).2
    rw [Nat.zero_add] at this
    exact ⟨_, this⟩
  obtain ⟨u, hu⟩ := hcell
  have HS := Lib.hid hset
  unfold maxLen at hcm
  clear hown hown2 hset hwh he hx hl
  go_enter Try.func34, Try.ntmps34
  go_wp2
  go_ret
  refine ⟨_, rfl, ?_, grown_set _ _ _ _, .inl rfl⟩
  unfold OwR
  rw [List.length_append, List.length_singleton]
  exact HS.out

end Go.Proofs.Ytaemfoelhijbjaa
