/-
  A slice literal of one great struct, in a region that draws its order. No program is named here.
  The walk through frame.List.
-/
import Derived.Great.BuildSlice
import Derived.Test.YtkkojhkglcigmaaDoorWords
import Derived.Test.YtkkojhkglcigmaaDoorFTake
import Derived.Test.YtkkojhkglcigmaaDoorFApp
import Derived.Test.YtkkojhkglcigmaaDoorFLen
namespace Go.Proofs.YtkkojhkglcigmaaDoor

section
open Go.RowKit

theorem foldl_set (l : List Value) (k : Nat) (Z : Array Value) : ((l.zipIdx k).foldl (fun cs x => cs.setIfInBounds x.2 x.1) Z).size = Z.size ∧
    ∀ i, ((l.zipIdx k).foldl (fun cs x => cs.setIfInBounds x.2 x.1) Z)[i]? = if k ≤ i ∧ i < k + l.length ∧ i < Z.size then l[i - k]? else Z[i]? := by
  induction l generalizing k Z with
  | nil =>
    refine ⟨rfl, fun i => ?_⟩
    rw [if_neg (by simp; omega)]
    rfl
  | cons x l ih =>
    rw [List.zipIdx_cons, List.foldl_cons]
    obtain ⟨h1, h2⟩ := ih (k + 1) (Z.setIfInBounds k x)
    refine ⟨by rw [h1]; simp, fun i => ?_⟩
    rw [h2 i]
    simp only [Array.size_setIfInBounds, List.length_cons]
    by_cases hi : k = i
    · subst hi
      rw [if_neg (by omega), Nat.sub_self]
      by_cases hz : k < Z.size
      · rw [if_pos (by omega)]
        simp [hz]
      · rw [if_neg (by omega)]
        simp [hz]
    · by_cases hc : k + 1 ≤ i ∧ i < k + 1 + l.length ∧ i < Z.size
      · rw [if_pos hc, if_pos (by omega), show i - k = (i - (k + 1)) + 1 by omega, List.getElem?_cons_succ]
      · rw [if_neg hc, if_neg (by omega)]
        simp [hi]

theorem fill_one (Z R : Array Value) (n : Nat) (hR : R.size = n) (h : Z.size = n) : Instr.fill (fun i => some (i * n, n)) Z [(0, .agg R)] = some R := by
  subst hR
  have hf : (R.zipIdx.foldl (fun cs x => cs.setIfInBounds x.2 x.1) Z) = R := by
    have e : R.zipIdx.foldl (fun cs x => cs.setIfInBounds x.2 x.1) Z = (R.toList.zipIdx 0).foldl (fun cs x => cs.setIfInBounds x.2 x.1) Z := by
      rw [← Array.foldl_toList, Array.toList_zipIdx]
    rw [e]
    obtain ⟨h1, h2⟩ := foldl_set R.toList 0 Z
    apply Array.ext_getElem?
    intro i
    rw [h2 i]
    by_cases hi : i < R.size
    · rw [if_pos (by simp; omega)]
      simp
    · rw [if_neg (by simp; omega), Array.getElem?_eq_none (by omega), Array.getElem?_eq_none (by omega)]
  have hs : R.zipIdx.size = R.size := by simp
  simp [Instr.fill, Value.cells, h]
  rw [← hs]
  exact hf

theorem step_build_one {P : Program} {ops : Array Oper} {o : Oper} {a : Act} {w : World} {K : Act → World → Prop} {Q : Exit → Act → World → Prop} {E : Prop} (hgd : o.guard = none) (t e : TypeId) (x : Operand) (ho : o.op = .buildSlice t 1 #[(0, x)])
    (R : Array Value) (n : Nat) (hx : a.eval x = .agg R) (hR : R.size = n) (hn : 0 < n) (hn2 : n ≤ 1000) (ie : TypeInfo) (z : Value) (hu : P.underlying t = some (.slice e)) (hie : P.info? e = some ie) (hz : ie.zero = some z) (hs : ie.size = n)
    (h : K (a.put o.dst (.slice (some ⟨w.heap.size, 0, none⟩) 1 1)) (w.alloc (.cells R e))) : if Region.wanted o (yielded ops a.tmps) = true then Oper.wp P o a w K Q else E := by
  have hw : Region.wanted o (yielded ops a.tmps) = true := by simp [Region.wanted, hgd]
  rw [if_pos hw]
  refine wp_buildSlice t e 1 #[(0, x)] ho R ie z hu hie hz (by rw [hs]; omega) (by rw [hs]; omega) ?_ h
  have e : ((#[(0, x)] : Array (Nat × Operand)).map fun (i, x) => (i, a.eval x)).toList = [(0, .agg R)] := by simp [hx]
  rw [e, hs, Nat.one_mul]
  exact fill_one _ R n hR (by simp)
end

section
open Go.RowKit
set_option linter.unusedVariables false

/-- A frame whose lists lie behind lo, and not in a slice's block. -/
structure LF (w : World) (lo : Nat) (v : Value) (f : PF) (a : SA) : Prop where
  at_ : FrAt w w.heap.size f a
  fd : Fresh (lo + 1) a.dA
  fc : Fresh (lo + 1) a.cA
  fa : Fresh (lo + 1) a.aA
  nd : f.data ≠ [] → ∀ p, a.dA = some p → v.ownBlock ≠ some p.block
  nc : f.cid ≠ [] → ∀ p, a.cA = some p → v.ownBlock ≠ some p.block
  na : f.acks ≠ [] → ∀ p, a.aA = some p → v.ownBlock ≠ some p.block

theorem Sl.skip {w w' : World} {row : Option Nat} {A : Option Addr} {l : List UInt8} (h : Sl w w.heap.size A l) (hg : w.grownBy w' row) (hr : l ≠ [] → ∀ p, A = some p → row ≠ some p.block) : Sl w' w'.heap.size A l := by
  intro hn
  obtain ⟨b, off, rfl, hb, hc⟩ := h hn
  have hl : l ≠ [] := fun e => hn (by rw [e]; rfl)
  exact ⟨b, off, rfl, Nat.lt_of_lt_of_le hb hg.size, fun i v hv => (World.cell?_of_block (hg.block b hb (fun e => hr hl _ rfl e.symm))).trans (hc i v hv)⟩

theorem Sr.skip {w w' : World} {row : Option Nat} {A : Option Addr} {l : List (Nat × Nat)} (h : Sr w w.heap.size A l) (hg : w.grownBy w' row) (hr : l ≠ [] → ∀ p, A = some p → row ≠ some p.block) : Sr w' w'.heap.size A l := by
  intro hn
  obtain ⟨b, off, rfl, hb, hc⟩ := h hn
  refine ⟨b, off, rfl, Nat.lt_of_lt_of_le hb hg.size, fun i x hx => ?_⟩
  obtain ⟨h1, h2⟩ := hc i x hx
  have hk : ∀ q : Addr, q.block = b → w'.cell? q = w.cell? q := fun q hq => World.cell?_of_block (by rw [hq]; exact hg.block b hb (fun e => hr hn _ rfl e.symm))
  exact ⟨(hk _ rfl).trans h1, (hk _ rfl).trans h2⟩

theorem FrAt.skip {w w' : World} {row : Option Nat} {f : PF} {a : SA} (h : FrAt w w.heap.size f a) (hg : w.grownBy w' row) (h1 : f.data ≠ [] → ∀ p, a.dA = some p → row ≠ some p.block) (h2 : f.cid ≠ [] → ∀ p, a.cA = some p → row ≠ some p.block)
    (h3 : f.acks ≠ [] → ∀ p, a.aA = some p → row ≠ some p.block) : FrAt w' w'.heap.size f a :=
  { h with data := Sl.skip h.data hg h1, cid := Sl.skip h.cid hg h2, acks := Sr.skip h.acks hg h3 }

/-- Past a store at lo or below. -/
theorem LF.low {w w' : World} {lo : Nat} {v : Value} {f : PF} {a : SA} {row : Option Nat} (h : LF w lo v f a) (hg : w.grownBy w' row) (hr : ∀ k, row = some k → k ≤ lo) : LF w' lo v f a :=
  ⟨h.at_.skip hg (fun _ p hp e => by have := hr _ e; have := h.fd p hp; omega) (fun _ p hp e => by have := hr _ e; have := h.fc p hp; omega) (fun _ p hp e => by have := hr _ e; have := h.fa p hp; omega), h.fd, h.fc, h.fa, h.nd, h.nc, h.na⟩

theorem Sl.blk {w : World} {B : Nat} {A : Option Addr} {l : List UInt8} (h : Sl w B A l) (hn : l ≠ []) : ∀ p, A = some p → p.block < B := by
  obtain ⟨b, off, rfl, hb, _⟩ := h (by simpa using hn)
  intro p hp
  obtain rfl := Option.some.inj hp
  exact hb

theorem Sr.blk {w : World} {B : Nat} {A : Option Addr} {l : List (Nat × Nat)} (h : Sr w B A l) (hn : l ≠ []) : ∀ p, A = some p → p.block < B := by
  obtain ⟨b, off, rfl, hb, _⟩ := h hn
  intro p hp
  obtain rfl := Option.some.inj hp
  exact hb

/-- Past an append to that slice. -/
theorem LF.app {w w' : World} {lo : Nat} {v v' : Value} {f : PF} {a : SA} (h : LF w lo v f a) (hg : w.grownBy w' v.ownBlock) (hv : v'.ownBlock = v.ownBlock ∨ v'.ownBlock = some w.heap.size) : LF w' lo v' f a := by
  have ne : ∀ p : Addr, p.block < w.heap.size → v.ownBlock ≠ some p.block → v'.ownBlock ≠ some p.block := fun p hp hn e => by
    rcases hv with h | h
    · exact hn (h ▸ e)
    · rw [h] at e
      have := Option.some.inj e
      omega
  exact ⟨h.at_.skip hg h.nd h.nc h.na, h.fd, h.fc, h.fa, fun hn p hp => ne p (h.at_.data.blk hn p hp) (h.nd hn p hp), fun hn p hp => ne p (h.at_.cid.blk hn p hp) (h.nc hn p hp), fun hn p hp => ne p (h.at_.acks.blk hn p hp) (h.na hn p hp)⟩

/-- What List has under way. -/
structure LW (w wr : World) (rest : List UInt8) (v : Value) (xs : List (PF × SA)) : Prop where
  bel : Below w.heap.size w wr
  sz : w.heap.size + 3 ≤ wr.heap.size
  bl : Wh wr w.heap.size 23 #[v]
  be : Wh wr (w.heap.size + 1) 40 #[.int .i64 0]
  rd : Rd wr w.heap.size (w.heap.size + 1 + 1) rest
  own : wr.ownsRow (w.heap.size + 3) 32 30 v xs.length (xs.flatMap fun x => rowF x.1 x.2)
  fr : ∀ x ∈ xs, LF wr (w.heap.size + 2) v x.1 x.2

theorem LW.noBlk {w wr : World} {rest : List UInt8} {v : Value} {xs : List (PF × SA)} (h : LW w wr rest v xs) {k : Nat} (hk : k ≤ w.heap.size + 2) : v.ownBlock ≠ some k := fun e => by
  have := (h.own.lt k e).1
  omega

/-- Past what writes nothing that was there. -/
theorem LW.keep {w wr w' : World} {rest : List UInt8} {v : Value} {xs : List (PF × SA)} (h : LW w wr rest v xs) (hg : wr.grownBy w' none) : LW w w' rest v xs :=
  ⟨h.bel.grown hg h.bel.size (by simp), Nat.le_trans h.sz hg.size, h.bl.grown hg (by simp), h.be.grown hg (by simp), h.rd.grown hg (by simp) (by simp), h.own.kept hg (by cases h : v.ownBlock <;> simp), fun x hx => (h.fr x hx).low hg (by simp)⟩

/-- Past the reader. -/
theorem LW.read {w wr w' : World} {rest l' : List UInt8} {v : Value} {xs : List (PF × SA)} (h : LW w wr rest v xs) (hg : wr.grownBy w' (some (w.heap.size + 1 + 1))) (hr : Rd w' w.heap.size (w.heap.size + 1 + 1) l') : LW w w' l' v xs :=
  ⟨h.bel.grown hg h.bel.size (fun k hk => by obtain rfl := Option.some.inj hk; omega), Nat.le_trans h.sz hg.size, h.bl.grown hg (by simp; omega), h.be.grown hg (by simp), hr, h.own.kept hg (.inr (h.noBlk (by omega))), fun x hx => (h.fr x hx).low hg (fun k hk => by obtain rfl := Option.some.inj hk; omega)⟩

/-- Behind an append and its store. -/
theorem LW.next {w w2 w3 : World} {rest : List UInt8} {v v' : Value} {xs : List (PF × SA)} {f : PF} {a : SA} (h : LW w w2 rest v xs) (hf : LF w2 (w.heap.size + 2) v f a)
    (ho : w3.ownsRow (w.heap.size + 3) 32 30 v' (xs.length + 1) ((xs.flatMap fun x => rowF x.1 x.2) ++ rowF f a)) (hg : w2.grownBy w3 v.ownBlock) (hv : v'.ownBlock = v.ownBlock ∨ v'.ownBlock = some w2.heap.size) :
    LW w (w3.setCell ⟨w.heap.size, 0, none⟩ v') rest v' (xs ++ [(f, a)]) := by
  have hk : ∀ k, v.ownBlock = some k → w.heap.size + 3 ≤ k := fun k e => (h.own.lt k e).1
  have hk' : ∀ k, v'.ownBlock = some k → w.heap.size + 3 ≤ k := fun k e => by
    rcases hv with h1 | h1
    · exact hk k (h1 ▸ e)
    · rw [h1] at e
      have := Option.some.inj e
      have := h.sz
      omega
  have hb3 := h.bel.grown hg h.bel.size (fun k e => by have := hk k e; omega)
  have hs := grown_set w3 w.heap.size 0 v'
  refine ⟨hb3.grown hs hb3.size (fun k e => by obtain rfl := Option.some.inj e; exact Nat.le_refl _), ?_, ?_, ?_, ?_, ?_, ?_⟩
  · have h1 := hg.size
    have h2 := h.sz
    simp [World.setCell]
    omega
  · exact (h.bl.grown hg (fun e => by have := hk _ e.symm; omega)).put 0 _
  · exact (h.be.grown hg (fun e => by have := hk _ e.symm; omega)).far (by simp) _
  · have hr1 : Rd w3 w.heap.size (w.heap.size + 1 + 1) rest := h.rd.grown hg (fun e => by have := hk _ e.symm; omega) (fun g e => by have := hk _ e; omega)
    exact hr1.grown hs (fun e => by have := Option.some.inj e; omega) (fun g e => by have := Option.some.inj e; omega)
  · have h1 := ho.kept hs (.inr (fun e => by have := hk' _ e; omega))
    simpa using h1
  · intro x hx
    rcases List.mem_append.1 hx with hx | hx
    · exact ((h.fr x hx).app hg hv).low hs (fun k e => by have := Option.some.inj e; omega)
    · rw [List.mem_singleton.1 hx]
      exact (hf.app hg hv).low hs (fun k e => by have := Option.some.inj e; omega)

theorem LW.got {w wr w2 : World} {rest l' : List UInt8} {v : Value} {xs : List (PF × SA)} {f : PF} {a : SA} (h : LW w wr rest v xs) (h1 : FrAt w2 w2.heap.size f a) (h2 : Fresh wr.heap.size a.dA) (h3 : Fresh wr.heap.size a.cA) (h4 : Fresh wr.heap.size a.aA)
    (hr : Rd w2 w.heap.size (w.heap.size + 1 + 1) l') (hg : wr.grownBy w2 (some (w.heap.size + 1 + 1))) : LW w w2 l' v xs ∧ LF w2 (w.heap.size + 2) v f a := by
  have hsz := h.sz
  have ne : ∀ p : Addr, wr.heap.size ≤ p.block → v.ownBlock ≠ some p.block := fun p hp e => by
    have := (h.own.lt p.block e).2
    omega
  exact ⟨h.read hg hr, h1, fun p hp => by have := h2 p hp; omega, fun p hp => by have := h3 p hp; omega, fun p hp => by have := h4 p hp; omega,
    fun _ p hp => ne p (h2 p hp), fun _ p hp => ne p (h3 p hp), fun _ p hp => ne p (h4 p hp)⟩

theorem grown_allocL {a b : World} {row : Option Nat} (h : a.grownBy b row) (o : Obj) : a.grownBy (b.alloc o) row :=
  ⟨h.os, h.tape, h.output, by have := h.size; simp; omega, fun k hk hne => (Below.heap_alloc b o k (by have := h.size; omega)).trans (h.block k hk hne)⟩

theorem wanted_goL {o : Oper} {y : Nat → Option Bool} {A B : Prop} (h : Region.wanted o y = true) (k : A) : if Region.wanted o y = true then A else B := by rw [if_pos h]; exact k

theorem info_frame2 : (Tryd.prog.info? 32).map (fun i => (i.size, i.bytes, (i.zero.map (·.cells.size)))) = some (30, 176, some 30) := by kernel_rfl

/-- Append of one frame to frames of one's own. -/
theorem step_append_frame {ops : Array Oper} {o : Oper} {a : Act} {w : World} {K : Act → World → Prop} {Q : Exit → Act → World → Prop} {E : Prop} (hgd : o.guard = none) (s x : Operand)
    (ho : o.op = .call { callee := .builtin .append, args := #[s, x], argTypes := #[23, 23] })
    (base : Nat) (v : Value) (n : Nat) (xs : List Value) (hs : a.eval s = v) (hown : w.ownsRow base 32 30 v n xs)
    (g : Nat) (news : List Value) (hx : a.eval x = .slice (some ⟨g, 0, none⟩) 1 1) (hr : Wh w g 32 news.toArray) (hm : news.length = 30) (h1 : news.toArray.all (·.oneCell') = true)
    (h63 : n ≤ 16777216) (hbase : base ≤ w.heap.size)
    (h : ∀ v' w', w'.ownsRow base 32 30 v' (n + 1) (xs ++ news) → w.grownBy w' v.ownBlock → (v'.ownBlock = v.ownBlock ∨ v'.ownBlock = some w.heap.size) → K (a.put o.dst v') w') :
    if Region.wanted o (yielded ops a.tmps) = true then Oper.wp Tryd.prog o a w K Q else E := by
  have hw : Region.wanted o (yielded ops a.tmps) = true := by simp [Region.wanted, hgd]
  rw [if_pos hw]
  obtain ⟨i, hi, hii⟩ := Option.map_eq_some_iff.1 info_frame2
  simp only [Prod.mk.injEq, Option.map_eq_some_iff] at hii
  obtain ⟨i1, i2, z, hz, hzs⟩ := hii
  obtain ⟨v', w', hrun, h2, h3, _, h4⟩ := run_append_own_at (P := Tryd.prog) (w := w) base 23 o.type 32 i z 30 176 Tryd.underlying23 hi hz i1 i2 hzs (by omega) v n xs hown ⟨g, 0, none⟩ 1 1 news (by omega)
    (fun j u hu => by rw [Addr.add_lit, Nat.zero_add, hr.cell]; simpa using hu) (fun u hu => (Array.all_eq_true_iff_forall_mem.1 h1) u (by simpa using hu)) (by unfold maxLen; omega) (by omega) hbase
  unfold Oper.wp execOp
  simp only [ho, resolve, invoke, builtin, Sem.run_bind, Sem.run_pure, Result.andThen_ok, List.map_toArray, List.map_cons, List.map_nil, hs, hx, hrun]
  exact h v' w' h2 h3 h4

/-- What List answers. -/
def ListGave (w : World) (r : Option (List PF)) (e : Ending) (w' : World) : Prop :=
  Below w.heap.size w w' ∧ match r with
  | none => e = .returned (.tuple #[.slice none 0 0, .int .i64 2])
  | some fs => ∃ A c xs, e = .returned (.tuple #[.slice A fs.length c, .int .i64 0]) ∧ xs.map (·.1) = fs ∧ Sf w' w'.heap.size A xs ∧ fs.length ≤ c ∧ c ≤ maxLen

/-- What is left to read, by the reader's box. -/
def leftN (w : World) (rb : Nat) : Nat := match w.cell? ⟨rb, 0, none⟩ with | some (.slice _ n _) => n | _ => 0

theorem leftN_rd {w : World} {B rb : Nat} {l : List UInt8} (h : Rd w B rb l) : leftN w rb = l.length := by
  obtain ⟨A, n, c, hw, hl, _⟩ := h
  unfold leftN
  rw [hw.cell 0]
  simp [hl]

theorem results2L {P : Program} {fn : Func} {a b : Tmp} {ta tb : TypeId} (h : fn.results = #[.cell a ta, .cell b tb]) (tmps : Array Value) (w : World) (pa pb : Addr) (va vb : Value)
    (ha : tmps.getD a undef = .pointer (some pa)) (hb : tmps.getD b undef = .pointer (some pb)) (la : (loadVar ta pa).run P w = .ok va w) (lb : (loadVar tb pb).run P w = .ok vb w) : (results fn tmps).run P w = .ok (.tuple #[va, vb]) w := by
  have ha' : tmps[a]?.getD undef = .pointer (some pa) := by simpa using ha
  have hb' : tmps[b]?.getD undef = .pointer (some pb) := by simpa using hb
  simp [results, h, ha', hb', asAddr, la, lb]

theorem load_frames {w : World} {g : Nat} {v : Value} (h : w.cell? ⟨g, 0, none⟩ = some v) : (loadVar 23 ⟨g, 0, none⟩).run Tryd.prog w = .ok v w := by
  simp [loadVar, Tryd.isAgg23, h]

theorem flat30 {xs : List (PF × SA)} (hl : ∀ x ∈ xs, (rowF x.1 x.2).length = 30) : ∀ {i : Nat} {x : PF × SA}, xs[i]? = some x → ∀ {j : Nat} {u : Value}, (rowF x.1 x.2)[j]? = some u → (xs.flatMap fun x => rowF x.1 x.2)[i * 30 + j]? = some u := by
  induction xs with
  | nil => intro i x hx; simp at hx
  | cons y t ih =>
    intro i x hx j u hu
    have hy := hl y (by simp)
    rw [List.flatMap_cons]
    cases i with
    | zero =>
      obtain rfl : y = x := by simpa using hx
      have hj : j < (rowF y.1 y.2).length := (List.getElem?_eq_some_iff.1 hu).1
      rw [Nat.zero_mul, Nat.zero_add, List.getElem?_append_left hj]
      exact hu
    | succ i =>
      rw [List.getElem?_append_right (by omega), show (i + 1) * 30 + j - (rowF y.1 y.2).length = i * 30 + j by omega]
      exact ih (fun x hx => hl x (by simp [hx])) (by simpa using hx) hu

/-- Past the two stores at its end. -/
theorem LW.shut {w wr : World} {rest : List UInt8} {v : Value} {xs : List (PF × SA)} (h : LW w wr rest v xs) (u u' : Value) : ∃ A c, v = .slice A xs.length c ∧ Sf ((wr.setCell ⟨w.heap.size, 0, none⟩ u).setCell ⟨w.heap.size + 1, 0, none⟩ u') ((wr.setCell ⟨w.heap.size, 0, none⟩ u).setCell ⟨w.heap.size + 1, 0, none⟩ u').heap.size A xs ∧ xs.length ≤ c ∧ c ≤ maxLen := by
  have s1 := grown_set wr w.heap.size 0 u
  have s2 := grown_set (wr.setCell ⟨w.heap.size, 0, none⟩ u) (w.heap.size + 1) 0 u'
  have hx : ∀ x ∈ xs, LF ((wr.setCell ⟨w.heap.size, 0, none⟩ u).setCell ⟨w.heap.size + 1, 0, none⟩ u') (w.heap.size + 2) v x.1 x.2 := fun x hx => ((h.fr x hx).low s1 (fun k e => by have := Option.some.inj e; omega)).low s2 (fun k e => by have := Option.some.inj e; omega)
  have ho := (h.own.kept s1 (.inr (h.noBlk (by omega)))).kept s2 (.inr (h.noBlk (by omega)))
  rcases ho.2 with ⟨hv, h0⟩ | ⟨g, cap, cur, hv, hb, hg, hn, hm, hs, ht⟩
  · exact ⟨none, 0, by rw [hv, h0], fun hne => absurd (List.eq_nil_of_length_eq_zero h0) hne, by omega, by unfold maxLen; omega⟩
  · refine ⟨some ⟨g, 0, none⟩, cap, hv, fun _ => ⟨g, 0, rfl, (Array.getElem?_eq_some_iff.1 hg).1, fun i x hi => ⟨fun j u hu => ?_, (hx x (List.mem_of_getElem? hi)).at_⟩⟩, hn, hm⟩
    have hc := ho.cells (g := g) (by rw [hv]; rfl) (i * 30 + j) u (flat30 (fun x hi => rowF_length x.2 (hx x hi).at_.tok) hi hu)
    rw [Addr.add_lit, Nat.zero_add] at hc
    rw [Nat.zero_add]
    exact hc

/-- A round's end. -/
theorem LW.ends {w wr w4 : World} {rest l' : List UInt8} {v v' : Value} {xs : List (PF × SA)} {f : PF} {a : SA} {L : Nat} {o : Option (List PF)} (h : LW w wr rest v xs) (hN : LW w w4 l' v' (xs ++ [(f, a)])) (hlf : l'.length < rest.length)
    (hst : listN rest.length rest = (listN l'.length l').map (f :: ·)) (ho : o = (listN rest.length rest).map (xs.map (·.1) ++ ·)) (hlx : rest.length + xs.length ≤ L) :
    (∃ (rest : List UInt8) (v : Value) (xs : List (PF × SA)), rest.length + xs.length ≤ L ∧ Hid (LW w w4 rest v xs) ∧ Hid (o = (listN rest.length rest).map (xs.map (·.1) ++ ·))) ∧ leftN w4 (w.heap.size + 1 + 1) < leftN wr (w.heap.size + 1 + 1) := by
  refine ⟨⟨l', v', xs ++ [(f, a)], by simp; omega, Lib.hid hN, ?_⟩, ?_⟩
  · show _ = _
    rw [ho, hst, Option.map_map]
    congr 1
    funext t
    simp
  · rw [leftN_rd hN.rd, leftN_rd h.rd]
    exact hlf

set_option maxRecDepth 100000 in
set_option maxHeartbeats 3200000 in
theorem list_go (l : List UInt8) (A : Option Addr) (len c : Nat) (w : World) (hl : l.length = len) (hr : Sl w w.heap.size A l) (hc : len ≤ c) (hm : c ≤ maxLen) (hT : PT w) (hlen : l.length ≤ 16777216) (h0 : 0 < len) :
    Calls Tryd.prog 17 #[.slice A len c] w (ListGave w (listN len l)) := by
  have hmf : ∀ (fn : Fn) (first cap : Array Value) (w : World), (Instr.makeFunc fn first cap).run Tryd.prog w = .ok (.func fn first cap) w := fun _ _ _ _ => rfl
  have HL := Lib.hid hl
  have HR := Lib.hid hr
  have HM : Hid (c ≤ maxLen) := hm
  have hgB := hT.lt
  have HT := Lib.hid hT
  obtain ⟨o, ho⟩ : ∃ o, listN len l = o := ⟨_, rfl⟩
  rw [ho]
  unfold maxLen at hm
  have hbel : Below w.heap.size w (((w.alloc (.cells #[.slice none 0 0] 23)).alloc (.cells #[.int .i64 0] 40)).alloc (.cells #[.slice A len c] 69)) := (((Below.refl _ _).alloc (Nat.le_refl _) _).alloc (by simp) _).alloc (by simp; omega) _
  have hL0 : LW w (((w.alloc (.cells #[.slice none 0 0] 23)).alloc (.cells #[.int .i64 0] 40)).alloc (.cells #[.slice A len c] 69)) l (.slice none 0 0) [] := by
    have b2 := Wh.new (w.alloc (.cells #[.slice none 0 0] 23)) 40 #[.int .i64 0]
    have b3 := Wh.new ((w.alloc (.cells #[.slice none 0 0] 23)).alloc (.cells #[.int .i64 0] 40)) 69 #[.slice A len c]
    simp only [alloc_size] at b2 b3
    exact ⟨hbel, by simp, ((Wh.new w _ _).alloc _).alloc _, b2.alloc _, ⟨A, len, c, b3, hl, hc, HM.out, hr.below hbel, by omega⟩, ⟨rfl, .inl ⟨rfl, rfl⟩⟩, fun x hx => by cases hx⟩
  have HL0 := Lib.hid hL0
  have HO : Hid (o = (listN l.length l).map (([] : List (PF × SA)).map (·.1) ++ ·)) := by
    show _ = _
    rw [← ho, HL.out]
    simp
  clear hl hr hT hbel hL0 ho
  go_enter_defers Tryd.func17, Tryd.ntmps17
  go_wp2_with fail
  generalize (((w.alloc (.cells #[.slice none 0 0] 23)).alloc (.cells #[.int .i64 0] 40)).alloc (.cells #[.slice A len c] 69)) = w0 at *
  go_loopw [15] (fun _ wr => ∃ rest v xs, rest.length + xs.length ≤ l.length ∧ Hid (LW w wr rest v xs) ∧ Hid (o = (listN rest.length rest).map (xs.map (·.1) ++ ·))) (fun _ wr => leftN wr (w.heap.size + 1 + 1))
  case atStart => exact ⟨l, _, [], by simp, HL0, HO⟩
  case round =>
    clear HL0 HO
    obtain ⟨rest, v, xs, hlx, HW, HO⟩ := hrel
    obtain ⟨A1, n1, c1, hw1, hl1, hc1, hm1, hs1, _⟩ := HW.out.rd
    have hcr := hw1.cell 0
    simp only [List.getElem?_toArray, List.getElem?_cons_zero] at hcr
    unfold maxLen at hm1
    have HL1 := Lib.hid hl1
    clear hw1 hl1 hs1
    by_cases hpos : 0 < n1
    · have hne : rest ≠ [] := fun e => by have := HL1.out; rw [e] at this; simp at this; omega
      have hstep := listN_step hne rest.length (Nat.le_refl _)
      have hwd : wr.grownBy wr.drew none := ⟨rfl, rfl, rfl, Nat.le_refl _, fun _ _ _ => rfl⟩
      have hWD := HW.out.keep hwd
      have HWD := Lib.hid hWD
      have hFA := frame_any rest wr.drew w.heap.size (w.heap.size + 1 + 1) hWD.rd (HT.out.below hWD.bel hgB) hgB (by omega)
      rcases hf : frame_ rest with _ | ⟨f, l'⟩
      · rw [hf] at hFA
        have HFA := Lib.hid hFA
        have HON : o = none := by rw [HO.out, hstep, hf]; rfl
        clear hFA hf hstep hWD hwd HO
        have hc0 : wr.drew.cell? ⟨w.heap.size, 0, none⟩ = some v := by have := HWD.out.bl.cell 0; simpa using this
        go_upto_region 6 with fail
        clear hcr
        refine wp_region_held_drew (S := fun _ => True) (by kernel_rfl) trivial (fun _ => ?_)
        refine wpAnyH_ready (rs := [0, 1]) (by kernel_rfl) (by simp) (AllReadyH.cons (List.getElem?_toArray.trans rfl) (fun K' hK => ?_) (AllReadyH.cons (List.getElem?_toArray.trans rfl) (fun K' hK => ?_) (AllReadyH.nil)))
        · refine wanted_goL rfl ?_
          go_simp
          refine hK.out _ _ trivial (fun _ => ?_)
          clear hK K'
          refine wpAnyH_ready (rs := [1]) (by kernel_rfl) (by simp) (AllReadyH.cons (List.getElem?_toArray.trans rfl) (fun K' hK => ?_) (AllReadyH.nil))
          refine wanted_goL rfl ?_
          go_simp
          refine HFA.out.mono ?_
          rintro e w4 ⟨rfl, hg4⟩
          have hx1 := HWD.out.bl.grown hg4 (by simp; omega)
          have hx2 := HWD.out.be.grown hg4 (by simp)
          have hb4 : Below w.heap.size w w4 := HWD.out.bel.grown hg4 HWD.out.bel.size (fun k hk => by obtain rfl := Option.some.inj hk; omega)
          clear hg4 HFA
          have hc1 := hx1.cell 0
          have hc2 := hx2.cell 0
          have hz1 := hx1.frozen 0
          have hz2 := hx2.frozen 0
          simp only [List.getElem?_toArray, List.getElem?_cons_zero] at hc1 hc2
          go_wp2_with fail
          refine leaves_cons (f := 33) (args := #[.pointer (some ⟨w.heap.size, 0, none⟩), .pointer (some ⟨w.heap.size + 1, 0, none⟩)]) (by simp) (by simp [go_sem]) ?_
          refine (listCatch_panic w.heap.size (w.heap.size + 1) v 0 89 _ [] w4 hc1 hz1 hc2 hz2 (by omega) (by omega)).mono ?_
          rintro e u' w'' ⟨rfl, rfl, rfl⟩
          have hy1 : ((w4.setCell ⟨w.heap.size, 0, none⟩ (.slice none 0 0)).setCell ⟨w.heap.size + 1, 0, none⟩ (.int .i64 2)).cell? ⟨w.heap.size, 0, none⟩ = some (.slice none 0 0) := by have := ((hx1.put 0 (.slice none 0 0)).far (p := ⟨w.heap.size + 1, 0, none⟩) (by simp) (.int .i64 2)).cell 0; simpa using this
          have hy2 : ((w4.setCell ⟨w.heap.size, 0, none⟩ (.slice none 0 0)).setCell ⟨w.heap.size + 1, 0, none⟩ (.int .i64 2)).cell? ⟨w.heap.size + 1, 0, none⟩ = some (.int .i64 2) := by have := ((hx2.far (p := ⟨w.heap.size, 0, none⟩) (by simp) (.slice none 0 0)).put 0 (.int .i64 2)).cell 0; simpa using this
          refine ⟨.tuple #[.slice none 0 0, .int .i64 2], results2L Tryd.results17 _ _ ⟨w.heap.size, 0, none⟩ ⟨w.heap.size + 1, 0, none⟩ _ _ rfl rfl (load_frames hy1) (load_errno hy2), ?_⟩
          rw [HON]
          exact ⟨(hb4.setCell (p := ⟨w.heap.size, 0, none⟩) (Nat.le_refl _) _).setCell (p := ⟨w.heap.size + 1, 0, none⟩) (by simp) _, rfl⟩
        · refine wanted_goL rfl ?_
          go_simp
          refine HFA.out.mono ?_
          rintro e w4 ⟨rfl, hg4⟩
          have hx1 := HWD.out.bl.grown hg4 (by simp; omega)
          have hx2 := HWD.out.be.grown hg4 (by simp)
          have hb4 : Below w.heap.size w w4 := HWD.out.bel.grown hg4 HWD.out.bel.size (fun k hk => by obtain rfl := Option.some.inj hk; omega)
          clear hg4 HFA
          have hc1 := hx1.cell 0
          have hc2 := hx2.cell 0
          have hz1 := hx1.frozen 0
          have hz2 := hx2.frozen 0
          simp only [List.getElem?_toArray, List.getElem?_cons_zero] at hc1 hc2
          go_wp2_with fail
          refine leaves_cons (f := 33) (args := #[.pointer (some ⟨w.heap.size, 0, none⟩), .pointer (some ⟨w.heap.size + 1, 0, none⟩)]) (by simp) (by simp [go_sem]) ?_
          refine (listCatch_panic w.heap.size (w.heap.size + 1) v 0 89 _ [] w4 hc1 hz1 hc2 hz2 (by omega) (by omega)).mono ?_
          rintro e u' w'' ⟨rfl, rfl, rfl⟩
          have hy1 : ((w4.setCell ⟨w.heap.size, 0, none⟩ (.slice none 0 0)).setCell ⟨w.heap.size + 1, 0, none⟩ (.int .i64 2)).cell? ⟨w.heap.size, 0, none⟩ = some (.slice none 0 0) := by have := ((hx1.put 0 (.slice none 0 0)).far (p := ⟨w.heap.size + 1, 0, none⟩) (by simp) (.int .i64 2)).cell 0; simpa using this
          have hy2 : ((w4.setCell ⟨w.heap.size, 0, none⟩ (.slice none 0 0)).setCell ⟨w.heap.size + 1, 0, none⟩ (.int .i64 2)).cell? ⟨w.heap.size + 1, 0, none⟩ = some (.int .i64 2) := by have := ((hx2.far (p := ⟨w.heap.size, 0, none⟩) (by simp) (.slice none 0 0)).put 0 (.int .i64 2)).cell 0; simpa using this
          refine ⟨.tuple #[.slice none 0 0, .int .i64 2], results2L Tryd.results17 _ _ ⟨w.heap.size, 0, none⟩ ⟨w.heap.size + 1, 0, none⟩ _ _ rfl rfl (load_frames hy1) (load_errno hy2), ?_⟩
          rw [HON]
          exact ⟨(hb4.setCell (p := ⟨w.heap.size, 0, none⟩) (Nat.le_refl _) _).setCell (p := ⟨w.heap.size + 1, 0, none⟩) (by simp) _, rfl⟩
      · have hlf := (frame_len hf).1
        rw [hf] at hFA hstep
        have HFA := Lib.hid hFA
        have HST := Lib.hid hstep
        clear hFA hf hstep hWD hwd
        have hl65 : xs.length ≤ 16777216 := by omega
        obtain ⟨ie, hie, hzse⟩ := Option.map_eq_some_iff.1 info_frame2
        simp only [Prod.mk.injEq, Option.map_eq_some_iff] at hzse
        obtain ⟨hse, _, ze, hze, _⟩ := hzse
        have hc0 : wr.drew.cell? ⟨w.heap.size, 0, none⟩ = some v := by have := HWD.out.bl.cell 0; simpa using this
        go_upto_region 6 with fail
        clear hcr
        refine wp_region_noPanic ?_
        refine wp_region_held_drew (S := fun _ => True) (by kernel_rfl) trivial (fun _ => ?_)
        refine wpAnyH_ready (rs := [0, 1]) (by kernel_rfl) (by simp) (AllReadyH.cons (List.getElem?_toArray.trans rfl) (fun K' hK => ?_) (AllReadyH.cons (List.getElem?_toArray.trans rfl) (fun K' hK => ?_) (AllReadyH.nil)))
        · refine wanted_goL rfl ?_
          go_simp
          refine hK.out _ _ trivial (fun _ => ?_)
          clear hK K'
          refine wpAnyH_ready (rs := [1]) (by kernel_rfl) (by simp) (AllReadyH.cons (List.getElem?_toArray.trans rfl) (fun K' hK => ?_) (AllReadyH.nil))
          refine wanted_goL rfl ?_
          go_simp
          refine HFA.out.mono ?_
          rintro e w2 ⟨a, rfl, h1, h2, h3, h4, h5, h6⟩
          obtain ⟨hW2, hF2⟩ := HWD.out.got h1 h2 h3 h4 h5 h6
          have HW2 := Lib.hid hW2
          have HF2 := Lib.hid hF2
          have hc2 : w2.cell? ⟨w.heap.size, 0, none⟩ = some v := by have := hW2.bl.cell 0; simpa using this
          have hlt2 : w.heap.size < w2.heap.size := hW2.bl.lt
          clear h1 h2 h3 h4 h5 h6 hW2 hF2
          refine hK.out _ _ trivial (fun _ => ?_)
          clear hK K'
          refine wpAnyH_ready (rs := [2]) (by kernel_rfl) (by simp) (AllReadyH.cons (List.getElem?_toArray.trans rfl) (fun K' hK => ?_) (AllReadyH.nil))
          refine step_build_one rfl 23 32 (.tmp 16) rfl (rowF f a).toArray 30 rfl (by have := rowF_length a HF2.out.at_.tok; simpa using this) (by omega) (by omega) ie ze Tryd.underlying23 hie hze hse ?_
          have HW3 := Lib.hid (HW2.out.keep (grown_allocL (World.grownBy.refl w2 none) (.cells (rowF f a).toArray 32)))
          have HF3 := Lib.hid (HF2.out.low (grown_allocL (World.grownBy.refl w2 none) (.cells (rowF f a).toArray 32)) (by simp))
          have HB3 : Hid (Wh (w2.alloc (.cells (rowF f a).toArray 32)) w2.heap.size 32 (rowF f a).toArray) := Wh.new _ _ _
          have hc3 : (w2.alloc (.cells (rowF f a).toArray 32)).cell? ⟨w.heap.size, 0, none⟩ = some v := by have := HW3.out.bl.cell 0; simpa using this
          obtain ⟨g3, hg3⟩ : ∃ g3, g3 = w2.heap.size := ⟨_, rfl⟩
          have hl30 : (rowF f a).length = 30 := rowF_length a HF2.out.at_.tok
          refine hK.out _ _ trivial (fun _ => ?_)
          clear hK K'
          refine wpAnyH_ready (rs := [3]) (by kernel_rfl) (by simp) (AllReadyH.cons (List.getElem?_toArray.trans rfl) (fun K' hK => ?_) (AllReadyH.nil))
          refine step_append_frame rfl (.tmp 15) (.tmp 17) rfl (w.heap.size + 3) v xs.length _ rfl HW3.out.own w2.heap.size (rowF f a) rfl HB3.out hl30 (rowF_one f a) (by omega) HW3.out.sz ?_
          intro v3 w3 ho3 hgr3 hat3
          obtain ⟨gq, cq, rfl, _, _⟩ := ho3.form (by omega)
          have HN3 := Lib.hid (HW3.out.next HF3.out ho3 hgr3 (by simpa using hat3))
          have hk3 : ∀ k, v.ownBlock = some k → w.heap.size + 3 ≤ k := fun k e => (HW3.out.own.lt k e).1
          have hbl3 : Wh w3 w.heap.size 23 #[v] := HW3.out.bl.grown hgr3 (fun e => by have := hk3 _ e.symm; omega)
          have hc4 : w3.cell? ⟨w.heap.size, 0, none⟩ = some v := by have := hbl3.cell 0; simpa using this
          have hz4 := hbl3.frozen 0
          clear ho3 hgr3 hat3 hbl3
          refine hK.out _ _ trivial (fun _ => ?_)
          clear hK K'
          refine wpAnyH_ready (rs := [4]) (by kernel_rfl) (by simp) (AllReadyH.cons (List.getElem?_toArray.trans rfl) (fun K' hK => ?_) (AllReadyH.nil))
          refine wanted_goL rfl ?_
          go_simp
          refine hK.out _ _ trivial (fun _ => ?_)
          clear hK K'
          refine wpAnyH_done (by kernel_rfl) ?_ _
          refine NoPanic.normal ?_
          go_wp2_with fail
          exact HW.out.ends HN3.out hlf HST.out HO.out hlx
        · refine wanted_goL rfl ?_
          go_simp
          refine HFA.out.mono ?_
          rintro e w2 ⟨a, rfl, h1, h2, h3, h4, h5, h6⟩
          obtain ⟨hW2, hF2⟩ := HWD.out.got h1 h2 h3 h4 h5 h6
          have HW2 := Lib.hid hW2
          have HF2 := Lib.hid hF2
          have hc2 : w2.cell? ⟨w.heap.size, 0, none⟩ = some v := by have := hW2.bl.cell 0; simpa using this
          have hlt2 : w.heap.size < w2.heap.size := hW2.bl.lt
          clear h1 h2 h3 h4 h5 h6 hW2 hF2
          refine hK.out _ _ trivial (fun _ => ?_)
          clear hK K'
          refine wpAnyH_ready (rs := [0, 2]) (by kernel_rfl) (by simp) (AllReadyH.cons (List.getElem?_toArray.trans rfl) (fun K' hK => ?_) (AllReadyH.cons (List.getElem?_toArray.trans rfl) (fun K' hK => ?_) (AllReadyH.nil)))
          · refine wanted_goL rfl ?_
            go_simp
            refine hK.out _ _ trivial (fun _ => ?_)
            clear hK K'
            refine wpAnyH_ready (rs := [2]) (by kernel_rfl) (by simp) (AllReadyH.cons (List.getElem?_toArray.trans rfl) (fun K' hK => ?_) (AllReadyH.nil))
            refine step_build_one rfl 23 32 (.tmp 16) rfl (rowF f a).toArray 30 rfl (by have := rowF_length a HF2.out.at_.tok; simpa using this) (by omega) (by omega) ie ze Tryd.underlying23 hie hze hse ?_
            have HW3 := Lib.hid (HW2.out.keep (grown_allocL (World.grownBy.refl w2 none) (.cells (rowF f a).toArray 32)))
            have HF3 := Lib.hid (HF2.out.low (grown_allocL (World.grownBy.refl w2 none) (.cells (rowF f a).toArray 32)) (by simp))
            have HB3 : Hid (Wh (w2.alloc (.cells (rowF f a).toArray 32)) w2.heap.size 32 (rowF f a).toArray) := Wh.new _ _ _
            have hc3 : (w2.alloc (.cells (rowF f a).toArray 32)).cell? ⟨w.heap.size, 0, none⟩ = some v := by have := HW3.out.bl.cell 0; simpa using this
            obtain ⟨g3, hg3⟩ : ∃ g3, g3 = w2.heap.size := ⟨_, rfl⟩
            have hl30 : (rowF f a).length = 30 := rowF_length a HF2.out.at_.tok
            refine hK.out _ _ trivial (fun _ => ?_)
            clear hK K'
            refine wpAnyH_ready (rs := [3]) (by kernel_rfl) (by simp) (AllReadyH.cons (List.getElem?_toArray.trans rfl) (fun K' hK => ?_) (AllReadyH.nil))
            refine step_append_frame rfl (.tmp 15) (.tmp 17) rfl (w.heap.size + 3) v xs.length _ rfl HW3.out.own w2.heap.size (rowF f a) rfl HB3.out hl30 (rowF_one f a) (by omega) HW3.out.sz ?_
            intro v3 w3 ho3 hgr3 hat3
            obtain ⟨gq, cq, rfl, _, _⟩ := ho3.form (by omega)
            have HN3 := Lib.hid (HW3.out.next HF3.out ho3 hgr3 (by simpa using hat3))
            have hk3 : ∀ k, v.ownBlock = some k → w.heap.size + 3 ≤ k := fun k e => (HW3.out.own.lt k e).1
            have hbl3 : Wh w3 w.heap.size 23 #[v] := HW3.out.bl.grown hgr3 (fun e => by have := hk3 _ e.symm; omega)
            have hc4 : w3.cell? ⟨w.heap.size, 0, none⟩ = some v := by have := hbl3.cell 0; simpa using this
            have hz4 := hbl3.frozen 0
            clear ho3 hgr3 hat3 hbl3
            refine hK.out _ _ trivial (fun _ => ?_)
            clear hK K'
            refine wpAnyH_ready (rs := [4]) (by kernel_rfl) (by simp) (AllReadyH.cons (List.getElem?_toArray.trans rfl) (fun K' hK => ?_) (AllReadyH.nil))
            refine wanted_goL rfl ?_
            go_simp
            refine hK.out _ _ trivial (fun _ => ?_)
            clear hK K'
            refine wpAnyH_done (by kernel_rfl) ?_ _
            refine NoPanic.normal ?_
            go_wp2_with fail
            exact HW.out.ends HN3.out hlf HST.out HO.out hlx
          · refine step_build_one rfl 23 32 (.tmp 16) rfl (rowF f a).toArray 30 rfl (by have := rowF_length a HF2.out.at_.tok; simpa using this) (by omega) (by omega) ie ze Tryd.underlying23 hie hze hse ?_
            have HW3 := Lib.hid (HW2.out.keep (grown_allocL (World.grownBy.refl w2 none) (.cells (rowF f a).toArray 32)))
            have HF3 := Lib.hid (HF2.out.low (grown_allocL (World.grownBy.refl w2 none) (.cells (rowF f a).toArray 32)) (by simp))
            have HB3 : Hid (Wh (w2.alloc (.cells (rowF f a).toArray 32)) w2.heap.size 32 (rowF f a).toArray) := Wh.new _ _ _
            have hc3 : (w2.alloc (.cells (rowF f a).toArray 32)).cell? ⟨w.heap.size, 0, none⟩ = some v := by have := HW3.out.bl.cell 0; simpa using this
            obtain ⟨g3, hg3⟩ : ∃ g3, g3 = w2.heap.size := ⟨_, rfl⟩
            have hl30 : (rowF f a).length = 30 := rowF_length a HF2.out.at_.tok
            refine hK.out _ _ trivial (fun _ => ?_)
            clear hK K'
            refine wpAnyH_ready (rs := [0]) (by kernel_rfl) (by simp) (AllReadyH.cons (List.getElem?_toArray.trans rfl) (fun K' hK => ?_) (AllReadyH.nil))
            refine wanted_goL rfl ?_
            go_simp
            refine hK.out _ _ trivial (fun _ => ?_)
            clear hK K'
            refine wpAnyH_ready (rs := [3]) (by kernel_rfl) (by simp) (AllReadyH.cons (List.getElem?_toArray.trans rfl) (fun K' hK => ?_) (AllReadyH.nil))
            refine step_append_frame rfl (.tmp 15) (.tmp 17) rfl (w.heap.size + 3) v xs.length _ rfl HW3.out.own w2.heap.size (rowF f a) rfl HB3.out hl30 (rowF_one f a) (by omega) HW3.out.sz ?_
            intro v3 w3 ho3 hgr3 hat3
            obtain ⟨gq, cq, rfl, _, _⟩ := ho3.form (by omega)
            have HN3 := Lib.hid (HW3.out.next HF3.out ho3 hgr3 (by simpa using hat3))
            have hk3 : ∀ k, v.ownBlock = some k → w.heap.size + 3 ≤ k := fun k e => (HW3.out.own.lt k e).1
            have hbl3 : Wh w3 w.heap.size 23 #[v] := HW3.out.bl.grown hgr3 (fun e => by have := hk3 _ e.symm; omega)
            have hc4 : w3.cell? ⟨w.heap.size, 0, none⟩ = some v := by have := hbl3.cell 0; simpa using this
            have hz4 := hbl3.frozen 0
            clear ho3 hgr3 hat3 hbl3
            refine hK.out _ _ trivial (fun _ => ?_)
            clear hK K'
            refine wpAnyH_ready (rs := [4]) (by kernel_rfl) (by simp) (AllReadyH.cons (List.getElem?_toArray.trans rfl) (fun K' hK => ?_) (AllReadyH.nil))
            refine wanted_goL rfl ?_
            go_simp
            refine hK.out _ _ trivial (fun _ => ?_)
            clear hK K'
            refine wpAnyH_done (by kernel_rfl) ?_ _
            refine NoPanic.normal ?_
            go_wp2_with fail
            exact HW.out.ends HN3.out hlf HST.out HO.out hlx
    · have hrest : rest = [] := List.eq_nil_of_length_eq_zero (by have := HL1.out; omega)
      subst hrest
      have HOS : o = some (xs.map (·.1)) := by
        have h := HO.out
        simpa [listN] using h
      clear HO
      have hc0 : wr.cell? ⟨w.heap.size, 0, none⟩ = some v := by have := HW.out.bl.cell 0; simpa using this
      have hz0 := HW.out.bl.frozen 0
      have he0 : wr.cell? ⟨w.heap.size + 1, 0, none⟩ = some (.int .i64 0) := by have := HW.out.be.cell 0; simpa using this
      have hez := HW.out.be.frozen 0
      obtain ⟨Av, cv, hv, hS, hnc, hmc⟩ := HW.out.shut v (.int .i64 0)
      have HS := Lib.hid hS
      have hbz : Below w.heap.size w ((wr.setCell ⟨w.heap.size, 0, none⟩ v).setCell ⟨w.heap.size + 1, 0, none⟩ (.int .i64 0)) := (HW.out.bel.setCell (p := ⟨w.heap.size, 0, none⟩) (Nat.le_refl _) _).setCell (p := ⟨w.heap.size + 1, 0, none⟩) (by simp) _
      have hbe := HW.out.be
      have hy1 : ((wr.setCell ⟨w.heap.size, 0, none⟩ v).setCell ⟨w.heap.size + 1, 0, none⟩ (.int .i64 0)).cell? ⟨w.heap.size, 0, none⟩ = some v := by have := ((HW.out.bl.put 0 v).far (p := ⟨w.heap.size + 1, 0, none⟩) (by simp) (.int .i64 0)).cell 0; simpa using this
      have hy2 : ((wr.setCell ⟨w.heap.size, 0, none⟩ v).setCell ⟨w.heap.size + 1, 0, none⟩ (.int .i64 0)).cell? ⟨w.heap.size + 1, 0, none⟩ = some (.int .i64 0) := by have := ((hbe.far (p := ⟨w.heap.size, 0, none⟩) (by simp) v).put 0 (.int .i64 0)).cell 0; simpa using this
      have HYY := Lib.hid (And.intro hy1 hy2)
      clear hS hbe hy1 hy2
      subst hv
      go_wp2_with fail
      refine leaves_cons (f := 33) (args := #[.pointer (some ⟨w.heap.size, 0, none⟩), .pointer (some ⟨w.heap.size + 1, 0, none⟩)]) (by simp) (by simp [go_sem]) ?_
      refine (listCatch_idle ⟨w.heap.size, 0, none⟩ ⟨w.heap.size + 1, 0, none⟩ _).mono ?_
      rintro e u' w'' ⟨rfl, rfl, rfl⟩
      refine ⟨.tuple #[.slice Av xs.length cv, .int .i64 0], results2L Tryd.results17 _ _ ⟨w.heap.size, 0, none⟩ ⟨w.heap.size + 1, 0, none⟩ _ _ rfl rfl (load_frames HYY.out.1) (load_errno HYY.out.2), ?_⟩
      rw [HOS]
      exact ⟨hbz, Av, cv, xs, by simp, rfl, HS.out, by simpa using hnc, hmc⟩

set_option maxRecDepth 100000 in
set_option maxHeartbeats 1000000 in
theorem list_nil (A : Option Addr) (c : Nat) (w : World) : Calls Tryd.prog 17 #[.slice A 0 c] w (ListGave w none) := by
  have hmf : ∀ (fn : Fn) (first cap : Array Value) (w : World), (Instr.makeFunc fn first cap).run Tryd.prog w = .ok (.func fn first cap) w := fun _ _ _ _ => rfl
  go_enter_defers Tryd.func17, Tryd.ntmps17
  go_wp2_with fail
  refine leaves_cons (f := 33) (args := #[.pointer (some ⟨w.heap.size, 0, none⟩), .pointer (some ⟨w.heap.size + 1, 0, none⟩)]) (by simp) (by simp [go_sem]) ?_
  refine (listCatch_idle ⟨w.heap.size, 0, none⟩ ⟨w.heap.size + 1, 0, none⟩ _).mono ?_
  rintro e u' w'' ⟨rfl, rfl, rfl⟩
  exact ⟨.tuple #[.slice none 0 0, .int .i64 2], results2L Tryd.results17 _ _ ⟨w.heap.size, 0, none⟩ ⟨w.heap.size + 1, 0, none⟩ _ _ rfl rfl (load_frames (by simp)) (load_errno (by simp)),
    ((Below.refl _ _).alloc (Nat.le_refl _) _).alloc (by simp) _, rfl⟩

theorem list_any (l : List UInt8) (A : Option Addr) (len c : Nat) (w : World) (hl : l.length = len) (hr : Sl w w.heap.size A l) (hc : len ≤ c) (hm : c ≤ maxLen) (hT : PT w) (hlen : l.length ≤ 16777216) :
    Calls Tryd.prog 17 #[.slice A len c] w (ListGave w (list_ l)) := by
  unfold list_
  by_cases h0 : l = []
  · subst h0
    obtain rfl : 0 = len := hl
    rw [if_pos rfl]
    exact list_nil A c w
  · rw [if_neg h0, hl]
    exact list_go l A len c w hl hr hc hm hT hlen (by have := List.length_pos_iff.2 h0; omega)
end

end Go.Proofs.YtkkojhkglcigmaaDoor
