/-
  Words for slices of ranges in memory: of whatever address, and of the call's own. No program is named here.
-/
import Derived.Test.YtaemfoelhijbjaaWh
import Derived.Test.YtaemfoelhijbjaaSpMath
import Derived.OwnWalk
namespace Go.Proofs.Ytaemfoelhijbjaa
open Go.RowKit
set_option linter.unusedVariables false

/-- A range's two cells. -/
def rcS (x : Nat × Nat) : List Value := [.int .u64 (x.1 : Int), .int .u64 (x.2 : Int)]
theorem rcS_one (x : Nat × Nat) : ∀ v ∈ rcS x, v.oneCell' = true := by
  intro v hv
  simp only [rcS, List.mem_cons, List.not_mem_nil, or_false] at hv
  rcases hv with rfl | rfl <;> rfl
theorem rcSs_one (l : List (Nat × Nat)) : ∀ v ∈ l.flatMap rcS, v.oneCell' = true := by
  intro v hv
  obtain ⟨x, _, hx⟩ := List.mem_flatMap.1 hv
  exact rcS_one x v hx
theorem rcS_len (l : List (Nat × Nat)) : (l.flatMap rcS).length = l.length * 2 := by
  induction l with
  | nil => rfl
  | cons y l ih => rw [List.flatMap_cons, List.length_append, ih]; simp [rcS]; omega
theorem rcS_at (l : List (Nat × Nat)) : ∀ (i : Nat) (x : Nat × Nat), l[i]? = some x → (l.flatMap rcS)[i * 2]? = some (.int .u64 (x.1 : Int)) ∧ (l.flatMap rcS)[i * 2 + 1]? = some (.int .u64 (x.2 : Int)) := by
  induction l with
  | nil => intro i x h; simp at h
  | cons y l ih =>
    intro i x h
    cases i with
    | zero =>
      simp only [List.getElem?_cons_zero, Option.some.injEq] at h
      subst h
      exact ⟨rfl, rfl⟩
    | succ i =>
      simp only [List.getElem?_cons_succ] at h
      have := ih i x h
      rw [show (i + 1) * 2 = i * 2 + 2 by omega]
      exact this

/-- Cells told as a list, and told one range after the other. -/
theorem cells_of_flat {w : World} {b off : Nat} {l : List (Nat × Nat)} (h : ∀ i x, l[i]? = some x → w.cell? ⟨b, off + i * 2, none⟩ = some (.int .u64 (x.1 : Int)) ∧ w.cell? ⟨b, off + i * 2 + 1, none⟩ = some (.int .u64 (x.2 : Int))) :
    ∀ j u, (l.flatMap rcS)[j]? = some u → w.cell? ⟨b, off + j, none⟩ = some u := by
  intro j u hu
  have hj := (List.getElem?_eq_some_iff.1 hu).1
  rw [rcS_len] at hj
  obtain ⟨i, hji⟩ : ∃ i, j = i * 2 ∨ j = i * 2 + 1 := ⟨j / 2, by omega⟩
  have hi : i < l.length := by omega
  have hx : l[i]? = some l[i] := List.getElem?_eq_getElem hi
  have hf := rcS_at l i _ hx
  have hc := h i _ hx
  rcases hji with rfl | rfl
  · rw [hf.1] at hu
    rw [hc.1, hu]
  · rw [hf.2] at hu
    rw [← Nat.add_assoc, hc.2, hu]

/-- The slice at A reads as the ranges l, and lies below block B. -/
def Rs (w : World) (B : Nat) (A : Option Addr) (l : List (Nat × Nat)) : Prop :=
  l ≠ [] → ∃ b off, A = some ⟨b, off, none⟩ ∧ b < B ∧ ∀ i x, l[i]? = some x → w.cell? ⟨b, off + i * 2, none⟩ = some (.int .u64 (x.1 : Int)) ∧ w.cell? ⟨b, off + i * 2 + 1, none⟩ = some (.int .u64 (x.2 : Int))

theorem Rs.nil (w : World) (B : Nat) (A : Option Addr) : Rs w B A [] := fun h => absurd rfl h
theorem Rs.keep {w w' : World} {B B' : Nat} {A : Option Addr} {l : List (Nat × Nat)} (h : Rs w B A l) (hB : B ≤ B') (hk : ∀ p : Addr, p.block < B → w'.cell? p = w.cell? p) : Rs w' B' A l := by
  intro hn
  obtain ⟨b, off, rfl, hb, hc⟩ := h hn
  exact ⟨b, off, rfl, by omega, fun i x hx => ⟨(hk _ hb).trans (hc i x hx).1, (hk _ hb).trans (hc i x hx).2⟩⟩
theorem Rs.below {w w' : World} {B : Nat} {A : Option Addr} {l : List (Nat × Nat)} (h : Rs w B A l) (hb : Below B w w') : Rs w' B A l := h.keep (Nat.le_refl _) fun _ hp => hb.cell hp
theorem Rs.mono {w : World} {B B' : Nat} {A : Option Addr} {l : List (Nat × Nat)} (h : Rs w B A l) (hB : B ≤ B') : Rs w B' A l := h.keep hB fun _ _ => rfl
theorem Rs.at_ {w : World} {B : Nat} {A : Option Addr} {l : List (Nat × Nat)} (h : Rs w B A l) (hn : 0 < l.length) :
    ∃ b off, A = some ⟨b, off, none⟩ ∧ b < B ∧ ∀ i x, l[i]? = some x → w.cell? ⟨b, off + i * 2, none⟩ = some (.int .u64 (x.1 : Int)) ∧ w.cell? ⟨b, off + i * 2 + 1, none⟩ = some (.int .u64 (x.2 : Int)) :=
  h (by rintro rfl; simp at hn)
/-- 's[1:]', as the model spells its address. -/
theorem Rs.tail {w : World} {B b off : Nat} {r : Nat × Nat} {l : List (Nat × Nat)} (h : Rs w B (some ⟨b, off, none⟩) (r :: l)) : Rs w B (some ⟨b, off + 2, none⟩) l := by
  intro _
  obtain ⟨b', off', e, hb, hc⟩ := h (by simp)
  simp only [Option.some.injEq, Addr.mk.injEq, and_true] at e
  obtain ⟨rfl, rfl⟩ := e
  refine ⟨b, off + 2, rfl, hb, fun i x hx => ?_⟩
  have := hc (i + 1) x (by simpa using hx)
  rw [show off + 2 + i * 2 = off + (i + 1) * 2 by omega]
  exact this

/-- The slice at A reads as the ranges l, in a block of the set S. -/
def RsIn (w : World) (S : Nat → Prop) (A : Option Addr) (l : List (Nat × Nat)) : Prop :=
  l ≠ [] → ∃ b off, A = some ⟨b, off, none⟩ ∧ S b ∧ b < w.heap.size ∧ ∀ i x, l[i]? = some x → w.cell? ⟨b, off + i * 2, none⟩ = some (.int .u64 (x.1 : Int)) ∧ w.cell? ⟨b, off + i * 2 + 1, none⟩ = some (.int .u64 (x.2 : Int))
theorem RsIn.nil (w : World) (S : Nat → Prop) (A : Option Addr) : RsIn w S A [] := fun h => absurd rfl h
theorem RsIn.of {w : World} {B : Nat} {A : Option Addr} {l : List (Nat × Nat)} (h : Rs w B A l) (hB : B ≤ w.heap.size) {S : Nat → Prop} (hS : ∀ b, b < B → S b) : RsIn w S A l := by
  intro hn
  obtain ⟨b, off, e, hb, hc⟩ := h hn
  exact ⟨b, off, e, hS b hb, by omega, hc⟩
theorem RsIn.rs {w : World} {S : Nat → Prop} {A : Option Addr} {l : List (Nat × Nat)} (h : RsIn w S A l) : Rs w w.heap.size A l := by
  intro hn
  obtain ⟨b, off, e, _, hb, hc⟩ := h hn
  exact ⟨b, off, e, hb, hc⟩
theorem RsIn.mono {w : World} {S T : Nat → Prop} {A : Option Addr} {l : List (Nat × Nat)} (h : RsIn w S A l) (hS : ∀ b, S b → b < w.heap.size → T b) : RsIn w T A l := by
  intro hn
  obtain ⟨b, off, e, hs, hb, hc⟩ := h hn
  exact ⟨b, off, e, hS b hs hb, hb, hc⟩
theorem RsIn.grown {w w' : World} {S : Nat → Prop} {row : Option Nat} {A : Option Addr} {l : List (Nat × Nat)} (h : RsIn w S A l) (hb : w.grownBy w' row) (hS : ∀ k, row = some k → ¬ S k) : RsIn w' S A l := by
  intro hn
  obtain ⟨b, off, e, hs, hlt, hc⟩ := h hn
  have hk : ∀ o, w'.cell? ⟨b, o, none⟩ = w.cell? ⟨b, o, none⟩ := fun o => World.cell?_of_block (hb.block b hlt fun e => hS b e.symm hs)
  exact ⟨b, off, e, hs, Nat.lt_of_lt_of_le hlt hb.size, fun i x hx => ⟨(hk _).trans (hc i x hx).1, (hk _).trans (hc i x hx).2⟩⟩
theorem RsIn.below {w w' : World} {S : Nat → Prop} {A : Option Addr} {l : List (Nat × Nat)} (h : RsIn w S A l) (hb : Below w.heap.size w w') : RsIn w' S A l := h.grown (row := none) (grown_below hb) (by simp)
theorem RsIn.at_ {w : World} {S : Nat → Prop} {A : Option Addr} {l : List (Nat × Nat)} (h : RsIn w S A l) (hn : 0 < l.length) :
    ∃ b off, A = some ⟨b, off, none⟩ ∧ S b ∧ b < w.heap.size ∧ ∀ i x, l[i]? = some x → w.cell? ⟨b, off + i * 2, none⟩ = some (.int .u64 (x.1 : Int)) ∧ w.cell? ⟨b, off + i * 2 + 1, none⟩ = some (.int .u64 (x.2 : Int)) := h (by rintro rfl; simp at hn)
theorem RsIn.tail {w : World} {S : Nat → Prop} {b off : Nat} {r : Nat × Nat} {l : List (Nat × Nat)} (h : RsIn w S (some ⟨b, off, none⟩) (r :: l)) : RsIn w S (some ⟨b, off + 2, none⟩) l := by
  intro _
  obtain ⟨b', off', e, hs, hb, hc⟩ := h (by simp)
  simp only [Option.some.injEq, Addr.mk.injEq, and_true] at e
  obtain ⟨rfl, rfl⟩ := e
  refine ⟨b, off + 2, rfl, hs, hb, fun i x hx => ?_⟩
  have := hc (i + 1) x (by simpa using hx)
  rw [show off + 2 + i * 2 = off + (i + 1) * 2 by omega]
  exact this

/-- A row of the call's own, of structs. -/
theorem ownR_form {w : World} {base : Nat} {e : TypeId} {v : Value} {n : Nat} {xs : List Value} {k : Nat} (h : w.ownsRow base e k v n xs) : ∃ A c, v = .slice A n c ∧ n ≤ c ∧ c ≤ maxLen := by
  rcases h.2 with ⟨rfl, rfl⟩ | ⟨g, cap, cur, rfl, _, _, h1, h2, _⟩
  · exact ⟨none, 0, rfl, Nat.le_refl _, Nat.zero_le _⟩
  · exact ⟨_, _, rfl, h1, h2⟩
theorem ownR_below {w w' : World} {base : Nat} {e : TypeId} {v : Value} {n k : Nat} {xs : List Value} (h : w.ownsRow base e k v n xs) (hb : Below w.heap.size w w') : w'.ownsRow base e k v n xs := by
  refine ⟨h.1, ?_⟩
  rcases h.2 with hn | ⟨g, cap, cur, rfl, hbs, hgg, rest⟩
  · exact .inl hn
  · exact .inr ⟨g, cap, cur, rfl, hbs, (hb.block g (Array.getElem?_eq_some_iff.1 hgg).1).trans hgg, rest⟩
/-- .. beside a block that is written. -/
theorem ownR_grown {w w' : World} {base : Nat} {e : TypeId} {v : Value} {n k : Nat} {row : Option Nat} {xs : List Value} (h : w.ownsRow base e k v n xs) (hb : w.grownBy w' row) (hne : ∀ g, row = some g → v.ownBlock ≠ some g) : w'.ownsRow base e k v n xs := by
  refine ⟨h.1, ?_⟩
  rcases h.2 with hn | ⟨g, cap, cur, rfl, hbs, hgg, rest⟩
  · exact .inl hn
  · refine .inr ⟨g, cap, cur, rfl, hbs, (hb.block g (Array.getElem?_eq_some_iff.1 hgg).1 fun e => hne g e.symm rfl).trans hgg, rest⟩
theorem ownR_base {w : World} {base base' : Nat} {e : TypeId} {v : Value} {n k : Nat} {xs : List Value} (h : w.ownsRow base e k v n xs) (hb : base' ≤ base) : w.ownsRow base' e k v n xs := by
  refine ⟨h.1, ?_⟩
  rcases h.2 with hn | ⟨g, cap, cur, h1, h2, h3⟩
  · exact .inl hn
  · exact .inr ⟨g, cap, cur, h1, Nat.le_trans hb h2, h3⟩
theorem ownR_some {w : World} {base : Nat} {e : TypeId} {v : Value} {n k : Nat} {xs : List Value} (h : w.ownsRow base e k v n xs) (hn : 0 < n) : ∃ g c cur, v = .slice (some ⟨g, 0, none⟩) n c ∧ base ≤ g ∧ n ≤ c ∧ c ≤ maxLen ∧ Wh w g e cur ∧ cur.size = c * k ∧ cur.toList.take (n * k) = xs := by
  rcases h.2 with ⟨rfl, rfl⟩ | ⟨g, cap, cur, rfl, h0, h1, h2, h3, h4, h5⟩
  · omega
  · exact ⟨g, cap, cur, rfl, h0, h2, h3, h1, h4, h5⟩
/-- A row of one's own with other cells of as many elements. -/
theorem ownR_of {w : World} {base : Nat} {e : TypeId} {g n c k : Nat} {cur : Array Value} {xs : List Value} (hb : base ≤ g) (hw : Wh w g e cur) (hc : n ≤ c) (hm : c ≤ maxLen) (hs : cur.size = c * k) (hl : xs.length = n * k) (hx : cur.toList.take (n * k) = xs) :
    w.ownsRow base e k (.slice (some ⟨g, 0, none⟩) n c) n xs := ⟨hl, .inr ⟨g, c, cur, rfl, hb, hw, hc, hm, hs, hx⟩⟩

theorem Rs.of_own {w : World} {base : Nat} {e : TypeId} {A : Option Addr} {n c : Nat} {l : List (Nat × Nat)} (h : w.ownsRow base e 2 (.slice A n c) n (l.flatMap rcS)) : Rs w w.heap.size A l := by
  intro hn
  rcases h.2 with ⟨hv, hz⟩ | ⟨g, cap, cur, hv, hb, hg, _⟩
  · subst hz
    have := h.1
    rw [rcS_len] at this
    exact absurd (List.eq_nil_of_length_eq_zero (by omega)) hn
  · simp only [Value.slice.injEq] at hv
    obtain ⟨rfl, _, rfl⟩ := hv
    refine ⟨g, 0, rfl, (Array.getElem?_eq_some_iff.1 hg).1, fun i x hx => ?_⟩
    have hf := rcS_at l i x hx
    have h1 := h.cells (g := g) rfl _ _ hf.1
    have h2 := h.cells (g := g) rfl _ _ hf.2
    rw [Addr.add_lit] at h1 h2
    exact ⟨h1, h2⟩

theorem RsIn.of_own {w : World} {base : Nat} {e : TypeId} {A : Option Addr} {n c : Nat} {l : List (Nat × Nat)} (h : w.ownsRow base e 2 (.slice A n c) n (l.flatMap rcS)) : RsIn w (base ≤ ·) A l := by
  intro hn
  obtain ⟨b, off, rfl, hb, hc⟩ := Rs.of_own h hn
  exact ⟨b, off, rfl, (World.ownsRow.lt h b rfl).1, hb, hc⟩

theorem ownR_len {w : World} {base : Nat} {e : TypeId} {v : Value} {n : Nat} {l : List (Nat × Nat)} (h : w.ownsRow base e 2 v n (l.flatMap rcS)) : l.length = n := by
  have := h.1
  rw [rcS_len] at this
  omega

/-- A field stored into a row of one's own: an end. -/
theorem take_set_flat (l : List (Nat × Nat)) (i : Nat) (x : Nat × Nat) (y : Nat) (hx : l[i]? = some x) : (l.flatMap rcS).set (i * 2 + 1) (.int .u64 (y : Int)) = (l.set i (x.1, y)).flatMap rcS := by
  induction l generalizing i with
  | nil => simp at hx
  | cons r l ih =>
    cases i with
    | zero =>
      simp only [List.getElem?_cons_zero, Option.some.injEq] at hx
      subst hx
      rfl
    | succ i =>
      simp only [List.getElem?_cons_succ] at hx
      rw [List.set_cons_succ, List.flatMap_cons, List.flatMap_cons, ← ih i hx]
      rw [show (i + 1) * 2 + 1 = i * 2 + 1 + 2 by omega]
      rfl
theorem take_set_flat0 (l : List (Nat × Nat)) (i : Nat) (x : Nat × Nat) (y : Nat) (hx : l[i]? = some x) : (l.flatMap rcS).set (i * 2) (.int .u64 (y : Int)) = (l.set i (y, x.2)).flatMap rcS := by
  induction l generalizing i with
  | nil => simp at hx
  | cons r l ih =>
    cases i with
    | zero =>
      simp only [List.getElem?_cons_zero, Option.some.injEq] at hx
      subst hx
      rfl
    | succ i =>
      simp only [List.getElem?_cons_succ] at hx
      rw [List.set_cons_succ, List.flatMap_cons, List.flatMap_cons, ← ih i hx]
      rw [show (i + 1) * 2 = i * 2 + 2 by omega]
      rfl
theorem ownR_set {w : World} {base : Nat} {e : TypeId} {g n c : Nat} {l : List (Nat × Nat)} (h : w.ownsRow base e 2 (.slice (some ⟨g, 0, none⟩) n c) n (l.flatMap rcS)) (i : Nat) (x : Nat × Nat) (y : Nat) (hx : l[i]? = some x) :
    (w.setCell ⟨g, i * 2 + 1, none⟩ (.int .u64 (y : Int))).ownsRow base e 2 (.slice (some ⟨g, 0, none⟩) n c) n ((l.set i (x.1, y)).flatMap rcS) := by
  have hi := (List.getElem?_eq_some_iff.1 hx).1
  have hl := ownR_len h
  rcases h.2 with ⟨hv, hz⟩ | ⟨g', cap, cur, hv, h0, h1, h2, h3, h4, h5⟩
  · omega
  · simp only [Value.slice.injEq, Option.some.injEq, Addr.mk.injEq, and_true] at hv
    obtain ⟨rfl, _, rfl⟩ := hv
    refine ownR_of h0 (Wh.put h1 (i * 2 + 1) (.int .u64 (y : Int))) h2 h3 (by simpa using h4) (by rw [rcS_len, List.length_set]; omega) ?_
    rw [← take_set_flat l i x y hx, Array.toList_setIfInBounds, List.take_set, h5]
theorem ownR_set0 {w : World} {base : Nat} {e : TypeId} {g n c : Nat} {l : List (Nat × Nat)} (h : w.ownsRow base e 2 (.slice (some ⟨g, 0, none⟩) n c) n (l.flatMap rcS)) (i : Nat) (x : Nat × Nat) (y : Nat) (hx : l[i]? = some x) :
    (w.setCell ⟨g, i * 2, none⟩ (.int .u64 (y : Int))).ownsRow base e 2 (.slice (some ⟨g, 0, none⟩) n c) n ((l.set i (y, x.2)).flatMap rcS) := by
  have hi := (List.getElem?_eq_some_iff.1 hx).1
  have hl := ownR_len h
  rcases h.2 with ⟨hv, hz⟩ | ⟨g', cap, cur, hv, h0, h1, h2, h3, h4, h5⟩
  · omega
  · simp only [Value.slice.injEq, Option.some.injEq, Addr.mk.injEq, and_true] at hv
    obtain ⟨rfl, _, rfl⟩ := hv
    refine ownR_of h0 (Wh.put h1 (i * 2) (.int .u64 (y : Int))) h2 h3 (by simpa using h4) (by rw [rcS_len, List.length_set]; omega) ?_
    rw [← take_set_flat0 l i x y hx, Array.toList_setIfInBounds, List.take_set, h5]

/-- What the ranges' cells are, as a row that is appended. -/
theorem rcS_new (w : World) (x : Nat × Nat) (e : TypeId) : ∀ j u, (rcS x)[j]? = some u → (w.alloc (.cells #[.int .u64 (x.1 : Int), .int .u64 (x.2 : Int)] e)).cell? ((⟨w.heap.size, 0, none⟩ : Addr).add j) = some u := by
  intro j u hu
  rw [Addr.add_lit, Nat.zero_add, (Wh.new w e #[.int .u64 (x.1 : Int), .int .u64 (x.2 : Int)]).cell]
  simpa [rcS] using hu

end Go.Proofs.Ytaemfoelhijbjaa
