/-
  What the laws' calls tell, of slices that they hand on.
-/
import Derived.Test.YtkmnhlcjeebejaaSpRef2
import Derived.Test.YtkmnhlcjeebejaaSpROf
import Derived.Test.YtkmnhlcjeebejaaSpHas
namespace Go.Proofs.Ytkmnhlcjeebejaa
open Go.RowKit
set_option linter.unusedVariables false

/-- A slice of ranges, wherever it lies. -/
def Live (w : World) (A : Option Addr) (n c : Nat) (l : List (Nat × Nat)) : Prop := Hands w w.heap.size A n c l
theorem Live.on {w w' : World} {A : Option Addr} {n c : Nat} {l : List (Nat × Nat)} (h : Live w A n c l) (hb : Below w.heap.size w w') : Live w' A n c l := (Hands.below h hb).mono hb.size
theorem Live.alloc {w : World} {A : Option Addr} {n c : Nat} {l : List (Nat × Nat)} (h : Live w A n c l) (o : Obj) : Live (w.alloc o) A n c l := h.on ((Below.refl _ _).alloc (Nat.le_refl _) o)
theorem Live.nil (w : World) : Live w none 0 0 [] := Hands.nil _ _

/-- A neat list made, handed on. -/
def MakesH (N : Nat) (W : Nat → Bool) (w : World) (e : Ending) (w' : World) : Prop :=
  ∃ A n c l, e = .returned (.slice A n c) ∧ Live w' A n c l ∧ NeatL l ∧ (∀ x, inB l x = W x) ∧ n ≤ N ∧ Below w.heap.size w w'
theorem Makes.live {N : Nat} {W : Nat → Bool} {w : World} {e : Ending} {w' : World} (h : Makes N W w e w') (hN : N ≤ 1000000) : MakesH N W w e w' := by
  obtain ⟨v, l, rfl, ho, hn, hf, hi, hl, hb⟩ := h
  obtain ⟨A, c, rfl, h1, h2⟩ := ho.form
  exact ⟨A, l.length, c, l, rfl, ⟨rfl, by omega, ho.rs, h1, h2, hf⟩, hn, hi, hl, hb⟩

theorem add_h {w : World} {A1 A2 : Option Addr} {n1 c1 n2 c2 : Nat} {l o : List (Nat × Nat)} (h1 : Live w A1 n1 c1 l) (h2 : Live w A2 n2 c2 o) (k1 : n1 ≤ 100000) (k2 : n2 ≤ 100000) :
    Calls Try.prog 10 #[.slice A1 n1 c1, .slice A2 n2 c2] w (MakesH (2 * (n1 + n2) + 2) (fun n => inB l n || inB o n) w) :=
  (add_any w _ A1 A2 n1 c1 n2 c2 l o h1 h2 (Nat.le_refl _)).mono fun _ _ h => h.live (by omega)
theorem cut_h {w : World} {A1 A2 : Option Addr} {n1 c1 n2 c2 : Nat} {l o : List (Nat × Nat)} (h1 : Live w A1 n1 c1 l) (h2 : Live w A2 n2 c2 o) (k1 : n1 ≤ 100000) (k2 : n2 ≤ 100000) :
    Calls Try.prog 17 #[.slice A1 n1 c1, .slice A2 n2 c2] w (MakesH (2 * (n1 + n2) + 2) (fun n => inB l n && !inB o n) w) :=
  (cut_any w _ A1 A2 n1 c1 n2 c2 l o h1 h2 (Nat.le_refl _)).mono fun _ _ h => h.live (by omega)
theorem both_h {w : World} {A1 A2 : Option Addr} {n1 c1 n2 c2 : Nat} {l o : List (Nat × Nat)} (h1 : Live w A1 n1 c1 l) (h2 : Live w A2 n2 c2 o) (k1 : n1 ≤ 100000) (k2 : n2 ≤ 100000) :
    Calls Try.prog 12 #[.slice A1 n1 c1, .slice A2 n2 c2] w (MakesH (2 * (n1 + n2) + 2) (fun n => inB l n && inB o n) w) :=
  (both_any w _ A1 A2 n1 c1 n2 c2 l o h1 h2 (Nat.le_refl _)).mono fun _ _ h => h.live (by omega)
theorem make_h {w : World} {A1 A2 : Option Addr} {n1 c1 n2 c2 : Nat} {l o : List (Nat × Nat)} (kind : Int) (hk : kind = 0 ∨ kind = 1 ∨ kind = 2) (h1 : Live w A1 n1 c1 l) (h2 : Live w A2 n2 c2 o) (k1 : n1 ≤ 10000) (k2 : n2 ≤ 10000) :
    Calls Try.prog 16 #[.int .i64 kind, .slice A1 n1 c1, .slice A2 n2 c2] w (MakesH 40000 (fun n => selB kind (inB l n) (inB o n)) w) :=
  (make_any kind hk A1 A2 n1 c1 n2 c2 l o w h1.len h2.len k1 k2 h1.reads h2.reads h1.fit h2.fit).mono fun _ _ h => h.live (by omega)
theorem same_h {w : World} {A1 A2 : Option Addr} {n1 c1 n2 c2 : Nat} {l o : List (Nat × Nat)} (h1 : Live w A1 n1 c1 l) (h2 : Live w A2 n2 c2 o) :
    Calls Try.prog 9 #[.slice A1 n1 c1, .slice A2 n2 c2] w (Says (decide (l = o)) w) :=
  same_any A1 A2 n1 c1 n2 c2 _ l o w h1.len h2.len (by have := h1.few; omega) (by have := h2.few; omega) h1.reads h2.reads (Nat.le_refl _)
theorem same_yes {w : World} {A1 A2 : Option Addr} {n1 c1 n2 c2 : Nat} {l o : List (Nat × Nat)} (h1 : Live w A1 n1 c1 l) (h2 : Live w A2 n2 c2 o) (h : l = o) :
    Calls Try.prog 9 #[.slice A1 n1 c1, .slice A2 n2 c2] w (Says true w) := by
  have := same_h h1 h2
  rwa [decide_eq_true h] at this
theorem neat_yes {w : World} {A : Option Addr} {n c : Nat} {l : List (Nat × Nat)} (h : Live w A n c l) (hn : NeatL l) :
    Calls Try.prog 15 #[.slice A n c] w (Says true w) :=
  (neat_any A n c l w _ h.len (by have := h.few; omega) h.reads (Nat.le_refl _)).mono fun _ _ h => ⟨h.1 hn, h.2.2⟩
theorem neat_not {w : World} {A : Option Addr} {n c : Nat} {l : List (Nat × Nat)} (h : Live w A n c l) (hn : ¬ NeatL l) :
    Calls Try.prog 15 #[.slice A n c] w (Says false w) :=
  (neat_any A n c l w _ h.len (by have := h.few; omega) h.reads (Nat.le_refl _)).mono fun _ _ h => ⟨h.2.1 hn, h.2.2⟩

theorem neat_b {w : World} {A : Option Addr} {n c : Nat} {l : List (Nat × Nat)} (h : Live w A n c l) :
    Calls Try.prog 15 #[.slice A n c] w fun e w' => ∃ q : Bool, e = .returned (.bool q) ∧ (q = true ↔ NeatL l) ∧ Below w.heap.size w w' :=
  (neat_any A n c l w _ h.len (by have := h.few; omega) h.reads (Nat.le_refl _)).mono fun _ _ ⟨h1, h2, h3⟩ => by
    by_cases hn : NeatL l
    · exact ⟨true, h1 hn, ⟨fun _ => hn, fun _ => rfl⟩, h3⟩
    · exact ⟨false, h2 hn, ⟨fun h => (by cases h), fun h => absurd h hn⟩, h3⟩
theorem rneat_b {w : World} {A : Option Addr} {n c : Nat} {l : List (Nat × Nat)} (h : Live w A n c l) (k : n ≤ 10000) :
    Calls Try.prog 18 #[.slice A n c] w fun e w' => ∃ q : Bool, e = .returned (.bool q) ∧ (q = true ↔ NeatL l) ∧ Below w.heap.size w w' :=
  rneat_any A n c l w h.len k h.reads h.fit

/-- Ranges written out. -/
def OfGave (l : List (Nat × Nat)) (w : World) (e : Ending) (w' : World) : Prop := ∃ A n c, e = .returned (.slice A n c) ∧ Live w' A n c l ∧ n ≤ 100 ∧ Below w.heap.size w w'

theorem sv_lit (w : World) (ns : List Nat) : Sv (w.alloc (.cells (ns.map cell64).toArray 27)) (w.heap.size + 1) (some ⟨w.heap.size, 0, none⟩) (ns.map cell64) := by
  intro _
  refine ⟨w.heap.size, 0, rfl, by omega, fun i v hv => ?_⟩
  rw [Nat.zero_add, (Wh.new w 27 (ns.map cell64).toArray).cell, List.getElem?_toArray]
  exact hv

theorem of_lit (w : World) (ns : List Nat) (hl : ns.length ≤ 100) (hf : FitL (pairsL ns)) :
    Calls Try.prog 11 #[.slice (some ⟨w.heap.size, 0, none⟩) ns.length ns.length] (w.alloc (.cells (ns.map cell64).toArray 27)) (OfGave (pairsL ns) w) := by
  refine (of_any (some ⟨w.heap.size, 0, none⟩) ns.length ns.length ns _ rfl (by omega) (by simpa using sv_lit w ns)).mono ?_
  rintro e w' ⟨v, rfl, ho, hb⟩
  obtain ⟨A, c, rfl, h1, h2⟩ := ho.form
  have hp := pairs_len 100 ns (by omega)
  exact ⟨A, _, c, rfl, ⟨rfl, by omega, ho.rs, h1, h2, hf⟩, hp, ((Below.refl _ w).alloc (Nat.le_refl _) _).trans (hb.mono (by simp))⟩

/-- Numbers written out, asked for. -/
theorem has_lit {w : World} {A : Option Addr} {n c : Nat} {l : List (Nat × Nat)} (h : Live w A n c l) (ns : List Nat) (hl : ns.length ≤ 100) {b : Bool} (hb : ns.all (inB l) = b) :
    Calls Try.prog 13 #[.slice A n c, .slice (some ⟨w.heap.size, 0, none⟩) ns.length ns.length] (w.alloc (.cells (ns.map cell64).toArray 27)) fun e w' => e = .returned (.bool b) ∧ Below w.heap.size w w' := by
  subst hb
  exact (has_any _ _ A (some ⟨w.heap.size, 0, none⟩) n c ns.length ns.length l ns (h.alloc _) (Nat.le_refl _) (by simpa using sv_lit w ns) rfl (by omega)).mono fun _ _ ⟨he, hq⟩ => ⟨he, ((Below.refl _ w).alloc (Nat.le_refl _) _).trans (hq.mono (by simp))⟩
theorem has_none {w : World} {A : Option Addr} {n c : Nat} {l : List (Nat × Nat)} (h : Live w A n c l) :
    Calls Try.prog 13 #[.slice A n c, .slice none 0 0] w fun e w' => e = .returned (.bool true) ∧ Below w.heap.size w w' :=
  has_any w _ A none n c 0 0 l [] h (Nat.le_refl _) (Sv.nil _ _ _) rfl (Nat.zero_le _)

/-- A count told. -/
theorem count_h {w : World} {A : Option Addr} {n c : Nat} {l m : List (Nat × Nat)} (h : Live w A n c l) (hm : NeatL m) (hi : ∀ x, inB m x = inB l x) :
    Calls Try.prog 19 #[.slice A n c] w fun e w' => e = .returned (.int .u64 ((totalL m : Nat) : Int)) ∧ Below w.heap.size w w' :=
  (count_any w _ A n c l h (Nat.le_refl _)).mono fun _ _ ⟨nl, he, hn, _, h3, hb⟩ => ⟨by rw [he, neat_unique hn hm fun x => (h3 x).trans (hi x).symm], hb⟩
theorem rcount_h {w : World} {A : Option Addr} {n c : Nat} {l m : List (Nat × Nat)} (h : Live w A n c l) (k : n ≤ 10000) (hm : NeatL m) (hi : ∀ x, inB m x = inB l x) :
    Calls Try.prog 20 #[.slice A n c] w fun e w' => e = .returned (.int .u64 ((totalL m : Nat) : Int)) ∧ Below w.heap.size w w' :=
  (rcount_any A n c l w h.len k h.reads h.fit).mono fun _ _ ⟨nl, he, hn, _, h3, hb⟩ => ⟨by rw [he, neat_unique hn hm fun x => (h3 x).trans (hi x).symm], hb⟩

theorem gap_h {w : World} {A : Option Addr} {n c : Nat} {l : List (Nat × Nat)} {x y : Nat} (h : Live w A n c l) (hg : GapOf l x y) :
    Calls Try.prog 14 #[.slice A n c, .int .u64 (x : Int)] w fun e w' => e = .returned (.int .u64 (y : Int)) ∧ Below w.heap.size w w' :=
  (gap_any w _ A n c l x h (Nat.le_refl _)).mono fun _ _ ⟨z, he, hz, _, hb⟩ => ⟨by rw [he, gap_unique hz hg], hb⟩

end Go.Proofs.Ytkmnhlcjeebejaa
