/-
  The walks through span.Add, Cut, Both, Gap, Count.
-/
import Derived.Test.YtaemfoelhijbjaaSpThose
namespace Go.Proofs.Ytaemfoelhijbjaa
open Go.RowKit
set_option linter.unusedVariables false

theorem picks_add : Picks 25 (fun a b => a || b) := ⟨enters_of Try.func25 (by kernel_rfl) rfl, addf_any, rfl⟩
theorem picks_cut : Picks 27 (fun a b => a && !b) := ⟨enters_of Try.func27 (by kernel_rfl) rfl, cutf_any, rfl⟩

/-- A slice of ranges that a call may be handed. -/
structure Hands (w : World) (B : Nat) (A : Option Addr) (n c : Nat) (l : List (Nat × Nat)) : Prop where
  len : l.length = n
  few : n ≤ 1000000
  reads : Rs w B A l
  cap : n ≤ c
  top : c ≤ maxLen
  fit : FitL l

theorem Hands.below {w w' : World} {B n c : Nat} {A : Option Addr} {l : List (Nat × Nat)} (h : Hands w B A n c l) (hb : Below B w w') : Hands w' B A n c l := ⟨h.len, h.few, h.reads.below hb, h.cap, h.top, h.fit⟩
theorem Hands.mono {w : World} {B B' n c : Nat} {A : Option Addr} {l : List (Nat × Nat)} (h : Hands w B A n c l) (hb : B ≤ B') : Hands w B' A n c l := ⟨h.len, h.few, h.reads.mono hb, h.cap, h.top, h.fit⟩
theorem Hands.nil (w : World) (B : Nat) : Hands w B none 0 0 [] := ⟨rfl, Nat.zero_le _, Rs.nil _ _ _, Nat.le_refl _, Nat.zero_le _, fun _ h => (by cases h)⟩

theorem add_any (w : World) (B : Nat) (A1 A2 : Option Addr) (n1 c1 n2 c2 : Nat) (l o : List (Nat × Nat)) (h1 : Hands w B A1 n1 c1 l) (h2 : Hands w B A2 n2 c2 o) (hB : B ≤ w.heap.size) :
    Calls Try.prog 13 #[.slice A1 n1 c1, .slice A2 n2 c2] w (Makes (2 * (n1 + n2) + 2) (fun n => inB l n || inB o n) w) := by
  have HC := Lib.hid (those_any _ _ picks_add A1 A2 n1 c1 n2 c2 l o w B hB h1.len h2.len h1.few h2.few h1.reads h2.reads h1.cap h2.cap h1.top h2.top h1.fit h2.fit)
  clear h1 h2
  go_enter Try.func13, Try.ntmps13
  go_wp2_with (go_at_call 24; refine HC.out.mono ?_; rintro e w' ⟨v, l', rfl, ho, hn, hf, hi, hlb, hb⟩; have HLB := Lib.hid hlb; have HO := Lib.hid ho; have HN := Lib.hid hn; have HF := Lib.hid hf; have HI := Lib.hid hi; have HB := Lib.hid hb; clear ho hn hf hi hb hlb)
  go_ret
  exact ⟨v, l', rfl, HO.out, HN.out, HF.out, HI.out, HLB.out, HB.out⟩

theorem cut_any (w : World) (B : Nat) (A1 A2 : Option Addr) (n1 c1 n2 c2 : Nat) (l o : List (Nat × Nat)) (h1 : Hands w B A1 n1 c1 l) (h2 : Hands w B A2 n2 c2 o) (hB : B ≤ w.heap.size) :
    Calls Try.prog 15 #[.slice A1 n1 c1, .slice A2 n2 c2] w (Makes (2 * (n1 + n2) + 2) (fun n => inB l n && !inB o n) w) := by
  have HC := Lib.hid (those_any _ _ picks_cut A1 A2 n1 c1 n2 c2 l o w B hB h1.len h2.len h1.few h2.few h1.reads h2.reads h1.cap h2.cap h1.top h2.top h1.fit h2.fit)
  clear h1 h2
  go_enter Try.func15, Try.ntmps15
  go_wp2_with (go_at_call 24; refine HC.out.mono ?_; rintro e w' ⟨v, l', rfl, ho, hn, hf, hi, hlb, hb⟩; have HLB := Lib.hid hlb; have HO := Lib.hid ho; have HN := Lib.hid hn; have HF := Lib.hid hf; have HI := Lib.hid hi; have HB := Lib.hid hb; clear ho hn hf hi hb hlb)
  go_ret
  exact ⟨v, l', rfl, HO.out, HN.out, HF.out, HI.out, HLB.out, HB.out⟩


/-- The least number from x on that is in none. -/
def GapOf (l : List (Nat × Nat)) (x y : Nat) : Prop := x ≤ y ∧ inB l y = false ∧ ∀ n, x ≤ n → n < y → inB l n = true

theorem gap_unique {l : List (Nat × Nat)} {x y z : Nat} (h : GapOf l x y) (k : GapOf l x z) : y = z := by
  obtain ⟨a1, a2, a3⟩ := h
  obtain ⟨b1, b2, b3⟩ := k
  rcases Nat.lt_trichotomy y z with h | h | h
  · have := b3 y a1 h
    rw [a2] at this
    cases this
  · exact h
  · have := a3 z b1 h
    rw [b2] at this
    cases this

theorem gap_of_look {nl : List (Nat × Nat)} (hn : NeatL nl) (hf : FitL nl) {x : Nat} (h : inB nl x = true) : GapOf nl x (lookL nl x).2 := by
  have hx := fit_in hf h
  obtain ⟨a, b, c⟩ := lookL_end hn hf x hx
  exact ⟨by omega, lookL_gap hn x h, fun n n1 n2 => by rw [c n n1 n2, h]⟩

/-- What Gap tells. -/
def GapTold (l : List (Nat × Nat)) (x : Nat) (w : World) (e : Ending) (w' : World) : Prop := ∃ y : Nat, e = .returned (.int .u64 (y : Int)) ∧ GapOf l x y ∧ y ≤ max x topN ∧ Below w.heap.size w w'


end Go.Proofs.Ytaemfoelhijbjaa
