/-
  The walks through head.May and the document's own May: whether a head may be.
  The walk through varint.put: a number's shortest bytes behind a slice of the call's own.
  The walks through varint.sizes and varint.Append.
-/
import Derived.Test.YtblclinfcdalaaaDoorSb2
import Derived.Test.YtblclinfcdalaaaDoorSb12
import Derived.BigQuiet
import Derived.Test.YtblclinfcdalaaaDoorSb1
namespace Go.Proofs.YtblclinfcdalaaaDoor
section
open Go.RowKit
set_option linter.unusedVariables false

/-- A head's cells. -/
def headC (sp : Nat) (A1 : Option Addr) (n1 c1 : Nat) (A2 : Option Addr) (n2 c2 : Nat) (A3 : Option Addr) (n3 c3 : Nat) (ph : Bool) (pn pnb : Int) : Array Value :=
  #[.int .u8 (sp : Int), .slice A1 n1 c1, .slice A2 n2 c2, .slice A3 n3 c3, .bool ph, .int .u64 pn, .int .i64 pnb]

abbrev headOf (sp : Nat) (dst src tok : List UInt8) (ph : Bool) (pn pnb : Int) (A1 : Option Addr) (c1 : Nat) (A2 : Option Addr) (c2 : Nat) (A3 : Option Addr) (c3 : Nat) : Array Value := headC sp A1 dst.length c1 A2 src.length c2 A3 tok.length c3 ph pn pnb

/-- Whether a head may be: by its space, how many bytes its names and its token have, its phase, number, and how many bytes that has. -/
def mayB (sp n1 n2 n3 : Nat) (ph : Bool) (pn pnb : Int) : Bool :=
  if n1 ≤ 20 ∧ n2 ≤ 20 ∧ 1 ≤ pnb ∧ pnb ≤ 4 ∧ pn ≤ 4611686018427387903 then
    (if sp = 0 then !ph else if sp = 1 then !ph && decide (n3 = 0) else if sp = 2 then decide (n2 = 0) && decide (n3 = 0) else false)
  else false

set_option maxRecDepth 10000 in
set_option maxHeartbeats 400000 in
theorem hm_d (sp : Nat) (n2 : Nat) (n3 : Nat) (ph : Bool) (A1 : Option Addr) (n1 c1 : Nat) (A2 : Option Addr) (c2 : Nat) (A3 : Option Addr) (c3 : Nat) (pn pnb : Int) (w : World) (h1 : 20 < n1) :
    Calls Tryd.prog 17 #[.agg (headC sp A1 n1 c1 A2 n2 c2 A3 n3 c3 ph pn pnb)] w fun e w' => e = .returned (.bool false) ∧ Below w.heap.size w w' := by
  unfold headC
  go_enter Tryd.func17, Tryd.ntmps17
  go_wp2
  go_ret
  exact ⟨rfl, (Below.refl _ _).alloc (Nat.le_refl _) _⟩

set_option maxRecDepth 10000 in
set_option maxHeartbeats 400000 in
theorem hm_s (sp : Nat) (n2 : Nat) (n3 : Nat) (ph : Bool) (A1 : Option Addr) (n1 c1 : Nat) (A2 : Option Addr) (c2 : Nat) (A3 : Option Addr) (c3 : Nat) (pn pnb : Int) (w : World) (h1 : n1 ≤ 20) (h2 : 20 < n2) :
    Calls Tryd.prog 17 #[.agg (headC sp A1 n1 c1 A2 n2 c2 A3 n3 c3 ph pn pnb)] w fun e w' => e = .returned (.bool false) ∧ Below w.heap.size w w' := by
  unfold headC
  go_enter Tryd.func17, Tryd.ntmps17
  go_wp2
  go_ret
  exact ⟨rfl, (Below.refl _ _).alloc (Nat.le_refl _) _⟩

set_option maxRecDepth 10000 in
set_option maxHeartbeats 400000 in
theorem hm_b (sp : Nat) (n2 : Nat) (n3 : Nat) (ph : Bool) (A1 : Option Addr) (n1 c1 : Nat) (A2 : Option Addr) (c2 : Nat) (A3 : Option Addr) (c3 : Nat) (pn pnb : Int) (w : World) (h1 : n1 ≤ 20) (h2 : n2 ≤ 20) (h3 : pnb < 1) :
    Calls Tryd.prog 17 #[.agg (headC sp A1 n1 c1 A2 n2 c2 A3 n3 c3 ph pn pnb)] w fun e w' => e = .returned (.bool false) ∧ Below w.heap.size w w' := by
  unfold headC
  go_enter Tryd.func17, Tryd.ntmps17
  go_wp2
  go_ret
  exact ⟨rfl, (Below.refl _ _).alloc (Nat.le_refl _) _⟩

set_option maxRecDepth 10000 in
set_option maxHeartbeats 400000 in
theorem hm_m (sp : Nat) (n2 : Nat) (n3 : Nat) (ph : Bool) (A1 : Option Addr) (n1 c1 : Nat) (A2 : Option Addr) (c2 : Nat) (A3 : Option Addr) (c3 : Nat) (pn pnb : Int) (w : World) (h1 : n1 ≤ 20) (h2 : n2 ≤ 20) (h3 : 1 ≤ pnb) (h4 : 4 < pnb) :
    Calls Tryd.prog 17 #[.agg (headC sp A1 n1 c1 A2 n2 c2 A3 n3 c3 ph pn pnb)] w fun e w' => e = .returned (.bool false) ∧ Below w.heap.size w w' := by
  unfold headC
  go_enter Tryd.func17, Tryd.ntmps17
  go_wp2
  go_ret
  exact ⟨rfl, (Below.refl _ _).alloc (Nat.le_refl _) _⟩

set_option maxRecDepth 10000 in
set_option maxHeartbeats 400000 in
theorem hm_n (sp : Nat) (n2 : Nat) (n3 : Nat) (ph : Bool) (A1 : Option Addr) (n1 c1 : Nat) (A2 : Option Addr) (c2 : Nat) (A3 : Option Addr) (c3 : Nat) (pn pnb : Int) (w : World) (h1 : n1 ≤ 20) (h2 : n2 ≤ 20) (h3 : 1 ≤ pnb) (h4 : pnb ≤ 4) (h5 : 4611686018427387903 < pn) :
    Calls Tryd.prog 17 #[.agg (headC sp A1 n1 c1 A2 n2 c2 A3 n3 c3 ph pn pnb)] w fun e w' => e = .returned (.bool false) ∧ Below w.heap.size w w' := by
  unfold headC
  go_enter Tryd.func17, Tryd.ntmps17
  go_wp2
  go_ret
  exact ⟨rfl, (Below.refl _ _).alloc (Nat.le_refl _) _⟩

set_option maxRecDepth 10000 in
set_option maxHeartbeats 400000 in
theorem hm_0t (n2 : Nat) (n3 : Nat) (A1 : Option Addr) (n1 c1 : Nat) (A2 : Option Addr) (c2 : Nat) (A3 : Option Addr) (c3 : Nat) (pn pnb : Int) (w : World) (h1 : n1 ≤ 20) (h2 : n2 ≤ 20) (h3 : 1 ≤ pnb) (h4 : pnb ≤ 4) (h5 : pn ≤ 4611686018427387903) :
    Calls Tryd.prog 17 #[.agg (headC 0 A1 n1 c1 A2 n2 c2 A3 n3 c3 true pn pnb)] w fun e w' => e = .returned (.bool false) ∧ Below w.heap.size w w' := by
  unfold headC
  go_enter Tryd.func17, Tryd.ntmps17
  go_wp2
  go_ret
  exact ⟨rfl, (Below.refl _ _).alloc (Nat.le_refl _) _⟩

set_option maxRecDepth 10000 in
set_option maxHeartbeats 400000 in
theorem hm_0f (n2 : Nat) (n3 : Nat) (A1 : Option Addr) (n1 c1 : Nat) (A2 : Option Addr) (c2 : Nat) (A3 : Option Addr) (c3 : Nat) (pn pnb : Int) (w : World) (h1 : n1 ≤ 20) (h2 : n2 ≤ 20) (h3 : 1 ≤ pnb) (h4 : pnb ≤ 4) (h5 : pn ≤ 4611686018427387903) :
    Calls Tryd.prog 17 #[.agg (headC 0 A1 n1 c1 A2 n2 c2 A3 n3 c3 false pn pnb)] w fun e w' => e = .returned (.bool true) ∧ Below w.heap.size w w' := by
  unfold headC
  go_enter Tryd.func17, Tryd.ntmps17
  go_wp2
  go_ret
  exact ⟨rfl, (Below.refl _ _).alloc (Nat.le_refl _) _⟩

set_option maxRecDepth 10000 in
set_option maxHeartbeats 400000 in
theorem hm_1t (n2 : Nat) (n3 : Nat) (A1 : Option Addr) (n1 c1 : Nat) (A2 : Option Addr) (c2 : Nat) (A3 : Option Addr) (c3 : Nat) (pn pnb : Int) (w : World) (h1 : n1 ≤ 20) (h2 : n2 ≤ 20) (h3 : 1 ≤ pnb) (h4 : pnb ≤ 4) (h5 : pn ≤ 4611686018427387903) :
    Calls Tryd.prog 17 #[.agg (headC 1 A1 n1 c1 A2 n2 c2 A3 n3 c3 true pn pnb)] w fun e w' => e = .returned (.bool false) ∧ Below w.heap.size w w' := by
  unfold headC
  go_enter Tryd.func17, Tryd.ntmps17
  go_wp2
  go_ret
  exact ⟨rfl, (Below.refl _ _).alloc (Nat.le_refl _) _⟩

set_option maxRecDepth 10000 in
set_option maxHeartbeats 400000 in
theorem hm_1fz (n2 : Nat) (A1 : Option Addr) (n1 c1 : Nat) (A2 : Option Addr) (c2 : Nat) (A3 : Option Addr) (c3 : Nat) (pn pnb : Int) (w : World) (h1 : n1 ≤ 20) (h2 : n2 ≤ 20) (h3 : 1 ≤ pnb) (h4 : pnb ≤ 4) (h5 : pn ≤ 4611686018427387903) :
    Calls Tryd.prog 17 #[.agg (headC 1 A1 n1 c1 A2 n2 c2 A3 0 c3 false pn pnb)] w fun e w' => e = .returned (.bool true) ∧ Below w.heap.size w w' := by
  unfold headC
  go_enter Tryd.func17, Tryd.ntmps17
  go_wp2
  go_ret
  exact ⟨rfl, (Below.refl _ _).alloc (Nat.le_refl _) _⟩

set_option maxRecDepth 10000 in
set_option maxHeartbeats 400000 in
theorem hm_1fn (n2 : Nat) (n3 : Nat) (A1 : Option Addr) (n1 c1 : Nat) (A2 : Option Addr) (c2 : Nat) (A3 : Option Addr) (c3 : Nat) (pn pnb : Int) (w : World) (h1 : n1 ≤ 20) (h2 : n2 ≤ 20) (h3 : 1 ≤ pnb) (h4 : pnb ≤ 4) (h5 : pn ≤ 4611686018427387903) (h6 : 0 < n3) :
    Calls Tryd.prog 17 #[.agg (headC 1 A1 n1 c1 A2 n2 c2 A3 n3 c3 false pn pnb)] w fun e w' => e = .returned (.bool false) ∧ Below w.heap.size w w' := by
  have q0 : ((n3 : Int) == 0) = false := by rw [beq_eq_false_iff_ne]; omega
  unfold headC
  go_enter Tryd.func17, Tryd.ntmps17
  go_wp2
  go_ret
  exact ⟨rfl, (Below.refl _ _).alloc (Nat.le_refl _) _⟩

set_option maxRecDepth 10000 in
set_option maxHeartbeats 400000 in
theorem hm_2n (n2 : Nat) (n3 : Nat) (ph : Bool) (A1 : Option Addr) (n1 c1 : Nat) (A2 : Option Addr) (c2 : Nat) (A3 : Option Addr) (c3 : Nat) (pn pnb : Int) (w : World) (h1 : n1 ≤ 20) (h2 : n2 ≤ 20) (h3 : 1 ≤ pnb) (h4 : pnb ≤ 4) (h5 : pn ≤ 4611686018427387903) (h6 : 0 < n2) :
    Calls Tryd.prog 17 #[.agg (headC 2 A1 n1 c1 A2 n2 c2 A3 n3 c3 ph pn pnb)] w fun e w' => e = .returned (.bool false) ∧ Below w.heap.size w w' := by
  have q0 : ((n2 : Int) == 0) = false := by rw [beq_eq_false_iff_ne]; omega
  unfold headC
  go_enter Tryd.func17, Tryd.ntmps17
  go_wp2
  go_ret
  exact ⟨rfl, (Below.refl _ _).alloc (Nat.le_refl _) _⟩

set_option maxRecDepth 10000 in
set_option maxHeartbeats 400000 in
theorem hm_2zn (n3 : Nat) (ph : Bool) (A1 : Option Addr) (n1 c1 : Nat) (A2 : Option Addr) (c2 : Nat) (A3 : Option Addr) (c3 : Nat) (pn pnb : Int) (w : World) (h1 : n1 ≤ 20) (h3 : 1 ≤ pnb) (h4 : pnb ≤ 4) (h5 : pn ≤ 4611686018427387903) (h6 : 0 < n3) :
    Calls Tryd.prog 17 #[.agg (headC 2 A1 n1 c1 A2 0 c2 A3 n3 c3 ph pn pnb)] w fun e w' => e = .returned (.bool false) ∧ Below w.heap.size w w' := by
  have q0 : ((n3 : Int) == 0) = false := by rw [beq_eq_false_iff_ne]; omega
  unfold headC
  go_enter Tryd.func17, Tryd.ntmps17
  go_wp2
  go_ret
  exact ⟨rfl, (Below.refl _ _).alloc (Nat.le_refl _) _⟩

set_option maxRecDepth 10000 in
set_option maxHeartbeats 400000 in
theorem hm_2zz (ph : Bool) (A1 : Option Addr) (n1 c1 : Nat) (A2 : Option Addr) (c2 : Nat) (A3 : Option Addr) (c3 : Nat) (pn pnb : Int) (w : World) (h1 : n1 ≤ 20) (h3 : 1 ≤ pnb) (h4 : pnb ≤ 4) (h5 : pn ≤ 4611686018427387903) :
    Calls Tryd.prog 17 #[.agg (headC 2 A1 n1 c1 A2 0 c2 A3 0 c3 ph pn pnb)] w fun e w' => e = .returned (.bool true) ∧ Below w.heap.size w w' := by
  unfold headC
  go_enter Tryd.func17, Tryd.ntmps17
  go_wp2
  go_ret
  exact ⟨rfl, (Below.refl _ _).alloc (Nat.le_refl _) _⟩

set_option maxRecDepth 10000 in
set_option maxHeartbeats 400000 in
theorem hm_3 (sp : Nat) (n2 : Nat) (n3 : Nat) (ph : Bool) (A1 : Option Addr) (n1 c1 : Nat) (A2 : Option Addr) (c2 : Nat) (A3 : Option Addr) (c3 : Nat) (pn pnb : Int) (w : World) (h1 : n1 ≤ 20) (h2 : n2 ≤ 20) (h3 : 1 ≤ pnb) (h4 : pnb ≤ 4) (h5 : pn ≤ 4611686018427387903) (h0 : 2 < sp) :
    Calls Tryd.prog 17 #[.agg (headC sp A1 n1 c1 A2 n2 c2 A3 n3 c3 ph pn pnb)] w fun e w' => e = .returned (.bool false) ∧ Below w.heap.size w w' := by
  have q0 : ((sp : Int) == 0) = false := by rw [beq_eq_false_iff_ne]; omega
  have q1 : ((sp : Int) == 1) = false := by rw [beq_eq_false_iff_ne]; omega
  have q2 : ((sp : Int) == 2) = false := by rw [beq_eq_false_iff_ne]; omega
  unfold headC
  go_enter Tryd.func17, Tryd.ntmps17
  go_wp2
  go_ret
  exact ⟨rfl, (Below.refl _ _).alloc (Nat.le_refl _) _⟩

theorem hmay_any (sp n1 n2 n3 : Nat) (ph : Bool) (A1 : Option Addr) (c1 : Nat) (A2 : Option Addr) (c2 : Nat) (A3 : Option Addr) (c3 : Nat) (pn pnb : Int) (w : World) :
    Calls Tryd.prog 17 #[.agg (headC sp A1 n1 c1 A2 n2 c2 A3 n3 c3 ph pn pnb)] w fun e w' => e = .returned (.bool (mayB sp n1 n2 n3 ph pn pnb)) ∧ Below w.heap.size w w' := by
  have key : ∀ v : Bool, mayB sp n1 n2 n3 ph pn pnb = v → (Calls Tryd.prog 17 #[.agg (headC sp A1 n1 c1 A2 n2 c2 A3 n3 c3 ph pn pnb)] w fun e w' => e = .returned (.bool v) ∧ Below w.heap.size w w') →
      Calls Tryd.prog 17 #[.agg (headC sp A1 n1 c1 A2 n2 c2 A3 n3 c3 ph pn pnb)] w fun e w' => e = .returned (.bool (mayB sp n1 n2 n3 ph pn pnb)) ∧ Below w.heap.size w w' := by
    rintro v rfl h
    exact h
  have hsp : sp = 0 ∨ sp = 1 ∨ sp = 2 ∨ 2 < sp := by omega
  by_cases h1 : n1 ≤ 20
  rotate_left 1
  · refine key false (by unfold mayB; rw [if_neg (by omega)]) ?_
    exact hm_d sp n2 n3 ph A1 n1 c1 A2 c2 A3 c3 pn pnb w (by omega)
  by_cases h2 : n2 ≤ 20
  rotate_left 1
  · refine key false (by unfold mayB; rw [if_neg (by omega)]) ?_
    exact hm_s sp n2 n3 ph A1 n1 c1 A2 c2 A3 c3 pn pnb w h1 (by omega)
  by_cases h3 : 1 ≤ pnb
  rotate_left 1
  · refine key false (by unfold mayB; rw [if_neg (by omega)]) ?_
    exact hm_b sp n2 n3 ph A1 n1 c1 A2 c2 A3 c3 pn pnb w h1 h2 (by omega)
  by_cases h4 : pnb ≤ 4
  rotate_left 1
  · refine key false (by unfold mayB; rw [if_neg (by omega)]) ?_
    exact hm_m sp n2 n3 ph A1 n1 c1 A2 c2 A3 c3 pn pnb w h1 h2 h3 (by omega)
  by_cases h5 : pn ≤ 4611686018427387903
  rotate_left 1
  · refine key false (by unfold mayB; rw [if_neg (by omega)]) ?_
    exact hm_n sp n2 n3 ph A1 n1 c1 A2 c2 A3 c3 pn pnb w h1 h2 h3 h4 (by omega)
  have hok : mayB sp n1 n2 n3 ph pn pnb = (if sp = 0 then !ph else if sp = 1 then !ph && decide (n3 = 0) else if sp = 2 then decide (n2 = 0) && decide (n3 = 0) else false) := by
    unfold mayB
    rw [if_pos ⟨h1, h2, h3, h4, h5⟩]
  rcases hsp with rfl | rfl | rfl | h0
  · cases ph
    · exact key true (by rw [hok]; rfl) (hm_0f n2 n3 A1 n1 c1 A2 c2 A3 c3 pn pnb w h1 h2 h3 h4 h5)
    · exact key false (by rw [hok]; rfl) (hm_0t n2 n3 A1 n1 c1 A2 c2 A3 c3 pn pnb w h1 h2 h3 h4 h5)
  · cases ph
    · by_cases h6 : n3 = 0
      · subst h6
        exact key true (by rw [hok]; rfl) (hm_1fz n2 A1 n1 c1 A2 c2 A3 c3 pn pnb w h1 h2 h3 h4 h5)
      · exact key false (by rw [hok]; simp [h6]) (hm_1fn n2 n3 A1 n1 c1 A2 c2 A3 c3 pn pnb w h1 h2 h3 h4 h5 (by omega))
    · exact key false (by rw [hok]; rfl) (hm_1t n2 n3 A1 n1 c1 A2 c2 A3 c3 pn pnb w h1 h2 h3 h4 h5)
  · by_cases h6 : n2 = 0
    · subst h6
      by_cases h7 : n3 = 0
      · subst h7
        exact key true (by rw [hok]; rfl) (hm_2zz ph A1 n1 c1 A2 c2 A3 c3 pn pnb w h1 h3 h4 h5)
      · exact key false (by rw [hok]; simp [h7]) (hm_2zn n3 ph A1 n1 c1 A2 c2 A3 c3 pn pnb w h1 h3 h4 h5 (by omega))
    · exact key false (by rw [hok]; simp [h6]) (hm_2n n2 n3 ph A1 n1 c1 A2 c2 A3 c3 pn pnb w h1 h2 h3 h4 h5 (by omega))
  · exact key false (by rw [hok, if_neg (by omega), if_neg (by omega), if_neg (by omega)]) (hm_3 sp n2 n3 ph A1 n1 c1 A2 c2 A3 c3 pn pnb w h1 h2 h3 h4 h5 h0)
end

section
open Go.RowKit
set_option linter.unusedVariables false

theorem zeros_any (s c : Nat) (w : World) (hT : Tab w) (h : (s = 1 ∧ c = 0) ∨ (s = 2 ∧ c = 1) ∨ (s = 4 ∧ c = 2) ∨ (s = 8 ∧ c = 3)) :
    Calls Tryd.prog 138 #[.int .u64 (s : Int)] w fun e w' => e = .returned (.int .i64 (c : Int)) ∧ w = w' := by
  rcases h with ⟨rfl, rfl⟩ | ⟨rfl, rfl⟩ | ⟨rfl, rfl⟩ | ⟨rfl, rfl⟩
  · exact zeros1 w hT.1
  · exact zeros2 w hT.2.1
  · exact zeros4 w hT.2.2.1
  · exact zeros8 w hT.2.2.2

/-- What an append to a slice of the call's own leaves. -/
def Owns (w : World) (B len : Nat) (xs : List Value) (l : List UInt8) (e : Ending) (w' : World) : Prop :=
  ∃ v', e = .returned v' ∧ w'.ownsRow B 5 1 v' (len + l.length) (xs ++ l.map cell8) ∧ Below B w w'

set_option maxRecDepth 10000 in
set_option maxHeartbeats 400000 in
theorem put_any (B n N len s c : Nat) (sv : Value) (xs : List Value) (w : World) (hown : w.ownsRow B 5 1 sv len xs) (hB : B ≤ w.heap.size) (hT : Tab w) (hTB : 2 < B)
    (hs : szN n = s) (hc : (s = 1 ∧ c = 0) ∨ (s = 2 ∧ c = 1) ∨ (s = 4 ∧ c = 2) ∨ (s = 8 ∧ c = 3)) (hs1 : 1 ≤ s) (hs8 : s ≤ 8) (hc3 : c ≤ 3) (hlen : len ≤ 1048576)
    (hN : bits .or .u64 (n : Int) (IntKind.u64.wrap ((c : Int) * 2 ^ (8 * s - 2))) = (N : Int)) :
    Calls Tryd.prog 127 #[sv, .int .u64 (n : Int)] w (Owns w B len xs (be N s)) := by
  obtain ⟨i0, hi0, hz0, hz1, hz2⟩ := info_parts info8V
  have HS := Lib.hid hs
  have HC := Lib.hid hc
  clear hs hc
  go_enter Tryd.func127, Tryd.ntmps127
  go_wp2_with (first
    | (go_at_call 137; refine (size_any n _).mono ?_; rintro e w' ⟨rfl, rfl⟩; rw [HS.out])
    | (go_at_call 138; refine (zeros_any s c _ hT HC.out).mono ?_; rintro e w' ⟨rfl, rfl⟩))
  go_loopw [0, 6] (fun vb va wr => ∃ (k : Nat) (pre : List UInt8), k ≤ s ∧ va = .int .i64 (8 * (k : Int) - 8) ∧ Hid (be N s = pre ++ be N k) ∧ pre.length + k = s ∧ wr.ownsRow B 5 1 vb (len + pre.length) (xs ++ pre.map cell8) ∧ Below B w wr)
    (fun _ va _ => (intOf va + 8).toNat)
  case atStart => exact ⟨s, [], Nat.le_refl _, rfl, Lib.hid rfl, by simp, by simpa using hown, Below.refl _ _⟩
  case round =>
    obtain ⟨k, pre, hk, rfl, hsplit, hpl, hown1, hbel⟩ := hrel
    have HP := Lib.hid hpl
    by_cases h0 : 1 ≤ k
    · obtain ⟨j, rfl⟩ : ∃ j, k = j + 1 := ⟨k - 1, by omega⟩
      have hp7 : pre.length ≤ 7 := by omega
      clear hpl
      go_wp2_with (at_builtin; refine wpList_append_sv _ rfl _ _ _ rfl B 5 i0 _ 1 Tryd.underlying23 hi0 hz0 hz1 hz2 rfl _ _ _ rfl (hown1.alloc _) _ _ 1 1 _ rfl (sv_new _ _ _) rfl (fun u hu => by simp at hu; subst hu; rfl) (by unfold maxLen; omega) (by omega) (by have := hbel.size; simp; omega) ?_; intro v1 w1 hown2 hg2 hat2)
      go_roundw
      case rel =>
        have hb2 : Below B w w1 := (hbel.alloc (by have := hbel.size; omega) _).grown hg2 (by have := hbel.size; simp; omega) (fun q hq => (hown1.lt q hq).1)
        have hlen' := HP.out
        refine ⟨j, pre ++ [UInt8.ofNat (N / 256 ^ j % 256)], by omega, by go_num, ?_, by simp; omega, ?_, hb2⟩
        · exact hsplit.out.trans (by simp [be])
        · rw [show 8 * (j + 1) - 8 = 8 * j by omega, be_cell] at hown2
          rw [List.length_append, List.length_singleton, List.map_append, ← Nat.add_assoc, ← List.append_assoc]
          exact hown2
      case measure => simp [intOf]; omega
    · obtain rfl : k = 0 := by omega
      go_wp2
      go_ret
      have he : be N s = pre := by have := hsplit.out; simpa [be] using this
      exact ⟨_, rfl, by rw [he]; exact hown1, hbel⟩
/-- varint.put: a number's shortest bytes. -/
theorem put_enc {n : Nat} (h : n ≤ 4611686018427387903) (B len : Nat) (sv : Value) (xs : List Value) (w : World) (hown : w.ownsRow B 5 1 sv len xs) (hB : B ≤ w.heap.size) (hT : Tab w) (hTB : 2 < B) (hlen : len ≤ 1048576) :
    Calls Tryd.prog 127 #[sv, .int .u64 (n : Int)] w (Owns w B len xs (enc n)) := by
  have hc := lg_cases h
  exact put_any B n (encN n) len (szN n) (lg n) sv xs w hown hB hT hTB rfl hc (by omega) (by omega) (by omega) hlen (or_size h)
end

section
open Go.RowKit
set_option linter.unusedVariables false

abbrev Sn (w : World) (B : Nat) (A : Option Addr) (l : List Nat) : Prop := Sv w B A (l.map cell64)

theorem Sn.at_ {w : World} {B : Nat} {A : Option Addr} {l : List Nat} (h : Sn w B A l) (hn : 0 < l.length) :
    ∃ b off, A = some ⟨b, off, none⟩ ∧ b < B ∧ ∀ (i x : Nat), l[i]? = some x → w.cell? ⟨b, off + i, none⟩ = some (.int .u64 (x : Int)) := by
  obtain ⟨b, off, hA, hb, hc⟩ := Sv.at_ h (by simpa using hn)
  exact ⟨b, off, hA, hb, fun i x hx => hc i (cell64 x) (by rw [List.getElem?_map, hx]; rfl)⟩

/-- Every number may be. -/
def May (l : List Nat) : Prop := ∀ i n : Nat, l[i]? = some n → n ≤ 4611686018427387903

def SizesTold (l : List Nat) (w : World) (e : Ending) (w' : World) : Prop :=
  (May l → e = .returned (.tuple #[.int .i64 (sumSz l : Nat), .bool true])) ∧ (¬ May l → e = .returned (.tuple #[.int .i64 0, .bool false])) ∧ w = w'

set_option maxRecDepth 10000 in
set_option maxHeartbeats 400000 in
theorem sizes_in (b off len c : Nat) (l : List Nat) (w : World) (hl : l.length = len) (hlen : len ≤ 1048576) (hc : ∀ i n : Nat, l[i]? = some n → w.cell? ⟨b, off + i, none⟩ = some (.int .u64 (n : Int))) :
    Calls Tryd.prog 126 #[.slice (some ⟨b, off, none⟩) len c] w (SizesTold l w) := by
  have HL := Lib.hid hl
  have HC := Lib.hid hc
  clear hl hc
  go_enter Tryd.func126, Tryd.ntmps126
  go_wp2
  go_loop [2, 9] (fun vs i => ∃ k : Nat, k ≤ len ∧ i = .int .i64 k ∧ vs = .int .i64 (sumSz (l.take k) : Nat) ∧ May (l.take k)) (fun _ i => len - (intOf i).toNat)
  case atStart => exact ⟨0, Nat.zero_le _, rfl, rfl, fun i n h => by simp at h⟩
  case round =>
    obtain ⟨k, hk, rfl, rfl, hmay⟩ := hrel
    by_cases hlt : k < len
    · obtain ⟨n, hn⟩ : ∃ n, l[k]? = some n := ⟨_, List.getElem?_eq_getElem (by rw [HL.out]; exact hlt)⟩
      have hcell := HC.out k n hn
      have hsum := sumSz_le (l.take k)
      have hl8 : (l.take k).length ≤ k := List.length_take_le _ _
      have hsz8 := szN_le n
      have HN := Lib.hid (show sumSz (l.take (k + 1)) = sumSz (l.take k) + szN n by rw [takeN_next l k n hn, sumSz_snoc])
      have HK := Lib.hid hn
      have HM := Lib.hid hmay
      clear hn hmay
      by_cases hmax : n ≤ 4611686018427387903
      · have hp := szN_pos hmax
        have hne : ((szN n : Int) == 0) = false := by rw [beq_eq_false_iff_ne]; omega
        have HX := Lib.hid hmax
        clear hmax
        generalize sumSz (l.take k) = q at *
        generalize hz : szN n = z at *
        have HZ := Lib.hid hz
        clear hz
        go_wp2_with (go_at_call 137; refine (size_any n _).mono ?_; rintro e w' ⟨rfl, rfl⟩; rw [HZ.out])
        go_round
        case rel =>
          refine ⟨k + 1, by omega, by go_num, by rw [HN.out]; go_num, fun i m hm => ?_⟩
          rw [takeN_next l k n HK.out, List.getElem?_append] at hm
          split at hm
          · exact HM.out i m hm
          · have : i - (l.take k).length = 0 := by
              rcases Nat.eq_zero_or_pos (i - (l.take k).length) with h0 | h0
              · exact h0
              · rw [List.getElem?_eq_none (by simp only [List.length_singleton]; omega)] at hm; cases hm
            rw [this] at hm
            simp at hm
            rw [← hm]
            exact HX.out
        case measure => simp [intOf]; omega
      · have hz := szN_0 hmax
        have HZ := Lib.hid hz
        have HX := Lib.hid hmax
        clear hz hmax hsz8
        go_wp2_with (go_at_call 137; refine (size_any n _).mono ?_; rintro e w' ⟨rfl, rfl⟩; rw [HZ.out])
        go_ret2
        exact ⟨fun h => absurd (h k n HK.out) HX.out, fun _ => rfl, rfl⟩
    · obtain rfl : k = len := by omega
      have ht : l.take k = l := List.take_of_length_le (by rw [HL.out]; exact Nat.le_refl _)
      rw [ht] at hmay ⊢
      have HM := Lib.hid hmay
      clear hmay ht
      go_wp2
      go_ret2
      exact ⟨fun _ => rfl, fun h => absurd HM.out h, rfl⟩

set_option maxRecDepth 10000 in
set_option maxHeartbeats 400000 in
theorem sizes_empty (A : Option Addr) (c : Nat) (w : World) : Calls Tryd.prog 126 #[.slice A 0 c] w fun e w' => e = .returned (.tuple #[.int .i64 0, .bool true]) ∧ w = w' := by
  go_enter Tryd.func126, Tryd.ntmps126
  go_wp2
  refine wp_loop_rounds 1 ?_
  rw [rounds_succ]
  go_wp2
  go_ret2
  exact ⟨rfl, rfl⟩

theorem sizes_any (A : Option Addr) (len c : Nat) (l : List Nat) (w : World) (B : Nat) (hl : l.length = len) (hr : Sn w B A l) (hlen : len ≤ 1048576) :
    Calls Tryd.prog 126 #[.slice A len c] w (SizesTold l w) := by
  by_cases h0 : len = 0
  · subst h0
    obtain rfl : l = [] := List.eq_nil_of_length_eq_zero hl
    refine (sizes_empty A c w).mono ?_
    rintro e w' ⟨rfl, rfl⟩
    exact ⟨fun _ => rfl, fun h => absurd (fun i n hn => by simp at hn) h, rfl⟩
  · obtain ⟨b, off, rfl, hb, hc⟩ := Sn.at_ hr (by omega)
    exact sizes_in b off len c l w hl hlen hc

set_option maxRecDepth 10000 in
set_option maxHeartbeats 400000 in
/-- varint.Append where a number may not be. -/
theorem append_bad (A : Option Addr) (len c : Nat) (A2 : Option Addr) (len2 c2 : Nat) (l : List Nat) (w : World) (B : Nat) (hl : l.length = len2) (hr : Sn w B A2 l) (hlen : len2 ≤ 1048576) (hbad : ¬ May l) :
    Calls Tryd.prog 100 #[.slice A len c, .slice A2 len2 c2] w fun e w' => e = .returned (.tuple #[.slice none 0 0, .int .i64 5]) ∧ w = w' := by
  have HL := Lib.hid hl
  have HB := Lib.hid hbad
  clear hl hbad
  go_enter Tryd.func100, Tryd.ntmps100
  go_wp2_with (go_at_call 126; refine (sizes_any A2 len2 c2 l _ B HL.out hr hlen).mono ?_; rintro e w' ⟨_, hno, rfl⟩; obtain rfl := hno HB.out; clear hno)
  go_ret2
  exact ⟨rfl, rfl⟩

set_option maxRecDepth 10000 in
set_option maxHeartbeats 800000 in
/-- varint.Append where all may be. -/
theorem append_ok (A : Option Addr) (len c : Nat) (A2 : Option Addr) (len2 c2 : Nat) (b : List UInt8) (l : List Nat) (w : World) (B : Nat) (hlb : b.length = len) (hrb : Sl w B A b) (hl : l.length = len2) (hr : Sn w B A2 l)
    (hB : B ≤ w.heap.size) (hlenb : len ≤ 65536) (hlen : len2 ≤ 65536) (hmay : May l) (hT : Tab w) :
    Calls Tryd.prog 100 #[.slice A len c, .slice A2 len2 c2] w (Gave w (b ++ encs l) fun v => .tuple #[v, .int .i64 0]) := by
  obtain ⟨i0, hi0, hz0, hz1, hz2⟩ := info_parts info8V
  have HL := Lib.hid hl
  have HLB := Lib.hid hlb
  have HM := Lib.hid hmay
  have hsum := sumSz_le l
  rw [hl] at hsum
  clear hl hmay hlb
  generalize hq : sumSz l = q at *
  have HQ := Lib.hid hq
  clear hq
  go_enter Tryd.func100, Tryd.ntmps100
  go_wp2_with (first
    | (go_at_call 126; refine (sizes_any A2 len2 c2 l _ B HL.out hr (by omega)).mono ?_; rintro e w' ⟨hyes, _, rfl⟩; obtain rfl := hyes HM.out; clear hyes; rw [HQ.out])
    | (at_make; (refine wpList_make_own _ rfl _ _ _ rfl w.heap.size 5 i0 _ 1 Tryd.underlying23 hi0 hz0 hz1 _ _ _ (len + q) rfl rfl (by omega) (by rw [hz2]; omega) (by unfold maxLen; omega) (Nat.le_refl _) ?_); intro w1 hown1 hg1; have hb1 : Below w.heap.size w w1 := (Below.refl _ _).grown hg1 (Nat.le_refl _) (by simp))
    | (at_builtin; (refine wpList_append_sv _ rfl _ _ _ rfl w.heap.size 5 i0 _ 1 Tryd.underlying23 hi0 hz0 hz1 hz2 rfl (.slice (some ⟨w.heap.size, 0, none⟩) 0 (len + q)) 0 [] rfl hown1 B _ _ _ _ rfl (Sv.keep hrb (Nat.le_refl _) (fun p hp => hb1.cell (by omega))) ((List.length_map _).trans HLB.out) (cell8_one _) (by unfold maxLen; omega) (by omega) hb1.size ?_); intro v2 w2 hown2 hg2 hat2))
  have hb2 : Below w.heap.size w w2 := hb1.grown hg2 hb1.size (fun g hg => by simp [Value.ownBlock] at hg; omega)
  rw [Nat.zero_add, List.nil_append] at hown2
  clear hg1 hg2 hat2 hown1
  have hmayk : ∀ k n : Nat, l[k]? = some n → n ≤ 4611686018427387903 := HM.out
  have HMK := Lib.hid hmayk
  clear hmayk
  go_loopw [8, 28] (fun v i wr => ∃ k : Nat, k ≤ len2 ∧ i = .int .i64 k ∧ wr.ownsRow w.heap.size 5 1 v (len + (encs (l.take k)).length) (b.map cell8 ++ (encs (l.take k)).map cell8) ∧ Below w.heap.size w wr) (fun _ i _ => len2 - (intOf i).toNat)
  case atStart => exact ⟨0, Nat.zero_le _, rfl, by simpa [encs] using hown2, hb2⟩
  case round =>
    obtain ⟨k, hk, rfl, hownk, hbk⟩ := hrel
    by_cases hlt : k < len2
    · obtain ⟨n, hn⟩ : ∃ n, l[k]? = some n := ⟨_, List.getElem?_eq_getElem (by rw [HL.out]; exact hlt)⟩
      obtain ⟨b2, off2, rfl, hb2', hc2⟩ := Sn.at_ hr (by rw [HL.out]; omega)
      have hcell : wr.cell? ⟨b2, off2 + k, none⟩ = some (.int .u64 (n : Int)) := (hbk.cell (p := ⟨b2, off2 + k, none⟩) (Nat.lt_of_lt_of_le hb2' hB)).trans (hc2 k n hn)
      have hle : len + (encs (l.take k)).length ≤ 1048576 := by
        have h1 := encs_length (l.take k)
        have h2 := sumSz_le (l.take k)
        have h3 : (l.take k).length ≤ k := List.length_take_le _ _
        omega
      have HT := Lib.hid (hT.below hbk hT.lt)
      have HPut := Lib.hid (fun sv (hown : wr.ownsRow w.heap.size 5 1 sv (len + (encs (l.take k)).length) (b.map cell8 ++ (encs (l.take k)).map cell8)) => put_enc (HMK.out k n hn) w.heap.size _ sv _ wr hown hbk.size HT.out hT.lt hle)
      have HN := Lib.hid (show encs (l.take (k + 1)) = encs (l.take k) ++ enc n by rw [takeN_next l k n hn, encs_snoc])
      have HO := Lib.hid hownk
      clear hc2 hn hown2 hownk hle
      go_wp2_with (go_at_call 127; refine (HPut.out _ HO.out).mono ?_; rintro e w3 ⟨v3, rfl, hown3, hbel3⟩)
      have hb3 : Below w.heap.size w w3 := hbk.trans hbel3
      go_roundw
      case rel =>
        refine ⟨k + 1, by omega, by go_num, ?_, hb3⟩
        rw [HN.out, List.length_append, List.map_append, ← Nat.add_assoc, ← List.append_assoc]
        exact hown3
      case measure => simp [intOf]; omega
    · obtain rfl : k = len2 := by omega
      have ht : l.take k = l := List.take_of_length_le (by rw [HL.out]; exact Nat.le_refl _)
      rw [ht] at hownk
      have HO := Lib.hid hownk
      clear hownk ht hown2
      go_wp2
      have hown := HO.out
      have hll : len + (encs l).length = (b ++ encs l).length := by rw [List.length_append, HLB.out]
      rw [hll, ← List.map_append] at hown
      obtain ⟨A', c', rfl, q1, q2⟩ := own_form hown
      go_ret2
      exact ⟨A', c', rfl, q1, q2, hown, hbk⟩

theorem encs_one (n : Nat) : encs [n] = enc n := by simp [encs]

theorem may_one {n : Nat} (h : n ≤ 4611686018427387903) : May [n] := by
  intro i m hm
  cases i with
  | zero => simp at hm; omega
  | succ i => simp at hm
end
end Go.Proofs.YtblclinfcdalaaaDoor
