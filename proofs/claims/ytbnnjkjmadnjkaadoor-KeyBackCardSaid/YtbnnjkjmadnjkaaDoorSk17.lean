/-
  The walks through head.May and the document's own May: whether a head may be.
  The walk through varint.put: a number's shortest bytes behind a slice of the call's own.
-/
import Derived.Test.YtbnnjkjmadnjkaaDoorSk3
import Derived.Test.YtbnnjkjmadnjkaaDoorSk16
import Derived.BigQuiet
import Derived.Test.YtbnnjkjmadnjkaaDoorSk2
namespace Go.Proofs.YtbnnjkjmadnjkaaDoor
section
open Go.RowKit
set_option linter.unusedVariables false

/-- A head's cells. -/
def headC (sp : Nat) (A1 : Option Addr) (n1 c1 : Nat) (A2 : Option Addr) (n2 c2 : Nat) (A3 : Option Addr) (n3 c3 : Nat) (ph : Bool) (pn pnb : Int) : Array Value :=
  #[.int .u8 (sp : Int), .slice A1 n1 c1, .slice A2 n2 c2, .slice A3 n3 c3, .bool ph, .int .u64 pn, .int .i64 pnb]

abbrev headOf (sp : Nat) (dst src tok : List UInt8) (ph : Bool) (pn pnb : Int) (A1 : Option Addr) (c1 : Nat) (A2 : Option Addr) (c2 : Nat) (A3 : Option Addr) (c3 : Nat) : Array Value := headC sp A1 dst.length c1 A2 src.length c2 A3 tok.length c3 ph pn pnb

/-- Whether a head may be: by its space, how many bytes its names and its token have, its phase, number, and how many bytes that has. -/
def mayB (sp n1 n2 n3 : Nat) (ph : Bool) (pn pnb : Int) : Bool :=
  if n1 ≤ 20 ∧ n2 ≤ 20 ∧ 1 ≤ pnb ∧ pnb ≤ 4 ∧ pn ≤ 4611686018427387903 then
    (if sp = 0 then !ph else if sp = 1 then !ph && decide (n3 = 0) else if sp = 2 then decide (n2 = 0) && decide (n3 = 0) else false)
  else false

set_option maxRecDepth 10000 in
set_option maxHeartbeats 400000 in
theorem hm_d (sp : Nat) (n2 : Nat) (n3 : Nat) (ph : Bool) (A1 : Option Addr) (n1 c1 : Nat) (A2 : Option Addr) (c2 : Nat) (A3 : Option Addr) (c3 : Nat) (pn pnb : Int) (w : World) (h1 : 20 < n1) :
    Calls Tryd.prog 5 #[.agg (headC sp A1 n1 c1 A2 n2 c2 A3 n3 c3 ph pn pnb)] w fun e w' => e = .returned (.bool false) ∧ Below w.heap.size w w' := by
  unfold headC
  go_enter Tryd.func5, Tryd.ntmps5
  go_wp2
  go_ret
  exact ⟨rfl, (Below.refl _ _).alloc (Nat.le_refl _) _⟩

set_option maxRecDepth 10000 in
set_option maxHeartbeats 400000 in
theorem hm_s (sp : Nat) (n2 : Nat) (n3 : Nat) (ph : Bool) (A1 : Option Addr) (n1 c1 : Nat) (A2 : Option Addr) (c2 : Nat) (A3 : Option Addr) (c3 : Nat) (pn pnb : Int) (w : World) (h1 : n1 ≤ 20) (h2 : 20 < n2) :
    Calls Tryd.prog 5 #[.agg (headC sp A1 n1 c1 A2 n2 c2 A3 n3 c3 ph pn pnb)] w fun e w' => e = .returned (.bool false) ∧ Below w.heap.size w w' := by
  unfold headC
  go_enter Tryd.func5, Tryd.ntmps5
  go_wp2
  go_ret
  exact ⟨rfl, (Below.refl _ _).alloc (Nat.le_refl _) _⟩

set_option maxRecDepth 10000 in
set_option maxHeartbeats 400000 in
theorem hm_b (sp : Nat) (n2 : Nat) (n3 : Nat) (ph : Bool) (A1 : Option Addr) (n1 c1 : Nat) (A2 : Option Addr) (c2 : Nat) (A3 : Option Addr) (c3 : Nat) (pn pnb : Int) (w : World) (h1 : n1 ≤ 20) (h2 : n2 ≤ 20) (h3 : pnb < 1) :
    Calls Tryd.prog 5 #[.agg (headC sp A1 n1 c1 A2 n2 c2 A3 n3 c3 ph pn pnb)] w fun e w' => e = .returned (.bool false) ∧ Below w.heap.size w w' := by
  unfold headC
  go_enter Tryd.func5, Tryd.ntmps5
  go_wp2
  go_ret
  exact ⟨rfl, (Below.refl _ _).alloc (Nat.le_refl _) _⟩

set_option maxRecDepth 10000 in
set_option maxHeartbeats 400000 in
theorem hm_m (sp : Nat) (n2 : Nat) (n3 : Nat) (ph : Bool) (A1 : Option Addr) (n1 c1 : Nat) (A2 : Option Addr) (c2 : Nat) (A3 : Option Addr) (c3 : Nat) (pn pnb : Int) (w : World) (h1 : n1 ≤ 20) (h2 : n2 ≤ 20) (h3 : 1 ≤ pnb) (h4 : 4 < pnb) :
    Calls Tryd.prog 5 #[.agg (headC sp A1 n1 c1 A2 n2 c2 A3 n3 c3 ph pn pnb)] w fun e w' => e = .returned (.bool false) ∧ Below w.heap.size w w' := by
  unfold headC
  go_enter Tryd.func5, Tryd.ntmps5
  go_wp2
  go_ret
  exact ⟨rfl, (Below.refl _ _).alloc (Nat.le_refl _) _⟩

set_option maxRecDepth 10000 in
set_option maxHeartbeats 400000 in
theorem hm_n (sp : Nat) (n2 : Nat) (n3 : Nat) (ph : Bool) (A1 : Option Addr) (n1 c1 : Nat) (A2 : Option Addr) (c2 : Nat) (A3 : Option Addr) (c3 : Nat) (pn pnb : Int) (w : World) (h1 : n1 ≤ 20) (h2 : n2 ≤ 20) (h3 : 1 ≤ pnb) (h4 : pnb ≤ 4) (h5 : 4611686018427387903 < pn) :
    Calls Tryd.prog 5 #[.agg (headC sp A1 n1 c1 A2 n2 c2 A3 n3 c3 ph pn pnb)] w fun e w' => e = .returned (.bool false) ∧ Below w.heap.size w w' := by
  unfold headC
  go_enter Tryd.func5, Tryd.ntmps5
  go_wp2
  go_ret
  exact ⟨rfl, (Below.refl _ _).alloc (Nat.le_refl _) _⟩

set_option maxRecDepth 10000 in
set_option maxHeartbeats 400000 in
theorem hm_0t (n2 : Nat) (n3 : Nat) (A1 : Option Addr) (n1 c1 : Nat) (A2 : Option Addr) (c2 : Nat) (A3 : Option Addr) (c3 : Nat) (pn pnb : Int) (w : World) (h1 : n1 ≤ 20) (h2 : n2 ≤ 20) (h3 : 1 ≤ pnb) (h4 : pnb ≤ 4) (h5 : pn ≤ 4611686018427387903) :
    Calls Tryd.prog 5 #[.agg (headC 0 A1 n1 c1 A2 n2 c2 A3 n3 c3 true pn pnb)] w fun e w' => e = .returned (.bool false) ∧ Below w.heap.size w w' := by
  unfold headC
  go_enter Tryd.func5, Tryd.ntmps5
  go_wp2
  go_ret
  exact ⟨rfl, (Below.refl _ _).alloc (Nat.le_refl _) _⟩

set_option maxRecDepth 10000 in
set_option maxHeartbeats 400000 in
theorem hm_0f (n2 : Nat) (n3 : Nat) (A1 : Option Addr) (n1 c1 : Nat) (A2 : Option Addr) (c2 : Nat) (A3 : Option Addr) (c3 : Nat) (pn pnb : Int) (w : World) (h1 : n1 ≤ 20) (h2 : n2 ≤ 20) (h3 : 1 ≤ pnb) (h4 : pnb ≤ 4) (h5 : pn ≤ 4611686018427387903) :
    Calls Tryd.prog 5 #[.agg (headC 0 A1 n1 c1 A2 n2 c2 A3 n3 c3 false pn pnb)] w fun e w' => e = .returned (.bool true) ∧ Below w.heap.size w w' := by
  unfold headC
  go_enter Tryd.func5, Tryd.ntmps5
  go_wp2
  go_ret
  exact ⟨rfl, (Below.refl _ _).alloc (Nat.le_refl _) _⟩

set_option maxRecDepth 10000 in
set_option maxHeartbeats 400000 in
theorem hm_1t (n2 : Nat) (n3 : Nat) (A1 : Option Addr) (n1 c1 : Nat) (A2 : Option Addr) (c2 : Nat) (A3 : Option Addr) (c3 : Nat) (pn pnb : Int) (w : World) (h1 : n1 ≤ 20) (h2 : n2 ≤ 20) (h3 : 1 ≤ pnb) (h4 : pnb ≤ 4) (h5 : pn ≤ 4611686018427387903) :
    Calls Tryd.prog 5 #[.agg (headC 1 A1 n1 c1 A2 n2 c2 A3 n3 c3 true pn pnb)] w fun e w' => e = .returned (.bool false) ∧ Below w.heap.size w w' := by
  unfold headC
  go_enter Tryd.func5, Tryd.ntmps5
  go_wp2
  go_ret
  exact ⟨rfl, (Below.refl _ _).alloc (Nat.le_refl _) _⟩

set_option maxRecDepth 10000 in
set_option maxHeartbeats 400000 in
theorem hm_1fz (n2 : Nat) (A1 : Option Addr) (n1 c1 : Nat) (A2 : Option Addr) (c2 : Nat) (A3 : Option Addr) (c3 : Nat) (pn pnb : Int) (w : World) (h1 : n1 ≤ 20) (h2 : n2 ≤ 20) (h3 : 1 ≤ pnb) (h4 : pnb ≤ 4) (h5 : pn ≤ 4611686018427387903) :
    Calls Tryd.prog 5 #[.agg (headC 1 A1 n1 c1 A2 n2 c2 A3 0 c3 false pn pnb)] w fun e w' => e = .returned (.bool true) ∧ Below w.heap.size w w' := by
  unfold headC
  go_enter Tryd.func5, Tryd.ntmps5
  go_wp2
  go_ret
  exact ⟨rfl, (Below.refl _ _).alloc (Nat.le_refl _) _⟩

set_option maxRecDepth 10000 in
set_option maxHeartbeats 400000 in
theorem hm_1fn (n2 : Nat) (n3 : Nat) (A1 : Option Addr) (n1 c1 : Nat) (A2 : Option Addr) (c2 : Nat) (A3 : Option Addr) (c3 : Nat) (pn pnb : Int) (w : World) (h1 : n1 ≤ 20) (h2 : n2 ≤ 20) (h3 : 1 ≤ pnb) (h4 : pnb ≤ 4) (h5 : pn ≤ 4611686018427387903) (h6 : 0 < n3) :
    Calls Tryd.prog 5 #[.agg (headC 1 A1 n1 c1 A2 n2 c2 A3 n3 c3 false pn pnb)] w fun e w' => e = .returned (.bool false) ∧ Below w.heap.size w w' := by
  have q0 : ((n3 : Int) == 0) = false := by rw [beq_eq_false_iff_ne]; omega
  unfold headC
  go_enter Tryd.func5, Tryd.ntmps5
  go_wp2
  go_ret
  exact ⟨rfl, (Below.refl _ _).alloc (Nat.le_refl _) _⟩

set_option maxRecDepth 10000 in
set_option maxHeartbeats 400000 in
theorem hm_2n (n2 : Nat) (n3 : Nat) (ph : Bool) (A1 : Option Addr) (n1 c1 : Nat) (A2 : Option Addr) (c2 : Nat) (A3 : Option Addr) (c3 : Nat) (pn pnb : Int) (w : World) (h1 : n1 ≤ 20) (h2 : n2 ≤ 20) (h3 : 1 ≤ pnb) (h4 : pnb ≤ 4) (h5 : pn ≤ 4611686018427387903) (h6 : 0 < n2) :
    Calls Tryd.prog 5 #[.agg (headC 2 A1 n1 c1 A2 n2 c2 A3 n3 c3 ph pn pnb)] w fun e w' => e = .returned (.bool false) ∧ Below w.heap.size w w' := by
  have q0 : ((n2 : Int) == 0) = false := by rw [beq_eq_false_iff_ne]; omega
  unfold headC
  go_enter Tryd.func5, Tryd.ntmps5
  go_wp2
  go_ret
  exact ⟨rfl, (Below.refl _ _).alloc (Nat.le_refl _) _⟩

set_option maxRecDepth 10000 in
set_option maxHeartbeats 400000 in
theorem hm_2zn (n3 : Nat) (ph : Bool) (A1 : Option Addr) (n1 c1 : Nat) (A2 : Option Addr) (c2 : Nat) (A3 : Option Addr) (c3 : Nat) (pn pnb : Int) (w : World) (h1 : n1 ≤ 20) (h3 : 1 ≤ pnb) (h4 : pnb ≤ 4) (h5 : pn ≤ 4611686018427387903) (h6 : 0 < n3) :
    Calls Tryd.prog 5 #[.agg (headC 2 A1 n1 c1 A2 0 c2 A3 n3 c3 ph pn pnb)] w fun e w' => e = .returned (.bool false) ∧ Below w.heap.size w w' := by
  have q0 : ((n3 : Int) == 0) = false := by rw [beq_eq_false_iff_ne]; omega
  unfold headC
  go_enter Tryd.func5, Tryd.ntmps5
  go_wp2
  go_ret
  exact ⟨rfl, (Below.refl _ _).alloc (Nat.le_refl _) _⟩

set_option maxRecDepth 10000 in
set_option maxHeartbeats 400000 in
theorem hm_2zz (ph : Bool) (A1 : Option Addr) (n1 c1 : Nat) (A2 : Option Addr) (c2 : Nat) (A3 : Option Addr) (c3 : Nat) (pn pnb : Int) (w : World) (h1 : n1 ≤ 20) (h3 : 1 ≤ pnb) (h4 : pnb ≤ 4) (h5 : pn ≤ 4611686018427387903) :
    Calls Tryd.prog 5 #[.agg (headC 2 A1 n1 c1 A2 0 c2 A3 0 c3 ph pn pnb)] w fun e w' => e = .returned (.bool true) ∧ Below w.heap.size w w' := by
  unfold headC
  go_enter Tryd.func5, Tryd.ntmps5
  go_wp2
  go_ret
  exact ⟨rfl, (Below.refl _ _).alloc (Nat.le_refl _) _⟩

set_option maxRecDepth 10000 in
set_option maxHeartbeats 400000 in
theorem hm_3 (sp : Nat) (n2 : Nat) (n3 : Nat) (ph : Bool) (A1 : Option Addr) (n1 c1 : Nat) (A2 : Option Addr) (c2 : Nat) (A3 : Option Addr) (c3 : Nat) (pn pnb : Int) (w : World) (h1 : n1 ≤ 20) (h2 : n2 ≤ 20) (h3 : 1 ≤ pnb) (h4 : pnb ≤ 4) (h5 : pn ≤ 4611686018427387903) (h0 : 2 < sp) :
    Calls Tryd.prog 5 #[.agg (headC sp A1 n1 c1 A2 n2 c2 A3 n3 c3 ph pn pnb)] w fun e w' => e = .returned (.bool false) ∧ Below w.heap.size w w' := by
  have q0 : ((sp : Int) == 0) = false := by rw [beq_eq_false_iff_ne]; omega
  have q1 : ((sp : Int) == 1) = false := by rw [beq_eq_false_iff_ne]; omega
  have q2 : ((sp : Int) == 2) = false := by rw [beq_eq_false_iff_ne]; omega
  unfold headC
  go_enter Tryd.func5, Tryd.ntmps5
  go_wp2
  go_ret
  exact ⟨rfl, (Below.refl _ _).alloc (Nat.le_refl _) _⟩

theorem hmay_any (sp n1 n2 n3 : Nat) (ph : Bool) (A1 : Option Addr) (c1 : Nat) (A2 : Option Addr) (c2 : Nat) (A3 : Option Addr) (c3 : Nat) (pn pnb : Int) (w : World) :
    Calls Tryd.prog 5 #[.agg (headC sp A1 n1 c1 A2 n2 c2 A3 n3 c3 ph pn pnb)] w fun e w' => e = .returned (.bool (mayB sp n1 n2 n3 ph pn pnb)) ∧ Below w.heap.size w w' := by
  have key : ∀ v : Bool, mayB sp n1 n2 n3 ph pn pnb = v → (Calls Tryd.prog 5 #[.agg (headC sp A1 n1 c1 A2 n2 c2 A3 n3 c3 ph pn pnb)] w fun e w' => e = .returned (.bool v) ∧ Below w.heap.size w w') →
      Calls Tryd.prog 5 #[.agg (headC sp A1 n1 c1 A2 n2 c2 A3 n3 c3 ph pn pnb)] w fun e w' => e = .returned (.bool (mayB sp n1 n2 n3 ph pn pnb)) ∧ Below w.heap.size w w' := by
    rintro v rfl h
    exact h
  have hsp : sp = 0 ∨ sp = 1 ∨ sp = 2 ∨ 2 < sp := by omega
  by_cases h1 : n1 ≤ 20
  rotate_left 1
  · refine key false (by unfold mayB; rw [if_neg (by omega)]) ?_
    exact hm_d sp n2 n3 ph A1 n1 c1 A2 c2 A3 c3 pn pnb w (by omega)
  by_cases h2 : n2 ≤ 20
  rotate_left 1
  · refine key false (by unfold mayB; rw [if_neg (by omega)]) ?_
    exact hm_s sp n2 n3 ph A1 n1 c1 A2 c2 A3 c3 pn pnb w h1 (by omega)
  by_cases h3 : 1 ≤ pnb
  rotate_left 1
  · refine key false (by unfold mayB; rw [if_neg (by omega)]) ?_
    exact hm_b sp n2 n3 ph A1 n1 c1 A2 c2 A3 c3 pn pnb w h1 h2 (by omega)
  by_cases h4 : pnb ≤ 4
  rotate_left 1
  · refine key false (by unfold mayB; rw [if_neg (by omega)]) ?_
    exact hm_m sp n2 n3 ph A1 n1 c1 A2 c2 A3 c3 pn pnb w h1 h2 h3 (by omega)
  by_cases h5 : pn ≤ 4611686018427387903
  rotate_left 1
  · refine key false (by unfold mayB; rw [if_neg (by omega)]) ?_
    exact hm_n sp n2 n3 ph A1 n1 c1 A2 c2 A3 c3 pn pnb w h1 h2 h3 h4 (by omega)
  have hok : mayB sp n1 n2 n3 ph pn pnb = (if sp = 0 then !ph else if sp = 1 then !ph && decide (n3 = 0) else if sp = 2 then decide (n2 = 0) && decide (n3 = 0) else false) := by
    unfold mayB
    rw [if_pos ⟨h1, h2, h3, h4, h5⟩]
  rcases hsp with rfl | rfl | rfl | h0
  · cases ph
    · exact key true (by rw [hok]; rfl) (hm_0f n2 n3 A1 n1 c1 A2 c2 A3 c3 pn pnb w h1 h2 h3 h4 h5)
    · exact key false (by rw [hok]; rfl) (hm_0t n2 n3 A1 n1 c1 A2 c2 A3 c3 pn pnb w h1 h2 h3 h4 h5)
  · cases ph
    · by_cases h6 : n3 = 0
      · subst h6
        exact key true (by rw [hok]; rfl) (hm_1fz n2 A1 n1 c1 A2 c2 A3 c3 pn pnb w h1 h2 h3 h4 h5)
      · exact key false (by rw [hok]; simp [h6]) (hm_1fn n2 n3 A1 n1 c1 A2 c2 A3 c3 pn pnb w h1 h2 h3 h4 h5 (by omega))
    · exact key false (by rw [hok]; rfl) (hm_1t n2 n3 A1 n1 c1 A2 c2 A3 c3 pn pnb w h1 h2 h3 h4 h5)
  · by_cases h6 : n2 = 0
    · subst h6
      by_cases h7 : n3 = 0
      · subst h7
        exact key true (by rw [hok]; rfl) (hm_2zz ph A1 n1 c1 A2 c2 A3 c3 pn pnb w h1 h3 h4 h5)
      · exact key false (by rw [hok]; simp [h7]) (hm_2zn n3 ph A1 n1 c1 A2 c2 A3 c3 pn pnb w h1 h3 h4 h5 (by omega))
    · exact key false (by rw [hok]; simp [h6]) (hm_2n n2 n3 ph A1 n1 c1 A2 c2 A3 c3 pn pnb w h1 h2 h3 h4 h5 (by omega))
  · exact key false (by rw [hok, if_neg (by omega), if_neg (by omega), if_neg (by omega)]) (hm_3 sp n2 n3 ph A1 n1 c1 A2 c2 A3 c3 pn pnb w h1 h2 h3 h4 h5 h0)
end

section
open Go.RowKit
set_option linter.unusedVariables false

theorem zeros_any (s c : Nat) (w : World) (hT : Tab w) (h : (s = 1 ∧ c = 0) ∨ (s = 2 ∧ c = 1) ∨ (s = 4 ∧ c = 2) ∨ (s = 8 ∧ c = 3)) :
    Calls Tryd.prog 89 #[.int .u64 (s : Int)] w fun e w' => e = .returned (.int .i64 (c : Int)) ∧ w = w' := by
  rcases h with ⟨rfl, rfl⟩ | ⟨rfl, rfl⟩ | ⟨rfl, rfl⟩ | ⟨rfl, rfl⟩
  · exact zeros1 w hT.1
  · exact zeros2 w hT.2.1
  · exact zeros4 w hT.2.2.1
  · exact zeros8 w hT.2.2.2

/-- What an append to a slice of the call's own leaves. -/
def Owns (w : World) (B len : Nat) (xs : List Value) (l : List UInt8) (e : Ending) (w' : World) : Prop :=
  ∃ v', e = .returned v' ∧ w'.ownsRow B 5 1 v' (len + l.length) (xs ++ l.map cell8) ∧ Below B w w'

set_option maxRecDepth 10000 in
set_option maxHeartbeats 400000 in
theorem put_any (B n N len s c : Nat) (sv : Value) (xs : List Value) (w : World) (hown : w.ownsRow B 5 1 sv len xs) (hB : B ≤ w.heap.size) (hT : Tab w) (hTB : 2 < B)
    (hs : szN n = s) (hc : (s = 1 ∧ c = 0) ∨ (s = 2 ∧ c = 1) ∨ (s = 4 ∧ c = 2) ∨ (s = 8 ∧ c = 3)) (hs1 : 1 ≤ s) (hs8 : s ≤ 8) (hc3 : c ≤ 3) (hlen : len ≤ 1048576)
    (hN : bits .or .u64 (n : Int) (IntKind.u64.wrap ((c : Int) * 2 ^ (8 * s - 2))) = (N : Int)) :
    Calls Tryd.prog 77 #[sv, .int .u64 (n : Int)] w (Owns w B len xs (be N s)) := by
  obtain ⟨i0, hi0, hz0, hz1, hz2⟩ := info_parts info8V
  have HS := Lib.hid hs
  have HC := Lib.hid hc
  clear hs hc
  go_enter Tryd.func77, Tryd.ntmps77
  go_wp2_with (first
    | (go_at_call 88; refine (size_any n _).mono ?_; rintro e w' ⟨rfl, rfl⟩; rw [HS.out])
    | (go_at_call 89; refine (zeros_any s c _ hT HC.out).mono ?_; rintro e w' ⟨rfl, rfl⟩))
  go_loopw [0, 6] (fun vb va wr => ∃ (k : Nat) (pre : List UInt8), k ≤ s ∧ va = .int .i64 (8 * (k : Int) - 8) ∧ Hid (be N s = pre ++ be N k) ∧ pre.length + k = s ∧ wr.ownsRow B 5 1 vb (len + pre.length) (xs ++ pre.map cell8) ∧ Below B w wr)
    (fun _ va _ => (intOf va + 8).toNat)
  case atStart => exact ⟨s, [], Nat.le_refl _, rfl, Lib.hid rfl, by simp, by simpa using hown, Below.refl _ _⟩
  case round =>
    obtain ⟨k, pre, hk, rfl, hsplit, hpl, hown1, hbel⟩ := hrel
    have HP := Lib.hid hpl
    by_cases h0 : 1 ≤ k
    · obtain ⟨j, rfl⟩ : ∃ j, k = j + 1 := ⟨k - 1, by omega⟩
      have hp7 : pre.length ≤ 7 := by omega
      clear hpl
      go_wp2_with (at_builtin; refine wpList_append_sv _ rfl _ _ _ rfl B 5 i0 _ 1 Tryd.underlying28 hi0 hz0 hz1 hz2 rfl _ _ _ rfl (hown1.alloc _) _ _ 1 1 _ rfl (sv_new _ _ _) rfl (fun u hu => by simp at hu; subst hu; rfl) (by unfold maxLen; omega) (by omega) (by have := hbel.size; simp; omega) ?_; intro v1 w1 hown2 hg2 hat2)
      go_roundw
      case rel =>
        have hb2 : Below B w w1 := (hbel.alloc (by have := hbel.size; omega) _).grown hg2 (by have := hbel.size; simp; omega) (fun q hq => (hown1.lt q hq).1)
        have hlen' := HP.out
        refine ⟨j, pre ++ [UInt8.ofNat (N / 256 ^ j % 256)], by omega, by go_num, ?_, by simp; omega, ?_, hb2⟩
        · exact hsplit.out.trans (by simp [be])
        · rw [show 8 * (j + 1) - 8 = 8 * j by omega, be_cell] at hown2
          rw [List.length_append, List.length_singleton, List.map_append, ← Nat.add_assoc, ← List.append_assoc]
          exact hown2
      case measure => simp [intOf]; omega
    · obtain rfl : k = 0 := by omega
      go_wp2
      go_ret
      have he : be N s = pre := by have := hsplit.out; simpa [be] using this
      exact ⟨_, rfl, by rw [he]; exact hown1, hbel⟩
/-- varint.put: a number's shortest bytes. -/
theorem put_enc {n : Nat} (h : n ≤ 4611686018427387903) (B len : Nat) (sv : Value) (xs : List Value) (w : World) (hown : w.ownsRow B 5 1 sv len xs) (hB : B ≤ w.heap.size) (hT : Tab w) (hTB : 2 < B) (hlen : len ≤ 1048576) :
    Calls Tryd.prog 77 #[sv, .int .u64 (n : Int)] w (Owns w B len xs (enc n)) := by
  have hc := lg_cases h
  exact put_any B n (encN n) len (szN n) (lg n) sv xs w hown hB hT hTB rfl hc (by omega) (by omega) (by omega) hlen (or_size h)
end
end Go.Proofs.YtbnnjkjmadnjkaaDoor
