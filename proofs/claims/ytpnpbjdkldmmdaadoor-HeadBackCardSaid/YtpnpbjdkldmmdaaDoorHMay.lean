/-
  The walks through head.May and the document's own May: whether a head may be.
-/
import Derived.Test.YtpnpbjdkldmmdaaDoorWh
import Derived.Test.YtpnpbjdkldmmdaaDoorSize
import Derived.BigQuiet
namespace Go.Proofs.YtpnpbjdkldmmdaaDoor
open Go.RowKit
set_option linter.unusedVariables false

/-- A head's cells. -/
def headC (sp : Nat) (A1 : Option Addr) (n1 c1 : Nat) (A2 : Option Addr) (n2 c2 : Nat) (A3 : Option Addr) (n3 c3 : Nat) (ph : Bool) (pn pnb : Int) : Array Value :=
  #[.int .u8 (sp : Int), .slice A1 n1 c1, .slice A2 n2 c2, .slice A3 n3 c3, .bool ph, .int .u64 pn, .int .i64 pnb]

abbrev headOf (sp : Nat) (dst src tok : List UInt8) (ph : Bool) (pn pnb : Int) (A1 : Option Addr) (c1 : Nat) (A2 : Option Addr) (c2 : Nat) (A3 : Option Addr) (c3 : Nat) : Array Value := headC sp A1 dst.length c1 A2 src.length c2 A3 tok.length c3 ph pn pnb

/-- Whether a head may be: by its space, how many bytes its names and its token have, its phase, number, and how many bytes that has. -/
def mayB (sp n1 n2 n3 : Nat) (ph : Bool) (pn pnb : Int) : Bool :=
  if n1 ≤ 20 ∧ n2 ≤ 20 ∧ 1 ≤ pnb ∧ pnb ≤ 4 ∧ pn ≤ 4611686018427387903 then
    (if sp = 0 then !ph else if sp = 1 then !ph && decide (n3 = 0) else if sp = 2 then decide (n2 = 0) && decide (n3 = 0) else false)
  else false

set_option maxRecDepth 10000 in
set_option maxHeartbeats 400000 in
theorem hm_d (sp : Nat) (n2 : Nat) (n3 : Nat) (ph : Bool) (A1 : Option Addr) (n1 c1 : Nat) (A2 : Option Addr) (c2 : Nat) (A3 : Option Addr) (c3 : Nat) (pn pnb : Int) (w : World) (h1 : 20 < n1) :
    Calls Tryd.prog 8 #[.agg (headC sp A1 n1 c1 A2 n2 c2 A3 n3 c3 ph pn pnb)] w fun e w' => e = .returned (.bool false) ∧ Below w.heap.size w w' := by
  unfold headC
  go_enter Tryd.func8, Tryd.ntmps8
  go_wp2
  go_ret
  exact ⟨rfl, (Below.refl _ _).alloc (Nat.le_refl _) _⟩

set_option maxRecDepth 10000 in
set_option maxHeartbeats 400000 in
theorem hm_s (sp : Nat) (n2 : Nat) (n3 : Nat) (ph : Bool) (A1 : Option Addr) (n1 c1 : Nat) (A2 : Option Addr) (c2 : Nat) (A3 : Option Addr) (c3 : Nat) (pn pnb : Int) (w : World) (h1 : n1 ≤ 20) (h2 : 20 < n2) :
    Calls Tryd.prog 8 #[.agg (headC sp A1 n1 c1 A2 n2 c2 A3 n3 c3 ph pn pnb)] w fun e w' => e = .returned (.bool false) ∧ Below w.heap.size w w' := by
  unfold headC
  go_enter Tryd.func8, Tryd.ntmps8
  go_wp2
  go_ret
  exact ⟨rfl, (Below.refl _ _).alloc (Nat.le_refl _) _⟩

set_option maxRecDepth 10000 in
set_option maxHeartbeats 400000 in
theorem hm_b (sp : Nat) (n2 : Nat) (n3 : Nat) (ph : Bool) (A1 : Option Addr) (n1 c1 : Nat) (A2 : Option Addr) (c2 : Nat) (A3 : Option Addr) (c3 : Nat) (pn pnb : Int) (w : World) (h1 : n1 ≤ 20) (h2 : n2 ≤ 20) (h3 : pnb < 1) :
    Calls Tryd.prog 8 #[.agg (headC sp A1 n1 c1 A2 n2 c2 A3 n3 c3 ph pn pnb)] w fun e w' => e = .returned (.bool false) ∧ Below w.heap.size w w' := by
  unfold headC
  go_enter Tryd.func8, Tryd.ntmps8
  go_wp2
  go_ret
  exact ⟨rfl, (Below.refl _ _).alloc (Nat.le_refl _) _⟩

set_option maxRecDepth 10000 in
set_option maxHeartbeats 400000 in
theorem hm_m (sp : Nat) (n2 : Nat) (n3 : Nat) (ph : Bool) (A1 : Option Addr) (n1 c1 : Nat) (A2 : Option Addr) (c2 : Nat) (A3 : Option Addr) (c3 : Nat) (pn pnb : Int) (w : World) (h1 : n1 ≤ 20) (h2 : n2 ≤ 20) (h3 : 1 ≤ pnb) (h4 : 4 < pnb) :
    Calls Tryd.prog 8 #[.agg (headC sp A1 n1 c1 A2 n2 c2 A3 n3 c3 ph pn pnb)] w fun e w' => e = .returned (.bool false) ∧ Below w.heap.size w w' := by
  unfold headC
  go_enter Tryd.func8, Tryd.ntmps8
  go_wp2
  go_ret
  exact ⟨rfl, (Below.refl _ _).alloc (Nat.le_refl _) _⟩

set_option maxRecDepth 10000 in
set_option maxHeartbeats 400000 in
theorem hm_n (sp : Nat) (n2 : Nat) (n3 : Nat) (ph : Bool) (A1 : Option Addr) (n1 c1 : Nat) (A2 : Option Addr) (c2 : Nat) (A3 : Option Addr) (c3 : Nat) (pn pnb : Int) (w : World) (h1 : n1 ≤ 20) (h2 : n2 ≤ 20) (h3 : 1 ≤ pnb) (h4 : pnb ≤ 4) (h5 : 4611686018427387903 < pn) :
    Calls Tryd.prog 8 #[.agg (headC sp A1 n1 c1 A2 n2 c2 A3 n3 c3 ph pn pnb)] w fun e w' => e = .returned (.bool false) ∧ Below w.heap.size w w' := by
  unfold headC
  go_enter Tryd.func8, Tryd.ntmps8
  go_wp2
  go_ret
  exact ⟨rfl, (Below.refl _ _).alloc (Nat.le_refl _) _⟩

set_option maxRecDepth 10000 in
set_option maxHeartbeats 400000 in
theorem hm_0t (n2 : Nat) (n3 : Nat) (A1 : Option Addr) (n1 c1 : Nat) (A2 : Option Addr) (c2 : Nat) (A3 : Option Addr) (c3 : Nat) (pn pnb : Int) (w : World) (h1 : n1 ≤ 20) (h2 : n2 ≤ 20) (h3 : 1 ≤ pnb) (h4 : pnb ≤ 4) (h5 : pn ≤ 4611686018427387903) :
    Calls Tryd.prog 8 #[.agg (headC 0 A1 n1 c1 A2 n2 c2 A3 n3 c3 true pn pnb)] w fun e w' => e = .returned (.bool false) ∧ Below w.heap.size w w' := by
  unfold headC
  go_enter Tryd.func8, Tryd.ntmps8
  go_wp2
  go_ret
  exact ⟨rfl, (Below.refl _ _).alloc (Nat.le_refl _) _⟩

set_option maxRecDepth 10000 in
set_option maxHeartbeats 400000 in
theorem hm_0f (n2 : Nat) (n3 : Nat) (A1 : Option Addr) (n1 c1 : Nat) (A2 : Option Addr) (c2 : Nat) (A3 : Option Addr) (c3 : Nat) (pn pnb : Int) (w : World) (h1 : n1 ≤ 20) (h2 : n2 ≤ 20) (h3 : 1 ≤ pnb) (h4 : pnb ≤ 4) (h5 : pn ≤ 4611686018427387903) :
    Calls Tryd.prog 8 #[.agg (headC 0 A1 n1 c1 A2 n2 c2 A3 n3 c3 false pn pnb)] w fun e w' => e = .returned (.bool true) ∧ Below w.heap.size w w' := by
  unfold headC
  go_enter Tryd.func8, Tryd.ntmps8
  go_wp2
  go_ret
  exact ⟨rfl, (Below.refl _ _).alloc (Nat.le_refl _) _⟩

set_option maxRecDepth 10000 in
set_option maxHeartbeats 400000 in
theorem hm_1t (n2 : Nat) (n3 : Nat) (A1 : Option Addr) (n1 c1 : Nat) (A2 : Option Addr) (c2 : Nat) (A3 : Option Addr) (c3 : Nat) (pn pnb : Int) (w : World) (h1 : n1 ≤ 20) (h2 : n2 ≤ 20) (h3 : 1 ≤ pnb) (h4 : pnb ≤ 4) (h5 : pn ≤ 4611686018427387903) :
    Calls Tryd.prog 8 #[.agg (headC 1 A1 n1 c1 A2 n2 c2 A3 n3 c3 true pn pnb)] w fun e w' => e = .returned (.bool false) ∧ Below w.heap.size w w' := by
  unfold headC
  go_enter Tryd.func8, Tryd.ntmps8
  go_wp2
  go_ret
  exact ⟨rfl, (Below.refl _ _).alloc (Nat.le_refl _) _⟩

set_option maxRecDepth 10000 in
set_option maxHeartbeats 400000 in
theorem hm_1fz (n2 : Nat) (A1 : Option Addr) (n1 c1 : Nat) (A2 : Option Addr) (c2 : Nat) (A3 : Option Addr) (c3 : Nat) (pn pnb : Int) (w : World) (h1 : n1 ≤ 20) (h2 : n2 ≤ 20) (h3 : 1 ≤ pnb) (h4 : pnb ≤ 4) (h5 : pn ≤ 4611686018427387903) :
    Calls Tryd.prog 8 #[.agg (headC 1 A1 n1 c1 A2 n2 c2 A3 0 c3 false pn pnb)] w fun e w' => e = .returned (.bool true) ∧ Below w.heap.size w w' := by
  unfold headC
  go_enter Tryd.func8, Tryd.ntmps8
  go_wp2
  go_ret
  exact ⟨rfl, (Below.refl _ _).alloc (Nat.le_refl _) _⟩

set_option maxRecDepth 10000 in
set_option maxHeartbeats 400000 in
theorem hm_1fn (n2 : Nat) (n3 : Nat) (A1 : Option Addr) (n1 c1 : Nat) (A2 : Option Addr) (c2 : Nat) (A3 : Option Addr) (c3 : Nat) (pn pnb : Int) (w : World) (h1 : n1 ≤ 20) (h2 : n2 ≤ 20) (h3 : 1 ≤ pnb) (h4 : pnb ≤ 4) (h5 : pn ≤ 4611686018427387903) (h6 : 0 < n3) :
    Calls Tryd.prog 8 #[.agg (headC 1 A1 n1 c1 A2 n2 c2 A3 n3 c3 false pn pnb)] w fun e w' => e = .returned (.bool false) ∧ Below w.heap.size w w' := by
  have q0 : ((n3 : Int) == 0) = false := by rw [beq_eq_false_iff_ne]; omega
  unfold headC
  go_enter Tryd.func8, Tryd.ntmps8
  go_wp2
  go_ret
  exact ⟨rfl, (Below.refl _ _).alloc (Nat.le_refl _) _⟩

set_option maxRecDepth 10000 in
set_option maxHeartbeats 400000 in
theorem hm_2n (n2 : Nat) (n3 : Nat) (ph : Bool) (A1 : Option Addr) (n1 c1 : Nat) (A2 : Option Addr) (c2 : Nat) (A3 : Option Addr) (c3 : Nat) (pn pnb : Int) (w : World) (h1 : n1 ≤ 20) (h2 : n2 ≤ 20) (h3 : 1 ≤ pnb) (h4 : pnb ≤ 4) (h5 : pn ≤ 4611686018427387903) (h6 : 0 < n2) :
    Calls Tryd.prog 8 #[.agg (headC 2 A1 n1 c1 A2 n2 c2 A3 n3 c3 ph pn pnb)] w fun e w' => e = .returned (.bool false) ∧ Below w.heap.size w w' := by
  have q0 : ((n2 : Int) == 0) = false := by rw [beq_eq_false_iff_ne]; omega
  unfold headC
  go_enter Tryd.func8, Tryd.ntmps8
  go_wp2
  go_ret
  exact ⟨rfl, (Below.refl _ _).alloc (Nat.le_refl _) _⟩

set_option maxRecDepth 10000 in
set_option maxHeartbeats 400000 in
theorem hm_2zn (n3 : Nat) (ph : Bool) (A1 : Option Addr) (n1 c1 : Nat) (A2 : Option Addr) (c2 : Nat) (A3 : Option Addr) (c3 : Nat) (pn pnb : Int) (w : World) (h1 : n1 ≤ 20) (h3 : 1 ≤ pnb) (h4 : pnb ≤ 4) (h5 : pn ≤ 4611686018427387903) (h6 : 0 < n3) :
    Calls Tryd.prog 8 #[.agg (headC 2 A1 n1 c1 A2 0 c2 A3 n3 c3 ph pn pnb)] w fun e w' => e = .returned (.bool false) ∧ Below w.heap.size w w' := by
  have q0 : ((n3 : Int) == 0) = false := by rw [beq_eq_false_iff_ne]; omega
  unfold headC
  go_enter Tryd.func8, Tryd.ntmps8
  go_wp2
  go_ret
  exact ⟨rfl, (Below.refl _ _).alloc (Nat.le_refl _) _⟩

set_option maxRecDepth 10000 in
set_option maxHeartbeats 400000 in
theorem hm_2zz (ph : Bool) (A1 : Option Addr) (n1 c1 : Nat) (A2 : Option Addr) (c2 : Nat) (A3 : Option Addr) (c3 : Nat) (pn pnb : Int) (w : World) (h1 : n1 ≤ 20) (h3 : 1 ≤ pnb) (h4 : pnb ≤ 4) (h5 : pn ≤ 4611686018427387903) :
    Calls Tryd.prog 8 #[.agg (headC 2 A1 n1 c1 A2 0 c2 A3 0 c3 ph pn pnb)] w fun e w' => e = .returned (.bool true) ∧ Below w.heap.size w w' := by
  unfold headC
  go_enter Tryd.func8, Tryd.ntmps8
  go_wp2
  go_ret
  exact ⟨rfl, (Below.refl _ _).alloc (Nat.le_refl _) _⟩

set_option maxRecDepth 10000 in
set_option maxHeartbeats 400000 in
theorem hm_3 (sp : Nat) (n2 : Nat) (n3 : Nat) (ph : Bool) (A1 : Option Addr) (n1 c1 : Nat) (A2 : Option Addr) (c2 : Nat) (A3 : Option Addr) (c3 : Nat) (pn pnb : Int) (w : World) (h1 : n1 ≤ 20) (h2 : n2 ≤ 20) (h3 : 1 ≤ pnb) (h4 : pnb ≤ 4) (h5 : pn ≤ 4611686018427387903) (h0 : 2 < sp) :
    Calls Tryd.prog 8 #[.agg (headC sp A1 n1 c1 A2 n2 c2 A3 n3 c3 ph pn pnb)] w fun e w' => e = .returned (.bool false) ∧ Below w.heap.size w w' := by
  have q0 : ((sp : Int) == 0) = false := by rw [beq_eq_false_iff_ne]; omega
  have q1 : ((sp : Int) == 1) = false := by rw [beq_eq_false_iff_ne]; omega
  have q2 : ((sp : Int) == 2) = false := by rw [beq_eq_false_iff_ne]; omega
  unfold headC
  go_enter Tryd.func8, Tryd.ntmps8
  go_wp2
  go_ret
  exact ⟨rfl, (Below.refl _ _).alloc (Nat.le_refl _) _⟩

theorem hmay_any (sp n1 n2 n3 : Nat) (ph : Bool) (A1 : Option Addr) (c1 : Nat) (A2 : Option Addr) (c2 : Nat) (A3 : Option Addr) (c3 : Nat) (pn pnb : Int) (w : World) :
    Calls Tryd.prog 8 #[.agg (headC sp A1 n1 c1 A2 n2 c2 A3 n3 c3 ph pn pnb)] w fun e w' => e = .returned (.bool (mayB sp n1 n2 n3 ph pn pnb)) ∧ Below w.heap.size w w' := by
  have key : ∀ v : Bool, mayB sp n1 n2 n3 ph pn pnb = v → (Calls Tryd.prog 8 #[.agg (headC sp A1 n1 c1 A2 n2 c2 A3 n3 c3 ph pn pnb)] w fun e w' => e = .returned (.bool v) ∧ Below w.heap.size w w') →
      Calls Tryd.prog 8 #[.agg (headC sp A1 n1 c1 A2 n2 c2 A3 n3 c3 ph pn pnb)] w fun e w' => e = .returned (.bool (mayB sp n1 n2 n3 ph pn pnb)) ∧ Below w.heap.size w w' := by
    rintro v rfl h
    exact h
  have hsp : sp = 0 ∨ sp = 1 ∨ sp = 2 ∨ 2 < sp := by omega
  by_cases h1 : n1 ≤ 20
  rotate_left 1
  · refine key false (by unfold mayB; rw [if_neg (by omega)]) ?_
    exact hm_d sp n2 n3 ph A1 n1 c1 A2 c2 A3 c3 pn pnb w (by omega)
  by_cases h2 : n2 ≤ 20
  rotate_left 1
  · refine key false (by unfold mayB; rw [if_neg (by omega)]) ?_
    exact hm_s sp n2 n3 ph A1 n1 c1 A2 c2 A3 c3 pn pnb w h1 (by omega)
  by_cases h3 : 1 ≤ pnb
  rotate_left 1
  · refine key false (by unfold mayB; rw [if_neg (by omega)]) ?_
    exact hm_b sp n2 n3 ph A1 n1 c1 A2 c2 A3 c3 pn pnb w h1 h2 (by omega)
  by_cases h4 : pnb ≤ 4
  rotate_left 1
  · refine key false (by unfold mayB; rw [if_neg (by omega)]) ?_
    exact hm_m sp n2 n3 ph A1 n1 c1 A2 c2 A3 c3 pn pnb w h1 h2 h3 (by omega)
  by_cases h5 : pn ≤ 4611686018427387903
  rotate_left 1
  · refine key false (by unfold mayB; rw [if_neg (by omega)]) ?_
    exact hm_n sp n2 n3 ph A1 n1 c1 A2 c2 A3 c3 pn pnb w h1 h2 h3 h4 (by omega)
  have hok : mayB sp n1 n2 n3 ph pn pnb = (if sp = 0 then !ph else if sp = 1 then !ph && decide (n3 = 0) else if sp = 2 then decide (n2 = 0) && decide (n3 = 0) else false) := by
    unfold mayB
    rw [if_pos ⟨h1, h2, h3, h4, h5⟩]
  rcases hsp with rfl | rfl | rfl | h0
  · cases ph
    · exact key true (by rw [hok]; rfl) (hm_0f n2 n3 A1 n1 c1 A2 c2 A3 c3 pn pnb w h1 h2 h3 h4 h5)
    · exact key false (by rw [hok]; rfl) (hm_0t n2 n3 A1 n1 c1 A2 c2 A3 c3 pn pnb w h1 h2 h3 h4 h5)
  · cases ph
    · by_cases h6 : n3 = 0
      · subst h6
        exact key true (by rw [hok]; rfl) (hm_1fz n2 A1 n1 c1 A2 c2 A3 c3 pn pnb w h1 h2 h3 h4 h5)
      · exact key false (by rw [hok]; simp [h6]) (hm_1fn n2 n3 A1 n1 c1 A2 c2 A3 c3 pn pnb w h1 h2 h3 h4 h5 (by omega))
    · exact key false (by rw [hok]; rfl) (hm_1t n2 n3 A1 n1 c1 A2 c2 A3 c3 pn pnb w h1 h2 h3 h4 h5)
  · by_cases h6 : n2 = 0
    · subst h6
      by_cases h7 : n3 = 0
      · subst h7
        exact key true (by rw [hok]; rfl) (hm_2zz ph A1 n1 c1 A2 c2 A3 c3 pn pnb w h1 h3 h4 h5)
      · exact key false (by rw [hok]; simp [h7]) (hm_2zn n3 ph A1 n1 c1 A2 c2 A3 c3 pn pnb w h1 h3 h4 h5 (by omega))
    · exact key false (by rw [hok]; simp [h6]) (hm_2n n2 n3 ph A1 n1 c1 A2 c2 A3 c3 pn pnb w h1 h2 h3 h4 h5 (by omega))
  · exact key false (by rw [hok, if_neg (by omega), if_neg (by omega), if_neg (by omega)]) (hm_3 sp n2 n3 ph A1 n1 c1 A2 c2 A3 c3 pn pnb w h1 h2 h3 h4 h5 h0)

end Go.Proofs.YtpnpbjdkldmmdaaDoor
