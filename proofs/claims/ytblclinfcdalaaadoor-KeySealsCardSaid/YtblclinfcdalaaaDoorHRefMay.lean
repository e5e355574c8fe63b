/-
  The walk through the document's own May (hostlerref03): whether a head may be.
-/
import Derived.Test.YtblclinfcdalaaaDoorSb13
namespace Go.Proofs.YtblclinfcdalaaaDoor
open Go.RowKit
set_option linter.unusedVariables false

set_option maxRecDepth 10000 in
set_option maxHeartbeats 400000 in
theorem rm_d0 (n2 : Nat) (n3 : Nat) (ph : Bool) (A1 : Option Addr) (n1 c1 : Nat) (A2 : Option Addr) (c2 : Nat) (A3 : Option Addr) (c3 : Nat) (pn pnb : Int) (w : World) (h1 : 20 < n1) :
    Calls Tryd.prog 38 #[.agg (headC 0 A1 n1 c1 A2 n2 c2 A3 n3 c3 ph pn pnb)] w fun e w' => e = .returned (.bool false) ∧ Below w.heap.size w w' := by
  unfold headC
  go_enter Tryd.func38, Tryd.ntmps38
  go_wp2
  go_ret
  exact ⟨rfl, (Below.refl _ _).alloc (Nat.le_refl _) _⟩

set_option maxRecDepth 10000 in
set_option maxHeartbeats 400000 in
theorem rm_d1 (n2 : Nat) (n3 : Nat) (ph : Bool) (A1 : Option Addr) (n1 c1 : Nat) (A2 : Option Addr) (c2 : Nat) (A3 : Option Addr) (c3 : Nat) (pn pnb : Int) (w : World) (h1 : 20 < n1) :
    Calls Tryd.prog 38 #[.agg (headC 1 A1 n1 c1 A2 n2 c2 A3 n3 c3 ph pn pnb)] w fun e w' => e = .returned (.bool false) ∧ Below w.heap.size w w' := by
  unfold headC
  go_enter Tryd.func38, Tryd.ntmps38
  go_wp2
  go_ret
  exact ⟨rfl, (Below.refl _ _).alloc (Nat.le_refl _) _⟩

set_option maxRecDepth 10000 in
set_option maxHeartbeats 400000 in
theorem rm_d2 (n2 : Nat) (n3 : Nat) (ph : Bool) (A1 : Option Addr) (n1 c1 : Nat) (A2 : Option Addr) (c2 : Nat) (A3 : Option Addr) (c3 : Nat) (pn pnb : Int) (w : World) (h1 : 20 < n1) :
    Calls Tryd.prog 38 #[.agg (headC 2 A1 n1 c1 A2 n2 c2 A3 n3 c3 ph pn pnb)] w fun e w' => e = .returned (.bool false) ∧ Below w.heap.size w w' := by
  unfold headC
  go_enter Tryd.func38, Tryd.ntmps38
  go_wp2
  go_ret
  exact ⟨rfl, (Below.refl _ _).alloc (Nat.le_refl _) _⟩

set_option maxRecDepth 10000 in
set_option maxHeartbeats 400000 in
theorem rm_d3 (sp : Nat) (n2 : Nat) (n3 : Nat) (ph : Bool) (A1 : Option Addr) (n1 c1 : Nat) (A2 : Option Addr) (c2 : Nat) (A3 : Option Addr) (c3 : Nat) (pn pnb : Int) (w : World) (h1 : 20 < n1) (h0 : 2 < sp) :
    Calls Tryd.prog 38 #[.agg (headC sp A1 n1 c1 A2 n2 c2 A3 n3 c3 ph pn pnb)] w fun e w' => e = .returned (.bool false) ∧ Below w.heap.size w w' := by
  have q2 : ((sp : Int) == 2) = false := by rw [beq_eq_false_iff_ne]; omega
  have q0 : ((sp : Int) == 0) = false := by rw [beq_eq_false_iff_ne]; omega
  unfold headC
  go_enter Tryd.func38, Tryd.ntmps38
  go_wp2
  go_ret
  exact ⟨rfl, (Below.refl _ _).alloc (Nat.le_refl _) _⟩

set_option maxRecDepth 10000 in
set_option maxHeartbeats 400000 in
theorem rm_s0 (n2 : Nat) (n3 : Nat) (ph : Bool) (A1 : Option Addr) (n1 c1 : Nat) (A2 : Option Addr) (c2 : Nat) (A3 : Option Addr) (c3 : Nat) (pn pnb : Int) (w : World) (h1 : n1 ≤ 20) (h2 : 20 < n2) :
    Calls Tryd.prog 38 #[.agg (headC 0 A1 n1 c1 A2 n2 c2 A3 n3 c3 ph pn pnb)] w fun e w' => e = .returned (.bool false) ∧ Below w.heap.size w w' := by
  unfold headC
  go_enter Tryd.func38, Tryd.ntmps38
  go_wp2
  go_ret
  exact ⟨rfl, (Below.refl _ _).alloc (Nat.le_refl _) _⟩

set_option maxRecDepth 10000 in
set_option maxHeartbeats 400000 in
theorem rm_s1 (n2 : Nat) (n3 : Nat) (ph : Bool) (A1 : Option Addr) (n1 c1 : Nat) (A2 : Option Addr) (c2 : Nat) (A3 : Option Addr) (c3 : Nat) (pn pnb : Int) (w : World) (h1 : n1 ≤ 20) (h2 : 20 < n2) :
    Calls Tryd.prog 38 #[.agg (headC 1 A1 n1 c1 A2 n2 c2 A3 n3 c3 ph pn pnb)] w fun e w' => e = .returned (.bool false) ∧ Below w.heap.size w w' := by
  unfold headC
  go_enter Tryd.func38, Tryd.ntmps38
  go_wp2
  go_ret
  exact ⟨rfl, (Below.refl _ _).alloc (Nat.le_refl _) _⟩

set_option maxRecDepth 10000 in
set_option maxHeartbeats 400000 in
theorem rm_s2 (n2 : Nat) (n3 : Nat) (ph : Bool) (A1 : Option Addr) (n1 c1 : Nat) (A2 : Option Addr) (c2 : Nat) (A3 : Option Addr) (c3 : Nat) (pn pnb : Int) (w : World) (h1 : n1 ≤ 20) (h2 : 20 < n2) :
    Calls Tryd.prog 38 #[.agg (headC 2 A1 n1 c1 A2 n2 c2 A3 n3 c3 ph pn pnb)] w fun e w' => e = .returned (.bool false) ∧ Below w.heap.size w w' := by
  unfold headC
  go_enter Tryd.func38, Tryd.ntmps38
  go_wp2
  go_ret
  exact ⟨rfl, (Below.refl _ _).alloc (Nat.le_refl _) _⟩

set_option maxRecDepth 10000 in
set_option maxHeartbeats 400000 in
theorem rm_s3 (sp : Nat) (n2 : Nat) (n3 : Nat) (ph : Bool) (A1 : Option Addr) (n1 c1 : Nat) (A2 : Option Addr) (c2 : Nat) (A3 : Option Addr) (c3 : Nat) (pn pnb : Int) (w : World) (h1 : n1 ≤ 20) (h2 : 20 < n2) (h0 : 2 < sp) :
    Calls Tryd.prog 38 #[.agg (headC sp A1 n1 c1 A2 n2 c2 A3 n3 c3 ph pn pnb)] w fun e w' => e = .returned (.bool false) ∧ Below w.heap.size w w' := by
  have q2 : ((sp : Int) == 2) = false := by rw [beq_eq_false_iff_ne]; omega
  have q0 : ((sp : Int) == 0) = false := by rw [beq_eq_false_iff_ne]; omega
  unfold headC
  go_enter Tryd.func38, Tryd.ntmps38
  go_wp2
  go_ret
  exact ⟨rfl, (Below.refl _ _).alloc (Nat.le_refl _) _⟩

set_option maxRecDepth 10000 in
set_option maxHeartbeats 400000 in
theorem rm_b0 (n2 : Nat) (n3 : Nat) (ph : Bool) (A1 : Option Addr) (n1 c1 : Nat) (A2 : Option Addr) (c2 : Nat) (A3 : Option Addr) (c3 : Nat) (pn pnb : Int) (w : World) (h1 : n1 ≤ 20) (h2 : n2 ≤ 20) (h3 : pnb < 1) :
    Calls Tryd.prog 38 #[.agg (headC 0 A1 n1 c1 A2 n2 c2 A3 n3 c3 ph pn pnb)] w fun e w' => e = .returned (.bool false) ∧ Below w.heap.size w w' := by
  unfold headC
  go_enter Tryd.func38, Tryd.ntmps38
  go_wp2
  go_ret
  exact ⟨rfl, (Below.refl _ _).alloc (Nat.le_refl _) _⟩

set_option maxRecDepth 10000 in
set_option maxHeartbeats 400000 in
theorem rm_b1 (n2 : Nat) (n3 : Nat) (ph : Bool) (A1 : Option Addr) (n1 c1 : Nat) (A2 : Option Addr) (c2 : Nat) (A3 : Option Addr) (c3 : Nat) (pn pnb : Int) (w : World) (h1 : n1 ≤ 20) (h2 : n2 ≤ 20) (h3 : pnb < 1) :
    Calls Tryd.prog 38 #[.agg (headC 1 A1 n1 c1 A2 n2 c2 A3 n3 c3 ph pn pnb)] w fun e w' => e = .returned (.bool false) ∧ Below w.heap.size w w' := by
  unfold headC
  go_enter Tryd.func38, Tryd.ntmps38
  go_wp2
  go_ret
  exact ⟨rfl, (Below.refl _ _).alloc (Nat.le_refl _) _⟩

set_option maxRecDepth 10000 in
set_option maxHeartbeats 400000 in
theorem rm_b2 (n2 : Nat) (n3 : Nat) (ph : Bool) (A1 : Option Addr) (n1 c1 : Nat) (A2 : Option Addr) (c2 : Nat) (A3 : Option Addr) (c3 : Nat) (pn pnb : Int) (w : World) (h1 : n1 ≤ 20) (h2 : n2 ≤ 20) (h3 : pnb < 1) :
    Calls Tryd.prog 38 #[.agg (headC 2 A1 n1 c1 A2 n2 c2 A3 n3 c3 ph pn pnb)] w fun e w' => e = .returned (.bool false) ∧ Below w.heap.size w w' := by
  unfold headC
  go_enter Tryd.func38, Tryd.ntmps38
  go_wp2
  go_ret
  exact ⟨rfl, (Below.refl _ _).alloc (Nat.le_refl _) _⟩

set_option maxRecDepth 10000 in
set_option maxHeartbeats 400000 in
theorem rm_b3 (sp : Nat) (n2 : Nat) (n3 : Nat) (ph : Bool) (A1 : Option Addr) (n1 c1 : Nat) (A2 : Option Addr) (c2 : Nat) (A3 : Option Addr) (c3 : Nat) (pn pnb : Int) (w : World) (h1 : n1 ≤ 20) (h2 : n2 ≤ 20) (h3 : pnb < 1) (h0 : 2 < sp) :
    Calls Tryd.prog 38 #[.agg (headC sp A1 n1 c1 A2 n2 c2 A3 n3 c3 ph pn pnb)] w fun e w' => e = .returned (.bool false) ∧ Below w.heap.size w w' := by
  have q2 : ((sp : Int) == 2) = false := by rw [beq_eq_false_iff_ne]; omega
  have q0 : ((sp : Int) == 0) = false := by rw [beq_eq_false_iff_ne]; omega
  unfold headC
  go_enter Tryd.func38, Tryd.ntmps38
  go_wp2
  go_ret
  exact ⟨rfl, (Below.refl _ _).alloc (Nat.le_refl _) _⟩

set_option maxRecDepth 10000 in
set_option maxHeartbeats 400000 in
theorem rm_m0 (n2 : Nat) (n3 : Nat) (ph : Bool) (A1 : Option Addr) (n1 c1 : Nat) (A2 : Option Addr) (c2 : Nat) (A3 : Option Addr) (c3 : Nat) (pn pnb : Int) (w : World) (h1 : n1 ≤ 20) (h2 : n2 ≤ 20) (h3 : 1 ≤ pnb) (h4 : 4 < pnb) :
    Calls Tryd.prog 38 #[.agg (headC 0 A1 n1 c1 A2 n2 c2 A3 n3 c3 ph pn pnb)] w fun e w' => e = .returned (.bool false) ∧ Below w.heap.size w w' := by
  unfold headC
  go_enter Tryd.func38, Tryd.ntmps38
  go_wp2
  go_ret
  exact ⟨rfl, (Below.refl _ _).alloc (Nat.le_refl _) _⟩

set_option maxRecDepth 10000 in
set_option maxHeartbeats 400000 in
theorem rm_m1 (n2 : Nat) (n3 : Nat) (ph : Bool) (A1 : Option Addr) (n1 c1 : Nat) (A2 : Option Addr) (c2 : Nat) (A3 : Option Addr) (c3 : Nat) (pn pnb : Int) (w : World) (h1 : n1 ≤ 20) (h2 : n2 ≤ 20) (h3 : 1 ≤ pnb) (h4 : 4 < pnb) :
    Calls Tryd.prog 38 #[.agg (headC 1 A1 n1 c1 A2 n2 c2 A3 n3 c3 ph pn pnb)] w fun e w' => e = .returned (.bool false) ∧ Below w.heap.size w w' := by
  unfold headC
  go_enter Tryd.func38, Tryd.ntmps38
  go_wp2
  go_ret
  exact ⟨rfl, (Below.refl _ _).alloc (Nat.le_refl _) _⟩

set_option maxRecDepth 10000 in
set_option maxHeartbeats 400000 in
theorem rm_m2 (n2 : Nat) (n3 : Nat) (ph : Bool) (A1 : Option Addr) (n1 c1 : Nat) (A2 : Option Addr) (c2 : Nat) (A3 : Option Addr) (c3 : Nat) (pn pnb : Int) (w : World) (h1 : n1 ≤ 20) (h2 : n2 ≤ 20) (h3 : 1 ≤ pnb) (h4 : 4 < pnb) :
    Calls Tryd.prog 38 #[.agg (headC 2 A1 n1 c1 A2 n2 c2 A3 n3 c3 ph pn pnb)] w fun e w' => e = .returned (.bool false) ∧ Below w.heap.size w w' := by
  unfold headC
  go_enter Tryd.func38, Tryd.ntmps38
  go_wp2
  go_ret
  exact ⟨rfl, (Below.refl _ _).alloc (Nat.le_refl _) _⟩

set_option maxRecDepth 10000 in
set_option maxHeartbeats 400000 in
theorem rm_m3 (sp : Nat) (n2 : Nat) (n3 : Nat) (ph : Bool) (A1 : Option Addr) (n1 c1 : Nat) (A2 : Option Addr) (c2 : Nat) (A3 : Option Addr) (c3 : Nat) (pn pnb : Int) (w : World) (h1 : n1 ≤ 20) (h2 : n2 ≤ 20) (h3 : 1 ≤ pnb) (h4 : 4 < pnb) (h0 : 2 < sp) :
    Calls Tryd.prog 38 #[.agg (headC sp A1 n1 c1 A2 n2 c2 A3 n3 c3 ph pn pnb)] w fun e w' => e = .returned (.bool false) ∧ Below w.heap.size w w' := by
  have q2 : ((sp : Int) == 2) = false := by rw [beq_eq_false_iff_ne]; omega
  have q0 : ((sp : Int) == 0) = false := by rw [beq_eq_false_iff_ne]; omega
  unfold headC
  go_enter Tryd.func38, Tryd.ntmps38
  go_wp2
  go_ret
  exact ⟨rfl, (Below.refl _ _).alloc (Nat.le_refl _) _⟩

set_option maxRecDepth 10000 in
set_option maxHeartbeats 400000 in
theorem rm_n0 (n2 : Nat) (n3 : Nat) (ph : Bool) (A1 : Option Addr) (n1 c1 : Nat) (A2 : Option Addr) (c2 : Nat) (A3 : Option Addr) (c3 : Nat) (pn pnb : Int) (w : World) (h1 : n1 ≤ 20) (h2 : n2 ≤ 20) (h3 : 1 ≤ pnb) (h4 : pnb ≤ 4) (h5 : 4611686018427387903 < pn) :
    Calls Tryd.prog 38 #[.agg (headC 0 A1 n1 c1 A2 n2 c2 A3 n3 c3 ph pn pnb)] w fun e w' => e = .returned (.bool false) ∧ Below w.heap.size w w' := by
  unfold headC
  go_enter Tryd.func38, Tryd.ntmps38
  go_wp2
  go_ret
  exact ⟨rfl, (Below.refl _ _).alloc (Nat.le_refl _) _⟩

set_option maxRecDepth 10000 in
set_option maxHeartbeats 400000 in
theorem rm_n1 (n2 : Nat) (n3 : Nat) (ph : Bool) (A1 : Option Addr) (n1 c1 : Nat) (A2 : Option Addr) (c2 : Nat) (A3 : Option Addr) (c3 : Nat) (pn pnb : Int) (w : World) (h1 : n1 ≤ 20) (h2 : n2 ≤ 20) (h3 : 1 ≤ pnb) (h4 : pnb ≤ 4) (h5 : 4611686018427387903 < pn) :
    Calls Tryd.prog 38 #[.agg (headC 1 A1 n1 c1 A2 n2 c2 A3 n3 c3 ph pn pnb)] w fun e w' => e = .returned (.bool false) ∧ Below w.heap.size w w' := by
  unfold headC
  go_enter Tryd.func38, Tryd.ntmps38
  go_wp2
  go_ret
  exact ⟨rfl, (Below.refl _ _).alloc (Nat.le_refl _) _⟩

set_option maxRecDepth 10000 in
set_option maxHeartbeats 400000 in
theorem rm_n2 (n2 : Nat) (n3 : Nat) (ph : Bool) (A1 : Option Addr) (n1 c1 : Nat) (A2 : Option Addr) (c2 : Nat) (A3 : Option Addr) (c3 : Nat) (pn pnb : Int) (w : World) (h1 : n1 ≤ 20) (h2 : n2 ≤ 20) (h3 : 1 ≤ pnb) (h4 : pnb ≤ 4) (h5 : 4611686018427387903 < pn) :
    Calls Tryd.prog 38 #[.agg (headC 2 A1 n1 c1 A2 n2 c2 A3 n3 c3 ph pn pnb)] w fun e w' => e = .returned (.bool false) ∧ Below w.heap.size w w' := by
  unfold headC
  go_enter Tryd.func38, Tryd.ntmps38
  go_wp2
  go_ret
  exact ⟨rfl, (Below.refl _ _).alloc (Nat.le_refl _) _⟩

set_option maxRecDepth 10000 in
set_option maxHeartbeats 400000 in
theorem rm_n3 (sp : Nat) (n2 : Nat) (n3 : Nat) (ph : Bool) (A1 : Option Addr) (n1 c1 : Nat) (A2 : Option Addr) (c2 : Nat) (A3 : Option Addr) (c3 : Nat) (pn pnb : Int) (w : World) (h1 : n1 ≤ 20) (h2 : n2 ≤ 20) (h3 : 1 ≤ pnb) (h4 : pnb ≤ 4) (h5 : 4611686018427387903 < pn) (h0 : 2 < sp) :
    Calls Tryd.prog 38 #[.agg (headC sp A1 n1 c1 A2 n2 c2 A3 n3 c3 ph pn pnb)] w fun e w' => e = .returned (.bool false) ∧ Below w.heap.size w w' := by
  have q2 : ((sp : Int) == 2) = false := by rw [beq_eq_false_iff_ne]; omega
  have q0 : ((sp : Int) == 0) = false := by rw [beq_eq_false_iff_ne]; omega
  unfold headC
  go_enter Tryd.func38, Tryd.ntmps38
  go_wp2
  go_ret
  exact ⟨rfl, (Below.refl _ _).alloc (Nat.le_refl _) _⟩

set_option maxRecDepth 10000 in
set_option maxHeartbeats 400000 in
theorem rm_0t (n2 : Nat) (n3 : Nat) (A1 : Option Addr) (n1 c1 : Nat) (A2 : Option Addr) (c2 : Nat) (A3 : Option Addr) (c3 : Nat) (pn pnb : Int) (w : World) (h1 : n1 ≤ 20) (h2 : n2 ≤ 20) (h3 : 1 ≤ pnb) (h4 : pnb ≤ 4) (h5 : pn ≤ 4611686018427387903) :
    Calls Tryd.prog 38 #[.agg (headC 0 A1 n1 c1 A2 n2 c2 A3 n3 c3 true pn pnb)] w fun e w' => e = .returned (.bool false) ∧ Below w.heap.size w w' := by
  unfold headC
  go_enter Tryd.func38, Tryd.ntmps38
  go_wp2
  go_ret
  exact ⟨rfl, (Below.refl _ _).alloc (Nat.le_refl _) _⟩

set_option maxRecDepth 10000 in
set_option maxHeartbeats 400000 in
theorem rm_0f (n2 : Nat) (n3 : Nat) (A1 : Option Addr) (n1 c1 : Nat) (A2 : Option Addr) (c2 : Nat) (A3 : Option Addr) (c3 : Nat) (pn pnb : Int) (w : World) (h1 : n1 ≤ 20) (h2 : n2 ≤ 20) (h3 : 1 ≤ pnb) (h4 : pnb ≤ 4) (h5 : pn ≤ 4611686018427387903) :
    Calls Tryd.prog 38 #[.agg (headC 0 A1 n1 c1 A2 n2 c2 A3 n3 c3 false pn pnb)] w fun e w' => e = .returned (.bool true) ∧ Below w.heap.size w w' := by
  unfold headC
  go_enter Tryd.func38, Tryd.ntmps38
  go_wp2
  go_ret
  exact ⟨rfl, (Below.refl _ _).alloc (Nat.le_refl _) _⟩

set_option maxRecDepth 10000 in
set_option maxHeartbeats 400000 in
theorem rm_1t (n2 : Nat) (n3 : Nat) (A1 : Option Addr) (n1 c1 : Nat) (A2 : Option Addr) (c2 : Nat) (A3 : Option Addr) (c3 : Nat) (pn pnb : Int) (w : World) (h1 : n1 ≤ 20) (h2 : n2 ≤ 20) (h3 : 1 ≤ pnb) (h4 : pnb ≤ 4) (h5 : pn ≤ 4611686018427387903) :
    Calls Tryd.prog 38 #[.agg (headC 1 A1 n1 c1 A2 n2 c2 A3 n3 c3 true pn pnb)] w fun e w' => e = .returned (.bool false) ∧ Below w.heap.size w w' := by
  unfold headC
  go_enter Tryd.func38, Tryd.ntmps38
  go_wp2
  go_ret
  exact ⟨rfl, (Below.refl _ _).alloc (Nat.le_refl _) _⟩

set_option maxRecDepth 10000 in
set_option maxHeartbeats 400000 in
theorem rm_1fz (n2 : Nat) (A1 : Option Addr) (n1 c1 : Nat) (A2 : Option Addr) (c2 : Nat) (A3 : Option Addr) (c3 : Nat) (pn pnb : Int) (w : World) (h1 : n1 ≤ 20) (h2 : n2 ≤ 20) (h3 : 1 ≤ pnb) (h4 : pnb ≤ 4) (h5 : pn ≤ 4611686018427387903) :
    Calls Tryd.prog 38 #[.agg (headC 1 A1 n1 c1 A2 n2 c2 A3 0 c3 false pn pnb)] w fun e w' => e = .returned (.bool true) ∧ Below w.heap.size w w' := by
  unfold headC
  go_enter Tryd.func38, Tryd.ntmps38
  go_wp2
  go_ret
  exact ⟨rfl, (Below.refl _ _).alloc (Nat.le_refl _) _⟩

set_option maxRecDepth 10000 in
set_option maxHeartbeats 400000 in
theorem rm_1fn (n2 : Nat) (n3 : Nat) (A1 : Option Addr) (n1 c1 : Nat) (A2 : Option Addr) (c2 : Nat) (A3 : Option Addr) (c3 : Nat) (pn pnb : Int) (w : World) (h1 : n1 ≤ 20) (h2 : n2 ≤ 20) (h3 : 1 ≤ pnb) (h4 : pnb ≤ 4) (h5 : pn ≤ 4611686018427387903) (h6 : 0 < n3) :
    Calls Tryd.prog 38 #[.agg (headC 1 A1 n1 c1 A2 n2 c2 A3 n3 c3 false pn pnb)] w fun e w' => e = .returned (.bool false) ∧ Below w.heap.size w w' := by
  have q0 : ((n3 : Int) == 0) = false := by rw [beq_eq_false_iff_ne]; omega
  unfold headC
  go_enter Tryd.func38, Tryd.ntmps38
  go_wp2
  go_ret
  exact ⟨rfl, (Below.refl _ _).alloc (Nat.le_refl _) _⟩

set_option maxRecDepth 10000 in
set_option maxHeartbeats 400000 in
theorem rm_2n (n2 : Nat) (n3 : Nat) (ph : Bool) (A1 : Option Addr) (n1 c1 : Nat) (A2 : Option Addr) (c2 : Nat) (A3 : Option Addr) (c3 : Nat) (pn pnb : Int) (w : World) (h1 : n1 ≤ 20) (h2 : n2 ≤ 20) (h3 : 1 ≤ pnb) (h4 : pnb ≤ 4) (h5 : pn ≤ 4611686018427387903) (h6 : 0 < n2) :
    Calls Tryd.prog 38 #[.agg (headC 2 A1 n1 c1 A2 n2 c2 A3 n3 c3 ph pn pnb)] w fun e w' => e = .returned (.bool false) ∧ Below w.heap.size w w' := by
  have q0 : ((n2 : Int) == 0) = false := by rw [beq_eq_false_iff_ne]; omega
  unfold headC
  go_enter Tryd.func38, Tryd.ntmps38
  go_wp2
  go_ret
  exact ⟨rfl, (Below.refl _ _).alloc (Nat.le_refl _) _⟩

set_option maxRecDepth 10000 in
set_option maxHeartbeats 400000 in
theorem rm_2zn (n3 : Nat) (ph : Bool) (A1 : Option Addr) (n1 c1 : Nat) (A2 : Option Addr) (c2 : Nat) (A3 : Option Addr) (c3 : Nat) (pn pnb : Int) (w : World) (h1 : n1 ≤ 20) (h3 : 1 ≤ pnb) (h4 : pnb ≤ 4) (h5 : pn ≤ 4611686018427387903) (h6 : 0 < n3) :
    Calls Tryd.prog 38 #[.agg (headC 2 A1 n1 c1 A2 0 c2 A3 n3 c3 ph pn pnb)] w fun e w' => e = .returned (.bool false) ∧ Below w.heap.size w w' := by
  have q0 : ((n3 : Int) == 0) = false := by rw [beq_eq_false_iff_ne]; omega
  unfold headC
  go_enter Tryd.func38, Tryd.ntmps38
  go_wp2
  go_ret
  exact ⟨rfl, (Below.refl _ _).alloc (Nat.le_refl _) _⟩

set_option maxRecDepth 10000 in
set_option maxHeartbeats 400000 in
theorem rm_2zz (ph : Bool) (A1 : Option Addr) (n1 c1 : Nat) (A2 : Option Addr) (c2 : Nat) (A3 : Option Addr) (c3 : Nat) (pn pnb : Int) (w : World) (h1 : n1 ≤ 20) (h3 : 1 ≤ pnb) (h4 : pnb ≤ 4) (h5 : pn ≤ 4611686018427387903) :
    Calls Tryd.prog 38 #[.agg (headC 2 A1 n1 c1 A2 0 c2 A3 0 c3 ph pn pnb)] w fun e w' => e = .returned (.bool true) ∧ Below w.heap.size w w' := by
  unfold headC
  go_enter Tryd.func38, Tryd.ntmps38
  go_wp2
  go_ret
  exact ⟨rfl, (Below.refl _ _).alloc (Nat.le_refl _) _⟩

set_option maxRecDepth 10000 in
set_option maxHeartbeats 400000 in
theorem rm_3 (sp : Nat) (n2 : Nat) (n3 : Nat) (ph : Bool) (A1 : Option Addr) (n1 c1 : Nat) (A2 : Option Addr) (c2 : Nat) (A3 : Option Addr) (c3 : Nat) (pn pnb : Int) (w : World) (h1 : n1 ≤ 20) (h2 : n2 ≤ 20) (h3 : 1 ≤ pnb) (h4 : pnb ≤ 4) (h5 : pn ≤ 4611686018427387903) (h0 : 2 < sp) :
    Calls Tryd.prog 38 #[.agg (headC sp A1 n1 c1 A2 n2 c2 A3 n3 c3 ph pn pnb)] w fun e w' => e = .returned (.bool false) ∧ Below w.heap.size w w' := by
  have q0 : ((sp : Int) == 0) = false := by rw [beq_eq_false_iff_ne]; omega
  have q1 : ((sp : Int) == 1) = false := by rw [beq_eq_false_iff_ne]; omega
  have q2 : ((sp : Int) == 2) = false := by rw [beq_eq_false_iff_ne]; omega
  unfold headC
  go_enter Tryd.func38, Tryd.ntmps38
  go_wp2
  go_ret
  exact ⟨rfl, (Below.refl _ _).alloc (Nat.le_refl _) _⟩

theorem rmay_any (sp n1 n2 n3 : Nat) (ph : Bool) (A1 : Option Addr) (c1 : Nat) (A2 : Option Addr) (c2 : Nat) (A3 : Option Addr) (c3 : Nat) (pn pnb : Int) (w : World) :
    Calls Tryd.prog 38 #[.agg (headC sp A1 n1 c1 A2 n2 c2 A3 n3 c3 ph pn pnb)] w fun e w' => e = .returned (.bool (mayB sp n1 n2 n3 ph pn pnb)) ∧ Below w.heap.size w w' := by
  have key : ∀ v : Bool, mayB sp n1 n2 n3 ph pn pnb = v → (Calls Tryd.prog 38 #[.agg (headC sp A1 n1 c1 A2 n2 c2 A3 n3 c3 ph pn pnb)] w fun e w' => e = .returned (.bool v) ∧ Below w.heap.size w w') →
      Calls Tryd.prog 38 #[.agg (headC sp A1 n1 c1 A2 n2 c2 A3 n3 c3 ph pn pnb)] w fun e w' => e = .returned (.bool (mayB sp n1 n2 n3 ph pn pnb)) ∧ Below w.heap.size w w' := by
    rintro v rfl h
    exact h
  have hsp : sp = 0 ∨ sp = 1 ∨ sp = 2 ∨ 2 < sp := by omega
  by_cases h1 : n1 ≤ 20
  rotate_left 1
  · refine key false (by unfold mayB; rw [if_neg (by omega)]) ?_
    rcases hsp with rfl | rfl | rfl | h0
    · exact rm_d0 n2 n3 ph A1 n1 c1 A2 c2 A3 c3 pn pnb w (by omega)
    · exact rm_d1 n2 n3 ph A1 n1 c1 A2 c2 A3 c3 pn pnb w (by omega)
    · exact rm_d2 n2 n3 ph A1 n1 c1 A2 c2 A3 c3 pn pnb w (by omega)
    · exact rm_d3 sp n2 n3 ph A1 n1 c1 A2 c2 A3 c3 pn pnb w (by omega) h0
  by_cases h2 : n2 ≤ 20
  rotate_left 1
  · refine key false (by unfold mayB; rw [if_neg (by omega)]) ?_
    rcases hsp with rfl | rfl | rfl | h0
    · exact rm_s0 n2 n3 ph A1 n1 c1 A2 c2 A3 c3 pn pnb w h1 (by omega)
    · exact rm_s1 n2 n3 ph A1 n1 c1 A2 c2 A3 c3 pn pnb w h1 (by omega)
    · exact rm_s2 n2 n3 ph A1 n1 c1 A2 c2 A3 c3 pn pnb w h1 (by omega)
    · exact rm_s3 sp n2 n3 ph A1 n1 c1 A2 c2 A3 c3 pn pnb w h1 (by omega) h0
  by_cases h3 : 1 ≤ pnb
  rotate_left 1
  · refine key false (by unfold mayB; rw [if_neg (by omega)]) ?_
    rcases hsp with rfl | rfl | rfl | h0
    · exact rm_b0 n2 n3 ph A1 n1 c1 A2 c2 A3 c3 pn pnb w h1 h2 (by omega)
    · exact rm_b1 n2 n3 ph A1 n1 c1 A2 c2 A3 c3 pn pnb w h1 h2 (by omega)
    · exact rm_b2 n2 n3 ph A1 n1 c1 A2 c2 A3 c3 pn pnb w h1 h2 (by omega)
    · exact rm_b3 sp n2 n3 ph A1 n1 c1 A2 c2 A3 c3 pn pnb w h1 h2 (by omega) h0
  by_cases h4 : pnb ≤ 4
  rotate_left 1
  · refine key false (by unfold mayB; rw [if_neg (by omega)]) ?_
    rcases hsp with rfl | rfl | rfl | h0
    · exact rm_m0 n2 n3 ph A1 n1 c1 A2 c2 A3 c3 pn pnb w h1 h2 h3 (by omega)
    · exact rm_m1 n2 n3 ph A1 n1 c1 A2 c2 A3 c3 pn pnb w h1 h2 h3 (by omega)
    · exact rm_m2 n2 n3 ph A1 n1 c1 A2 c2 A3 c3 pn pnb w h1 h2 h3 (by omega)
    · exact rm_m3 sp n2 n3 ph A1 n1 c1 A2 c2 A3 c3 pn pnb w h1 h2 h3 (by omega) h0
  by_cases h5 : pn ≤ 4611686018427387903
  rotate_left 1
  · refine key false (by unfold mayB; rw [if_neg (by omega)]) ?_
    rcases hsp with rfl | rfl | rfl | h0
    · exact rm_n0 n2 n3 ph A1 n1 c1 A2 c2 A3 c3 pn pnb w h1 h2 h3 h4 (by omega)
    · exact rm_n1 n2 n3 ph A1 n1 c1 A2 c2 A3 c3 pn pnb w h1 h2 h3 h4 (by omega)
    · exact rm_n2 n2 n3 ph A1 n1 c1 A2 c2 A3 c3 pn pnb w h1 h2 h3 h4 (by omega)
    · exact rm_n3 sp n2 n3 ph A1 n1 c1 A2 c2 A3 c3 pn pnb w h1 h2 h3 h4 (by omega) h0
  have hok : mayB sp n1 n2 n3 ph pn pnb = (if sp = 0 then !ph else if sp = 1 then !ph && decide (n3 = 0) else if sp = 2 then decide (n2 = 0) && decide (n3 = 0) else false) := by
    unfold mayB
    rw [if_pos ⟨h1, h2, h3, h4, h5⟩]
  rcases hsp with rfl | rfl | rfl | h0
  · cases ph
    · exact key true (by rw [hok]; rfl) (rm_0f n2 n3 A1 n1 c1 A2 c2 A3 c3 pn pnb w h1 h2 h3 h4 h5)
    · exact key false (by rw [hok]; rfl) (rm_0t n2 n3 A1 n1 c1 A2 c2 A3 c3 pn pnb w h1 h2 h3 h4 h5)
  · cases ph
    · by_cases h6 : n3 = 0
      · subst h6
        exact key true (by rw [hok]; rfl) (rm_1fz n2 A1 n1 c1 A2 c2 A3 c3 pn pnb w h1 h2 h3 h4 h5)
      · exact key false (by rw [hok]; simp [h6]) (rm_1fn n2 n3 A1 n1 c1 A2 c2 A3 c3 pn pnb w h1 h2 h3 h4 h5 (by omega))
    · exact key false (by rw [hok]; rfl) (rm_1t n2 n3 A1 n1 c1 A2 c2 A3 c3 pn pnb w h1 h2 h3 h4 h5)
  · by_cases h6 : n2 = 0
    · subst h6
      by_cases h7 : n3 = 0
      · subst h7
        exact key true (by rw [hok]; rfl) (rm_2zz ph A1 n1 c1 A2 c2 A3 c3 pn pnb w h1 h3 h4 h5)
      · exact key false (by rw [hok]; simp [h7]) (rm_2zn n3 ph A1 n1 c1 A2 c2 A3 c3 pn pnb w h1 h3 h4 h5 (by omega))
    · exact key false (by rw [hok]; simp [h6]) (rm_2n n2 n3 ph A1 n1 c1 A2 c2 A3 c3 pn pnb w h1 h2 h3 h4 h5 (by omega))
  · exact key false (by rw [hok, if_neg (by omega), if_neg (by omega), if_neg (by omega)]) (rm_3 sp n2 n3 ph A1 n1 c1 A2 c2 A3 c3 pn pnb w h1 h2 h3 h4 h5 h0)
end Go.Proofs.YtblclinfcdalaaaDoor
