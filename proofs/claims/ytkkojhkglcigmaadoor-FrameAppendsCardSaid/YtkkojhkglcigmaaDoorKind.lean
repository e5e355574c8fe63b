/-
  The walk through frame.mayKind, kind by kind: made by tools/gen_kind.py.
-/
import Derived.Test.YtkkojhkglcigmaaDoorMayParts
namespace Go.Proofs.YtkkojhkglcigmaaDoor
open Go.RowKit
set_option linter.unusedVariables false

def Told (q : Prop) (w : World) (e : Ending) (w' : World) : Prop :=
  (q → e = .returned (.bool true)) ∧ (¬ q → e = .returned (.bool false)) ∧ Below w.heap.size w w'


set_option maxRecDepth 10000 in
set_option maxHeartbeats 1000000 in
theorem kind_0 (R : Array Value) (f : PF) (a : SA) (w : World) (hR : RowIs R f a) (hk : f.kind = 0) (hd : f.data.length ≤ 140737488355328) (hc : f.cid.length ≤ 140737488355328) :
    Calls Tryd.prog 29 #[.agg R] w (Told (1 ≤ f.n ∧ f.n ≤ 65536) w) := by
  have h0 : R[0]? = some (.int .u64 0) := by rw [hR.kind, hk]; rfl
  have h1 := hR.id
  have h3 := hR.max
  have h5 := hR.n
  have h7 := hR.data
  have h8 := hR.cid
  clear hR hk
  generalize f.data.length = dn at *
  generalize f.cid.length = cn at *
  by_cases hQ : 1 ≤ f.n ∧ f.n ≤ 65536
  · have HQ : Hid (1 ≤ f.n ∧ f.n ≤ 65536) := hQ
    have t1 : (1 : Int) ≤ (f.n : Int) := by omega
    have t2 : (f.n : Int) ≤ 65536 := by omega
    clear hQ
    go_enter Tryd.func29, Tryd.ntmps29
    go_wp2
    go_ret
    exact ⟨fun _ => rfl, fun h => absurd HQ.out h, (Below.refl _ _).alloc (Nat.le_refl _) _⟩
  · have HQ : Hid (¬ (1 ≤ f.n ∧ f.n ≤ 65536)) := hQ
    by_cases q0 : 1 ≤ f.n
    rotate_left
    · have t1 : decide ((1 : Int) ≤ (f.n : Int)) = false := decide_eq_false (by omega)
      clear hQ
      go_enter Tryd.func29, Tryd.ntmps29
      go_wp2
      go_ret
      exact ⟨fun h => absurd h HQ.out, fun _ => rfl, (Below.refl _ _).alloc (Nat.le_refl _) _⟩
    · have t1 : (1 : Int) ≤ (f.n : Int) := by omega
      have t2 : decide ((f.n : Int) ≤ 65536) = false := decide_eq_false (by omega)
      clear hQ
      go_enter Tryd.func29, Tryd.ntmps29
      go_wp2
      go_ret
      exact ⟨fun h => absurd h HQ.out, fun _ => rfl, (Below.refl _ _).alloc (Nat.le_refl _) _⟩


set_option maxRecDepth 10000 in
set_option maxHeartbeats 1000000 in
theorem kind_7 (R : Array Value) (f : PF) (a : SA) (w : World) (hR : RowIs R f a) (hk : f.kind = 7) (hd : f.data.length ≤ 140737488355328) (hc : f.cid.length ≤ 140737488355328) :
    Calls Tryd.prog 29 #[.agg R] w (Told (0 < f.data.length) w) := by
  have h0 : R[0]? = some (.int .u64 7) := by rw [hR.kind, hk]; rfl
  have h1 := hR.id
  have h3 := hR.max
  have h5 := hR.n
  have h7 := hR.data
  have h8 := hR.cid
  clear hR hk
  generalize f.data.length = dn at *
  generalize f.cid.length = cn at *
  by_cases hQ : 0 < dn
  · have HQ : Hid (0 < dn) := hQ
    have t1 : 0 < dn := HQ.out
    clear hQ
    go_enter Tryd.func29, Tryd.ntmps29
    go_wp2
    go_ret
    exact ⟨fun _ => rfl, fun h => absurd HQ.out h, (Below.refl _ _).alloc (Nat.le_refl _) _⟩
  · have HQ : Hid (¬ (0 < dn)) := hQ
    obtain rfl : dn = 0 := by omega
    clear hQ
    go_enter Tryd.func29, Tryd.ntmps29
    go_wp2
    go_ret
    exact ⟨fun h => absurd h HQ.out, fun _ => rfl, (Below.refl _ _).alloc (Nat.le_refl _) _⟩


set_option maxRecDepth 10000 in
set_option maxHeartbeats 1000000 in
theorem kind_18 (R : Array Value) (f : PF) (a : SA) (w : World) (hR : RowIs R f a) (hk : f.kind = 18) (hd : f.data.length ≤ 140737488355328) (hc : f.cid.length ≤ 140737488355328) :
    Calls Tryd.prog 29 #[.agg R] w (Told (f.max ≤ 1152921504606846976) w) := by
  have h0 : R[0]? = some (.int .u64 18) := by rw [hR.kind, hk]; rfl
  have h1 := hR.id
  have h3 := hR.max
  have h5 := hR.n
  have h7 := hR.data
  have h8 := hR.cid
  clear hR hk
  generalize f.data.length = dn at *
  generalize f.cid.length = cn at *
  by_cases hQ : f.max ≤ 1152921504606846976
  · have HQ : Hid (f.max ≤ 1152921504606846976) := hQ
    have t1 : (f.max : Int) ≤ 1152921504606846976 := by omega
    clear hQ
    go_enter Tryd.func29, Tryd.ntmps29
    go_wp2
    go_ret
    exact ⟨fun _ => rfl, fun h => absurd HQ.out h, (Below.refl _ _).alloc (Nat.le_refl _) _⟩
  · have HQ : Hid (¬ (f.max ≤ 1152921504606846976)) := hQ
    have t1 : decide ((f.max : Int) ≤ 1152921504606846976) = false := decide_eq_false (by omega)
    clear hQ
    go_enter Tryd.func29, Tryd.ntmps29
    go_wp2
    go_ret
    exact ⟨fun h => absurd h HQ.out, fun _ => rfl, (Below.refl _ _).alloc (Nat.le_refl _) _⟩

set_option maxRecDepth 10000 in
set_option maxHeartbeats 1000000 in
theorem kind_19 (R : Array Value) (f : PF) (a : SA) (w : World) (hR : RowIs R f a) (hk : f.kind = 19) (hd : f.data.length ≤ 140737488355328) (hc : f.cid.length ≤ 140737488355328) :
    Calls Tryd.prog 29 #[.agg R] w (Told (f.max ≤ 1152921504606846976) w) := by
  have h0 : R[0]? = some (.int .u64 19) := by rw [hR.kind, hk]; rfl
  have h1 := hR.id
  have h3 := hR.max
  have h5 := hR.n
  have h7 := hR.data
  have h8 := hR.cid
  clear hR hk
  generalize f.data.length = dn at *
  generalize f.cid.length = cn at *
  by_cases hQ : f.max ≤ 1152921504606846976
  · have HQ : Hid (f.max ≤ 1152921504606846976) := hQ
    have t1 : (f.max : Int) ≤ 1152921504606846976 := by omega
    clear hQ
    go_enter Tryd.func29, Tryd.ntmps29
    go_wp2
    go_ret
    exact ⟨fun _ => rfl, fun h => absurd HQ.out h, (Below.refl _ _).alloc (Nat.le_refl _) _⟩
  · have HQ : Hid (¬ (f.max ≤ 1152921504606846976)) := hQ
    have t1 : decide ((f.max : Int) ≤ 1152921504606846976) = false := decide_eq_false (by omega)
    clear hQ
    go_enter Tryd.func29, Tryd.ntmps29
    go_wp2
    go_ret
    exact ⟨fun h => absurd h HQ.out, fun _ => rfl, (Below.refl _ _).alloc (Nat.le_refl _) _⟩

set_option maxRecDepth 10000 in
set_option maxHeartbeats 1000000 in
theorem kind_22 (R : Array Value) (f : PF) (a : SA) (w : World) (hR : RowIs R f a) (hk : f.kind = 22) (hd : f.data.length ≤ 140737488355328) (hc : f.cid.length ≤ 140737488355328) :
    Calls Tryd.prog 29 #[.agg R] w (Told (f.max ≤ 1152921504606846976) w) := by
  have h0 : R[0]? = some (.int .u64 22) := by rw [hR.kind, hk]; rfl
  have h1 := hR.id
  have h3 := hR.max
  have h5 := hR.n
  have h7 := hR.data
  have h8 := hR.cid
  clear hR hk
  generalize f.data.length = dn at *
  generalize f.cid.length = cn at *
  by_cases hQ : f.max ≤ 1152921504606846976
  · have HQ : Hid (f.max ≤ 1152921504606846976) := hQ
    have t1 : (f.max : Int) ≤ 1152921504606846976 := by omega
    clear hQ
    go_enter Tryd.func29, Tryd.ntmps29
    go_wp2
    go_ret
    exact ⟨fun _ => rfl, fun h => absurd HQ.out h, (Below.refl _ _).alloc (Nat.le_refl _) _⟩
  · have HQ : Hid (¬ (f.max ≤ 1152921504606846976)) := hQ
    have t1 : decide ((f.max : Int) ≤ 1152921504606846976) = false := decide_eq_false (by omega)
    clear hQ
    go_enter Tryd.func29, Tryd.ntmps29
    go_wp2
    go_ret
    exact ⟨fun h => absurd h HQ.out, fun _ => rfl, (Below.refl _ _).alloc (Nat.le_refl _) _⟩

set_option maxRecDepth 10000 in
set_option maxHeartbeats 1000000 in
theorem kind_23 (R : Array Value) (f : PF) (a : SA) (w : World) (hR : RowIs R f a) (hk : f.kind = 23) (hd : f.data.length ≤ 140737488355328) (hc : f.cid.length ≤ 140737488355328) :
    Calls Tryd.prog 29 #[.agg R] w (Told (f.max ≤ 1152921504606846976) w) := by
  have h0 : R[0]? = some (.int .u64 23) := by rw [hR.kind, hk]; rfl
  have h1 := hR.id
  have h3 := hR.max
  have h5 := hR.n
  have h7 := hR.data
  have h8 := hR.cid
  clear hR hk
  generalize f.data.length = dn at *
  generalize f.cid.length = cn at *
  by_cases hQ : f.max ≤ 1152921504606846976
  · have HQ : Hid (f.max ≤ 1152921504606846976) := hQ
    have t1 : (f.max : Int) ≤ 1152921504606846976 := by omega
    clear hQ
    go_enter Tryd.func29, Tryd.ntmps29
    go_wp2
    go_ret
    exact ⟨fun _ => rfl, fun h => absurd HQ.out h, (Below.refl _ _).alloc (Nat.le_refl _) _⟩
  · have HQ : Hid (¬ (f.max ≤ 1152921504606846976)) := hQ
    have t1 : decide ((f.max : Int) ≤ 1152921504606846976) = false := decide_eq_false (by omega)
    clear hQ
    go_enter Tryd.func29, Tryd.ntmps29
    go_wp2
    go_ret
    exact ⟨fun h => absurd h HQ.out, fun _ => rfl, (Below.refl _ _).alloc (Nat.le_refl _) _⟩


set_option maxRecDepth 10000 in
set_option maxHeartbeats 1000000 in
theorem kind_26 (R : Array Value) (f : PF) (a : SA) (w : World) (hR : RowIs R f a) (hk : f.kind = 26) (hd : f.data.length ≤ 140737488355328) (hc : f.cid.length ≤ 140737488355328) :
    Calls Tryd.prog 29 #[.agg R] w (Told (f.data.length = 8) w) := by
  have h0 : R[0]? = some (.int .u64 26) := by rw [hR.kind, hk]; rfl
  have h1 := hR.id
  have h3 := hR.max
  have h5 := hR.n
  have h7 := hR.data
  have h8 := hR.cid
  clear hR hk
  generalize f.data.length = dn at *
  generalize f.cid.length = cn at *
  by_cases hQ : dn = 8
  · have HQ : Hid (dn = 8) := hQ
    have t1 : ((dn : Int) == 8) = true := by rw [beq_iff_eq]; omega
    clear hQ
    go_enter Tryd.func29, Tryd.ntmps29
    go_wp2
    go_ret
    exact ⟨fun _ => rfl, fun h => absurd HQ.out h, (Below.refl _ _).alloc (Nat.le_refl _) _⟩
  · have HQ : Hid (¬ (dn = 8)) := hQ
    have t1 : ((dn : Int) == 8) = false := by rw [beq_eq_false_iff_ne]; omega
    clear hQ
    go_enter Tryd.func29, Tryd.ntmps29
    go_wp2
    go_ret
    exact ⟨fun h => absurd h HQ.out, fun _ => rfl, (Below.refl _ _).alloc (Nat.le_refl _) _⟩

set_option maxRecDepth 10000 in
set_option maxHeartbeats 1000000 in
theorem kind_27 (R : Array Value) (f : PF) (a : SA) (w : World) (hR : RowIs R f a) (hk : f.kind = 27) (hd : f.data.length ≤ 140737488355328) (hc : f.cid.length ≤ 140737488355328) :
    Calls Tryd.prog 29 #[.agg R] w (Told (f.data.length = 8) w) := by
  have h0 : R[0]? = some (.int .u64 27) := by rw [hR.kind, hk]; rfl
  have h1 := hR.id
  have h3 := hR.max
  have h5 := hR.n
  have h7 := hR.data
  have h8 := hR.cid
  clear hR hk
  generalize f.data.length = dn at *
  generalize f.cid.length = cn at *
  by_cases hQ : dn = 8
  · have HQ : Hid (dn = 8) := hQ
    have t1 : ((dn : Int) == 8) = true := by rw [beq_iff_eq]; omega
    clear hQ
    go_enter Tryd.func29, Tryd.ntmps29
    go_wp2
    go_ret
    exact ⟨fun _ => rfl, fun h => absurd HQ.out h, (Below.refl _ _).alloc (Nat.le_refl _) _⟩
  · have HQ : Hid (¬ (dn = 8)) := hQ
    have t1 : ((dn : Int) == 8) = false := by rw [beq_eq_false_iff_ne]; omega
    clear hQ
    go_enter Tryd.func29, Tryd.ntmps29
    go_wp2
    go_ret
    exact ⟨fun h => absurd h HQ.out, fun _ => rfl, (Below.refl _ _).alloc (Nat.le_refl _) _⟩


set_option maxRecDepth 10000 in
set_option maxHeartbeats 1000000 in
theorem kind_24 (R : Array Value) (f : PF) (a : SA) (w : World) (hR : RowIs R f a) (hk : f.kind = 24) (hd : f.data.length ≤ 140737488355328) (hc : f.cid.length ≤ 140737488355328) :
    Calls Tryd.prog 29 #[.agg R] w (Told (0 < f.cid.length ∧ f.cid.length ≤ 20 ∧ f.max ≤ f.id) w) := by
  have h0 : R[0]? = some (.int .u64 24) := by rw [hR.kind, hk]; rfl
  have h1 := hR.id
  have h3 := hR.max
  have h5 := hR.n
  have h7 := hR.data
  have h8 := hR.cid
  clear hR hk
  generalize f.data.length = dn at *
  generalize f.cid.length = cn at *
  by_cases hQ : 0 < cn ∧ cn ≤ 20 ∧ f.max ≤ f.id
  · have HQ : Hid (0 < cn ∧ cn ≤ 20 ∧ f.max ≤ f.id) := hQ
    have t1 : (0 : Int) < (cn : Int) := by omega
    have t2 : (cn : Int) ≤ 20 := by omega
    have t3 : f.max ≤ f.id := hQ.2.2
    have t4 : (f.max : Int) ≤ (f.id : Int) := by omega
    clear hQ
    go_enter Tryd.func29, Tryd.ntmps29
    go_wp2
    go_ret
    exact ⟨fun _ => rfl, fun h => absurd HQ.out h, (Below.refl _ _).alloc (Nat.le_refl _) _⟩
  · have HQ : Hid (¬ (0 < cn ∧ cn ≤ 20 ∧ f.max ≤ f.id)) := hQ
    by_cases q0 : 0 < cn
    rotate_left
    · obtain rfl : cn = 0 := by omega
      clear hQ
      go_enter Tryd.func29, Tryd.ntmps29
      go_wp2
      go_ret
      exact ⟨fun h => absurd h HQ.out, fun _ => rfl, (Below.refl _ _).alloc (Nat.le_refl _) _⟩
    by_cases q1 : cn ≤ 20
    rotate_left
    · have t1 : (0 : Int) < (cn : Int) := by omega
      have t2 : decide ((cn : Int) ≤ 20) = false := decide_eq_false (by omega)
      clear hQ
      go_enter Tryd.func29, Tryd.ntmps29
      go_wp2
      go_ret
      exact ⟨fun h => absurd h HQ.out, fun _ => rfl, (Below.refl _ _).alloc (Nat.le_refl _) _⟩
    · have t1 : (0 : Int) < (cn : Int) := by omega
      have t2 : (cn : Int) ≤ 20 := by omega
      have t3 : decide (f.max ≤ f.id) = false := decide_eq_false (by omega)
      have t4 : decide ((f.max : Int) ≤ (f.id : Int)) = false := decide_eq_false (by omega)
      clear hQ
      go_enter Tryd.func29, Tryd.ntmps29
      go_wp2
      go_ret
      exact ⟨fun h => absurd h HQ.out, fun _ => rfl, (Below.refl _ _).alloc (Nat.le_refl _) _⟩


set_option maxRecDepth 10000 in
set_option maxHeartbeats 1000000 in
theorem kind_2 (R : Array Value) (f : PF) (a : SA) (w : World) (B : Nat) (hR : RowIs R f a) (hk : f.kind = 2) (hf : FrAt w B f a) (hB : B ≤ w.heap.size) :
    Calls Tryd.prog 29 #[.agg R] w (Told (OkR f.acks ∧ f.acks ≠ []) w) := by
  have h0 : R[0]? = some (.int .u64 2) := by rw [hR.kind, hk]; rfl
  have h25 := hR.acks
  have hac := hf.ac
  have hal := hf.al
  have hb1 : Below w.heap.size w (w.alloc (.cells R 32)) := (Below.refl _ _).alloc (Nat.le_refl _) _
  have HA := Lib.hid (fun (A : Option Addr) (c : Nat) => (mayAcks_any a.aA f.acks.length a.ac f.acks (w.alloc (.cells R 32)) w.heap.size rfl (by omega) (hf.acks.keep hB (fun p hp => hb1.cell (p := p) (by omega))) (by simp)))
  clear hR hk hf hac hal
  go_enter Tryd.func29, Tryd.ntmps29
  go_wp2_with fail
  refine (HA.out none 0).mono ?_
  rintro e w1 ⟨hy, hn, hb2⟩
  have hbb : Below w.heap.size w w1 := hb1.trans (hb2.mono (by simp))
  by_cases hQ : OkR f.acks ∧ f.acks ≠ []
  · obtain rfl := hy hQ
    have HQ : Hid (OkR f.acks ∧ f.acks ≠ []) := hQ
    clear hy hn hQ
    go_wp2
    go_ret
    exact ⟨fun _ => rfl, fun h => absurd HQ.out h, hbb⟩
  · obtain rfl := hn hQ
    have HQ : Hid (¬ (OkR f.acks ∧ f.acks ≠ [])) := hQ
    clear hy hn hQ
    go_wp2
    go_ret
    exact ⟨fun h => absurd h HQ.out, fun _ => rfl, hbb⟩

set_option maxRecDepth 10000 in
set_option maxHeartbeats 1000000 in
theorem kind_3 (R : Array Value) (f : PF) (a : SA) (w : World) (B : Nat) (hR : RowIs R f a) (hk : f.kind = 3) (hf : FrAt w B f a) (hB : B ≤ w.heap.size) :
    Calls Tryd.prog 29 #[.agg R] w (Told (OkR f.acks ∧ f.acks ≠ []) w) := by
  have h0 : R[0]? = some (.int .u64 3) := by rw [hR.kind, hk]; rfl
  have h25 := hR.acks
  have hac := hf.ac
  have hal := hf.al
  have hb1 : Below w.heap.size w (w.alloc (.cells R 32)) := (Below.refl _ _).alloc (Nat.le_refl _) _
  have HA := Lib.hid (fun (A : Option Addr) (c : Nat) => (mayAcks_any a.aA f.acks.length a.ac f.acks (w.alloc (.cells R 32)) w.heap.size rfl (by omega) (hf.acks.keep hB (fun p hp => hb1.cell (p := p) (by omega))) (by simp)))
  clear hR hk hf hac hal
  go_enter Tryd.func29, Tryd.ntmps29
  go_wp2_with fail
  refine (HA.out none 0).mono ?_
  rintro e w1 ⟨hy, hn, hb2⟩
  have hbb : Below w.heap.size w w1 := hb1.trans (hb2.mono (by simp))
  by_cases hQ : OkR f.acks ∧ f.acks ≠ []
  · obtain rfl := hy hQ
    have HQ : Hid (OkR f.acks ∧ f.acks ≠ []) := hQ
    clear hy hn hQ
    go_wp2
    go_ret
    exact ⟨fun _ => rfl, fun h => absurd HQ.out h, hbb⟩
  · obtain rfl := hn hQ
    have HQ : Hid (¬ (OkR f.acks ∧ f.acks ≠ [])) := hQ
    clear hy hn hQ
    go_wp2
    go_ret
    exact ⟨fun h => absurd h HQ.out, fun _ => rfl, hbb⟩

set_option maxRecDepth 10000 in
set_option maxHeartbeats 1000000 in
theorem kind_else (R : Array Value) (f : PF) (a : SA) (w : World) (hR : RowIs R f a) (g0 : f.kind ≠ 0) (g2 : f.kind ≠ 2) (g3 : f.kind ≠ 3) (g7 : f.kind ≠ 7) (g18 : f.kind ≠ 18) (g19 : f.kind ≠ 19) (g22 : f.kind ≠ 22) (g23 : f.kind ≠ 23) (g24 : f.kind ≠ 24) (g26 : f.kind ≠ 26) (g27 : f.kind ≠ 27) :
    Calls Tryd.prog 29 #[.agg R] w (Told True w) := by
  have h0 := hR.kind
  generalize f.kind = k at *
  have t0 : ((k : Int) == 0) = false := by rw [beq_eq_false_iff_ne]; omega
  have t2 : ((k : Int) == 2) = false := by rw [beq_eq_false_iff_ne]; omega
  have t3 : ((k : Int) == 3) = false := by rw [beq_eq_false_iff_ne]; omega
  have t7 : ((k : Int) == 7) = false := by rw [beq_eq_false_iff_ne]; omega
  have t18 : ((k : Int) == 18) = false := by rw [beq_eq_false_iff_ne]; omega
  have t19 : ((k : Int) == 19) = false := by rw [beq_eq_false_iff_ne]; omega
  have t22 : ((k : Int) == 22) = false := by rw [beq_eq_false_iff_ne]; omega
  have t23 : ((k : Int) == 23) = false := by rw [beq_eq_false_iff_ne]; omega
  have t24 : ((k : Int) == 24) = false := by rw [beq_eq_false_iff_ne]; omega
  have t26 : ((k : Int) == 26) = false := by rw [beq_eq_false_iff_ne]; omega
  have t27 : ((k : Int) == 27) = false := by rw [beq_eq_false_iff_ne]; omega
  clear hR g0 g2 g3 g7 g18 g19 g22 g23 g24 g26 g27
  go_enter Tryd.func29, Tryd.ntmps29
  go_wp2
  go_ret
  exact ⟨fun _ => rfl, fun h => absurd trivial h, (Below.refl _ _).alloc (Nat.le_refl _) _⟩

/-- The bounds of a frame's own kind. -/
def KindP (f : PF) : Prop :=
  (f.kind = 0 → 1 ≤ f.n ∧ f.n ≤ 65536) ∧ (f.kind = 2 ∨ f.kind = 3 → OkR f.acks ∧ f.acks ≠ []) ∧ (f.kind = 7 → 0 < f.data.length) ∧ (f.kind = 18 ∨ f.kind = 19 ∨ f.kind = 22 ∨ f.kind = 23 → f.max ≤ 1152921504606846976) ∧
    (f.kind = 24 → 0 < f.cid.length ∧ f.cid.length ≤ 20 ∧ f.max ≤ f.id) ∧ (f.kind = 26 ∨ f.kind = 27 → f.data.length = 8)

theorem Told.congr {p q : Prop} {w : World} {e : Ending} {w' : World} (h : Told p w e w') (hpq : p ↔ q) : Told q w e w' :=
  ⟨fun hq => h.1 (hpq.2 hq), fun hq => h.2.1 (fun hp => hq (hpq.1 hp)), h.2.2⟩

theorem mayKind_any (R : Array Value) (f : PF) (a : SA) (w : World) (B : Nat) (hR : RowIs R f a) (hf : FrAt w B f a) (hB : B ≤ w.heap.size) :
    Calls Tryd.prog 29 #[.agg R] w (Told (KindP f) w) := by
  have hd : f.data.length ≤ 140737488355328 := hf.dl
  have hc : f.cid.length ≤ 140737488355328 := hf.cl
  by_cases hk : f.kind = 0
  · exact (kind_0 R f a w hR hk hd hc).mono fun e w' h => h.congr (by simp [KindP, hk])
  have g0 := hk
  clear hk
  by_cases hk : f.kind = 2
  · exact (kind_2 R f a w B hR hk hf hB).mono fun e w' h => h.congr (by simp [KindP, hk])
  have g2 := hk
  clear hk
  by_cases hk : f.kind = 3
  · exact (kind_3 R f a w B hR hk hf hB).mono fun e w' h => h.congr (by simp [KindP, hk])
  have g3 := hk
  clear hk
  by_cases hk : f.kind = 7
  · exact (kind_7 R f a w hR hk hd hc).mono fun e w' h => h.congr (by simp [KindP, hk])
  have g7 := hk
  clear hk
  by_cases hk : f.kind = 18
  · exact (kind_18 R f a w hR hk hd hc).mono fun e w' h => h.congr (by simp [KindP, hk])
  have g18 := hk
  clear hk
  by_cases hk : f.kind = 19
  · exact (kind_19 R f a w hR hk hd hc).mono fun e w' h => h.congr (by simp [KindP, hk])
  have g19 := hk
  clear hk
  by_cases hk : f.kind = 22
  · exact (kind_22 R f a w hR hk hd hc).mono fun e w' h => h.congr (by simp [KindP, hk])
  have g22 := hk
  clear hk
  by_cases hk : f.kind = 23
  · exact (kind_23 R f a w hR hk hd hc).mono fun e w' h => h.congr (by simp [KindP, hk])
  have g23 := hk
  clear hk
  by_cases hk : f.kind = 24
  · exact (kind_24 R f a w hR hk hd hc).mono fun e w' h => h.congr (by simp [KindP, hk])
  have g24 := hk
  clear hk
  by_cases hk : f.kind = 26
  · exact (kind_26 R f a w hR hk hd hc).mono fun e w' h => h.congr (by simp [KindP, hk])
  have g26 := hk
  clear hk
  by_cases hk : f.kind = 27
  · exact (kind_27 R f a w hR hk hd hc).mono fun e w' h => h.congr (by simp [KindP, hk])
  have g27 := hk
  clear hk
  exact (kind_else R f a w hR g0 g2 g3 g7 g18 g19 g22 g23 g24 g26 g27).mono fun e w' h => h.congr (by simp [KindP, g0, g2, g3, g7, g18, g19, g22, g23, g24, g26, g27])

end Go.Proofs.YtkkojhkglcigmaaDoor
