/-
  Transport parameters: the document's own list of their numbers (hostlerref04.numbers).
-/
import Derived.Test.YtpnpbjdkldmmdaaDoorQGet
namespace Go.Proofs.YtpnpbjdkldmmdaaDoor
open Go.RowKit
set_option linter.unusedVariables false

/-- The numbers by what they are told by. -/
def numC (p : PQ) : Array Value := #[.int .u64 0, .int .u64 (p.idle : Int), .int .u64 0, .int .u64 0, .int .u64 (p.data : Int), .int .u64 (p.sOwn : Int), .int .u64 (p.sPeer : Int), .int .u64 (p.sUni : Int), .int .u64 (p.bidi : Int), .int .u64 (p.uni : Int), .int .u64 0, .int .u64 (p.ackD : Int), .int .u64 0, .int .u64 0, .int .u64 (p.cidL : Int), .int .u64 0]

theorem numC_at (p : PQ) (k : Nat) (hk : k < 16) : (numC p)[k]? = some (.int .u64 (p.num k : Int)) := by
  have ck : k = 0 ∨ k = 1 ∨ k = 2 ∨ k = 3 ∨ k = 4 ∨ k = 5 ∨ k = 6 ∨ k = 7 ∨ k = 8 ∨ k = 9 ∨ k = 10 ∨ k = 11 ∨ k = 12 ∨ k = 13 ∨ k = 14 ∨ k = 15 := by omega
  rcases ck with rfl | rfl | rfl | rfl | rfl | rfl | rfl | rfl | rfl | rfl | rfl | rfl | rfl | rfl | rfl | rfl <;> rfl

def NumGave (w : World) (p : PQ) (e : Ending) (w' : World) : Prop :=
  ∃ g, e = .returned (.slice (some ⟨g, 0, none⟩) 16 16) ∧ w.heap.size ≤ g ∧ Below w.heap.size w w' ∧ Wh w' g 23 (numC p)

set_option maxRecDepth 100000 in
set_option maxHeartbeats 800000 in
theorem numbers_any (R : Array Value) (A0 : Option Addr) (c0 : Nat) (A1 : Option Addr) (c1 : Nat) (p : PQ) (hR : R = prC A0 c0 A1 c1 p) (w : World) :
    Calls Tryd.prog 31 #[.agg R] w (NumGave w p) := by
  have hW : Wh (w.alloc (.cells R 43)) w.heap.size 43 (prC A0 c0 A1 c1 p) := by rw [← hR]; exact Wh.new _ _ _
  have e2 : (w.alloc (.cells R 43)).cell? ⟨w.heap.size, 2, none⟩ = some (.int .u64 (p.idle : Int)) := by rw [hW.cell]; simp [prC]
  have e3 : (w.alloc (.cells R 43)).cell? ⟨w.heap.size, 3, none⟩ = some (.int .u64 (p.data : Int)) := by rw [hW.cell]; simp [prC]
  have e4 : (w.alloc (.cells R 43)).cell? ⟨w.heap.size, 4, none⟩ = some (.int .u64 (p.sOwn : Int)) := by rw [hW.cell]; simp [prC]
  have e5 : (w.alloc (.cells R 43)).cell? ⟨w.heap.size, 5, none⟩ = some (.int .u64 (p.sPeer : Int)) := by rw [hW.cell]; simp [prC]
  have e6 : (w.alloc (.cells R 43)).cell? ⟨w.heap.size, 6, none⟩ = some (.int .u64 (p.sUni : Int)) := by rw [hW.cell]; simp [prC]
  have e7 : (w.alloc (.cells R 43)).cell? ⟨w.heap.size, 7, none⟩ = some (.int .u64 (p.bidi : Int)) := by rw [hW.cell]; simp [prC]
  have e8 : (w.alloc (.cells R 43)).cell? ⟨w.heap.size, 8, none⟩ = some (.int .u64 (p.uni : Int)) := by rw [hW.cell]; simp [prC]
  have e9 : (w.alloc (.cells R 43)).cell? ⟨w.heap.size, 9, none⟩ = some (.int .u64 (p.ackD : Int)) := by rw [hW.cell]; simp [prC]
  have e10 : (w.alloc (.cells R 43)).cell? ⟨w.heap.size, 10, none⟩ = some (.int .u64 (p.cidL : Int)) := by rw [hW.cell]; simp [prC]
  have hb : Below w.heap.size w ((w.alloc (.cells R 43)).alloc (.cells (numC p) 23)) := ((Below.refl _ _).alloc (Nat.le_refl _) _).alloc (by simp) _
  have hN := Wh.new (w.alloc (.cells R 43)) 23 (numC p)
  have hz : (w.alloc (.cells R 43)).heap.size = w.heap.size + 1 := by simp
  rw [hz] at hN
  have HB := Lib.hid hb
  have HN := Lib.hid hN
  clear hR hW hb hN hz
  go_enter Tryd.func31, Tryd.ntmps31
  go_wp2
  go_ret
  exact ⟨w.heap.size + 1, rfl, by omega, HB.out, HN.out⟩

end Go.Proofs.YtpnpbjdkldmmdaaDoor
