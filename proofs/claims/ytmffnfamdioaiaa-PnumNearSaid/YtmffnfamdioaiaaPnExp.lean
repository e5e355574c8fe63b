/-
  The walks through pnum.around and pnum.Expand, over the contracts of what they call.
-/
import Derived.Deep.QuietTactic
import Derived.Test.YtmffnfamdioaiaaPnDel
import Derived.Test.YtmffnfamdioaiaaPnMin
namespace Go.Proofs.Ytmffnfamdioaiaa
open Go.RowKit
set_option linter.unusedVariables false

/-- What around leaves: the first n of three numbers in a block of its own. -/
def ArGave (w : World) (n : Nat) (y0 y1 y2 : Int) (e : Ending) (w' : World) : Prop :=
  e = .returned (.slice (some ⟨w.heap.size, 0, none⟩) n 3) ∧ Three w' w.heap.size (.int .u64 y0) (.int .u64 y1) (.int .u64 y2) ∧ Below w.heap.size w w'

theorem below_drawn {B : Nat} {a w : World} (h : Below B a w) (n : Nat) : Below B a (w.drewN n) := h.trans ⟨rfl, rfl, rfl, Nat.le_refl _, fun _ _ => rfl⟩

theorem three_new (w : World) (v0 v1 v2 : Value) : Three (w.alloc (.cells #[v0, v1, v2] 22)) w.heap.size v0 v1 v2 := heap_alloc_new w _

set_option maxRecDepth 10000 in
set_option maxHeartbeats 400000 in
theorem around_of (b W x t a q r s c0 c2 : Int) (n : Nat) (y0 y1 y2 : Int) (w : World)
    (htold : ∀ w, Calls Try.prog 14 #[.int .i64 b] w fun e w' => e = .returned (.int .u64 W) ∧ w = w') (hW0 : W ≠ 0) (ha : x.tmod W = a) (hq : IntKind.u64.wrap (x - a) = q)
    (hr : t.tmod W = r) (hs : IntKind.u64.wrap (q + r) = s) (hc0 : IntKind.u64.wrap (s + W) = c0) (hc2 : IntKind.u64.wrap (s - W) = c2)
    (hdel : ∀ (g : Nat) w, Three w g (.int .u64 c0) (.int .u64 s) (.int .u64 c2) →
      Calls Try.prog 22 #[.slice (some ⟨g, 0, none⟩) 3 3, .func (.func 23) #[] #[]] w fun e w' => e = .returned (.slice (some ⟨g, 0, none⟩) n 3) ∧ Three w' g (.int .u64 y0) (.int .u64 y1) (.int .u64 y2) ∧ Below g w w') :
    Calls Try.prog 19 #[.int .u64 x, .int .u64 t, .int .i64 b] w (ArGave w n y0 y1 y2) := by
  go_enter Try.func19, Try.ntmps19
  go_wp2_with (go_at_call 14; refine (htold _).mono ?_; rintro e w1 ⟨rfl, rfl⟩)
  go_quiet (fail)
  go_wp2_with fail
  have h3 := three_new (w.drewN nq) (.int .u64 c0) (.int .u64 s) (.int .u64 c2)
  have hb0 : Below w.heap.size w ((w.drewN nq).alloc (.cells #[.int .u64 c0, .int .u64 s, .int .u64 c2] 22)) := (below_drawn (Below.refl _ _) nq).alloc (by simp) _
  refine (hdel w.heap.size _ (by simpa using h3)).mono ?_
  rintro e w1 ⟨rfl, h4, hb4⟩
  go_wp2
  go_ret
  exact ⟨rfl, h4, hb0.trans hb4⟩

/-- What stands behind the call of around in Expand, whose two variables are boxes. -/
theorem ar_after {w w3 : World} {n : Nat} {y0 y1 y2 : Int} {e : Ending} (y : Int)
    (h : ArGave ((w.alloc (.cells #[.int .u64 y] 22)).alloc (.cells #[.func (.func 17) #[] #[.pointer (some ⟨w.heap.size, 0, none⟩)]] 33)) n y0 y1 y2 e w3) :
    e = .returned (.slice (some ⟨w.heap.size + 1 + 1, 0, none⟩) n 3) ∧ Three w3 (w.heap.size + 1 + 1) (.int .u64 y0) (.int .u64 y1) (.int .u64 y2) ∧
    w3.cell? ⟨w.heap.size, 0, none⟩ = some (.int .u64 y) ∧ w3.cell? ⟨w.heap.size + 1, 0, none⟩ = some (.func (.func 17) #[] #[.pointer (some ⟨w.heap.size, 0, none⟩)]) ∧ Below w.heap.size w w3 := by
  have h1 : (w.alloc (.cells #[.int .u64 y] 22)).cell? ⟨w.heap.size, 0, none⟩ = some (.int .u64 y) := cell_of_one (heap_alloc_new w _)
  have h2 := Lib.cell?_alloc_some (.cells #[.func (.func 17) #[] #[.pointer (some ⟨w.heap.size, 0, none⟩)]] 33) h1
  have h3 := cell_of_one (heap_alloc_new (w.alloc (.cells #[.int .u64 y] 22)) (.cells #[.func (.func 17) #[] #[.pointer (some ⟨w.heap.size, 0, none⟩)]] 33))
  have hs1 : (w.alloc (.cells #[.int .u64 y] 22)).heap.size = w.heap.size + 1 := by simp
  have hb : Below w.heap.size w ((w.alloc (.cells #[.int .u64 y] 22)).alloc (.cells #[.func (.func 17) #[] #[.pointer (some ⟨w.heap.size, 0, none⟩)]] 33)) :=
    ((Below.refl _ _).alloc (Nat.le_refl _) _).alloc (by omega) _
  have hs2 : ((w.alloc (.cells #[.int .u64 y] 22)).alloc (.cells #[.func (.func 17) #[] #[.pointer (some ⟨w.heap.size, 0, none⟩)]] 33)).heap.size = w.heap.size + 1 + 1 := by simp
  rw [hs1] at h3
  generalize (w.alloc (.cells #[.int .u64 y] 22)).alloc (.cells #[.func (.func 17) #[] #[.pointer (some ⟨w.heap.size, 0, none⟩)]] 33) = w2 at *
  obtain ⟨he, h4, hb4⟩ := h
  rw [hs2] at he h4
  exact ⟨he, h4, (hb4.cell (p := ⟨w.heap.size, 0, none⟩) (by simp only; omega)).trans h2, (hb4.cell (p := ⟨w.heap.size + 1, 0, none⟩) (by simp only; omega)).trans h3, hb.trans (hb4.mono (by omega))⟩

set_option maxRecDepth 10000 in
set_option maxHeartbeats 800000 in
theorem expand_of (b : Int) (m x t : Nat) (n : Nat) (y0 y1 y2 R : Int) (w : World) (hx : x = min m 4611686018427387903)
    (hmay : ∀ w, Calls Try.prog 16 #[.int .i64 b] w fun e w' => e = .returned (.bool true) ∧ w = w')
    (hA : ∀ w, Calls Try.prog 19 #[.int .u64 (x : Int), .int .u64 (t : Int), .int .i64 b] w (ArGave w n y0 y1 y2))
    (hM : ∀ (g B F : Nat) w, Three w g (.int .u64 y0) (.int .u64 y1) (.int .u64 y2) → w.cell? ⟨B, 0, none⟩ = some (.int .u64 (x : Int)) → w.cell? ⟨F, 0, none⟩ = some (.func (.func 17) #[] #[.pointer (some ⟨B, 0, none⟩)]) →
      Calls Try.prog 18 #[.slice (some ⟨g, 0, none⟩) n 3, .func (.func 20) #[] #[.pointer (some ⟨F, 0, none⟩)]] w fun e w' => e = .returned (.int .u64 R) ∧ ∃ m, w' = w.drewN m) :
    Calls Try.prog 11 #[.int .u64 (m : Int), .int .u64 (t : Int), .int .i64 b] w fun e w' => e = .returned (.int .u64 R) ∧ Below w.heap.size w w' := by
  have hmf : ∀ (fn : Fn) (first cap : Array Value) (w : World), (Instr.makeFunc fn first cap).run Try.prog w = .ok (.func fn first cap) w := fun _ _ _ _ => rfl
  have hsf := fun (a : Addr) (c : Array Value) (w : World) => run_store Try.prog w a (.func (.func 17) #[] c) .plain rfl
  rcases Nat.lt_or_ge 4611686018427387903 m with h | h
  · have HX := Lib.hid (show ((x : Nat) : Int) = 4611686018427387903 by omega)
    have HA := Lib.hid (show ∀ w, Calls Try.prog 19 #[.int .u64 4611686018427387903, .int .u64 (t : Int), .int .i64 b] w (ArGave w n y0 y1 y2) from fun w' => by rw [← HX.out]; exact hA w')
    have HM0 := Lib.hid hM
    clear hM hA hx
    go_enter Try.func11, Try.ntmps11
    go_wp2_with (go_at_call 16; refine (hmay _).mono ?_; rintro e w1 ⟨rfl, rfl⟩)
    refine (HA.out _).mono ?_
    rintro e w3 hAr
    obtain ⟨rfl, h4, hcB3, hcF3, hb3⟩ := ar_after 4611686018427387903 hAr
    clear hAr
    have HB := Lib.hid hb3
    have HM := Lib.hid (HM0.out _ w.heap.size (w.heap.size + 1) w3 h4 (by rw [hcB3, HX.out]) hcF3)
    go_wp2_with (go_at_call 18; refine HM.out.mono ?_; rintro e w4 ⟨rfl, q, rfl⟩)
    go_ret
    exact ⟨rfl, below_drawn HB.out q⟩
  · have HX := Lib.hid (show ((x : Nat) : Int) = (m : Int) by omega)
    have HA := Lib.hid (show ∀ w, Calls Try.prog 19 #[.int .u64 (m : Int), .int .u64 (t : Int), .int .i64 b] w (ArGave w n y0 y1 y2) from fun w' => by rw [← HX.out]; exact hA w')
    have HM0 := Lib.hid hM
    clear hM hA hx
    go_enter Try.func11, Try.ntmps11
    go_wp2_with (go_at_call 16; refine (hmay _).mono ?_; rintro e w1 ⟨rfl, rfl⟩)
    refine (HA.out _).mono ?_
    rintro e w3 hAr
    obtain ⟨rfl, h4, hcB3, hcF3, hb3⟩ := ar_after (m : Int) hAr
    clear hAr
    have HB := Lib.hid hb3
    have HM := Lib.hid (HM0.out _ w.heap.size (w.heap.size + 1) w3 h4 (by rw [hcB3, HX.out]) hcF3)
    go_wp2_with (go_at_call 18; refine HM.out.mono ?_; rintro e w4 ⟨rfl, q, rfl⟩)
    go_ret
    exact ⟨rfl, below_drawn HB.out q⟩

end Go.Proofs.Ytmffnfamdioaiaa
