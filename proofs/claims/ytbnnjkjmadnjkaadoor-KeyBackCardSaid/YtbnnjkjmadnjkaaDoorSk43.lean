/-
  The walk through slices.DeleteFunc over three numbers of one block of memory, with pnum.around's test.
  The walks through pnum.Expand's comparison and slices.MinFunc over one, two or three numbers.
-/
import Derived.Lib.SliceRun
import Derived.Test.YtbnnjkjmadnjkaaDoorSk42
import Derived.Deep.QuietTactic
import Derived.Deep.RegionWith
namespace Go.Proofs.YtbnnjkjmadnjkaaDoor
section
open Go.RowKit
set_option linter.unusedVariables false

/-- A block of three cells. -/
def Three (w : World) (b : Nat) (v0 v1 v2 : Value) : Prop := w.heap[b]? = some (.cells #[v0, v1, v2] 25 (0, 0))

theorem Three.lt {w : World} {b : Nat} {v0 v1 v2 : Value} (h : Three w b v0 v1 v2) : b < w.heap.size := (Array.getElem?_eq_some_iff.1 h).1
theorem Three.c0 {w : World} {b : Nat} {v0 v1 v2 : Value} (h : Three w b v0 v1 v2) : w.cell? ⟨b, 0, none⟩ = some v0 := by simp [World.cell?, show w.heap[b]? = _ from h]
theorem Three.c1 {w : World} {b : Nat} {v0 v1 v2 : Value} (h : Three w b v0 v1 v2) : w.cell? ⟨b, 1, none⟩ = some v1 := by simp [World.cell?, show w.heap[b]? = _ from h]
theorem Three.c2 {w : World} {b : Nat} {v0 v1 v2 : Value} (h : Three w b v0 v1 v2) : w.cell? ⟨b, 2, none⟩ = some v2 := by simp [World.cell?, show w.heap[b]? = _ from h]
theorem Three.free {w : World} {b : Nat} {v0 v1 v2 : Value} (h : Three w b v0 v1 v2) (i : Nat) : w.frozen? ⟨b, i, none⟩ = false := by simp [World.frozen?, show w.heap[b]? = _ from h]
theorem Three.s0 {w : World} {b : Nat} {v0 v1 v2 : Value} (h : Three w b v0 v1 v2) (u : Value) : Three (w.setCell ⟨b, 0, none⟩ u) b u v1 v2 := by
  have hl := h.lt
  have he : w.heap[b] = .cells #[v0, v1, v2] 25 (0, 0) := by
    have := h
    rw [Three, Array.getElem?_eq_getElem hl] at this
    exact Option.some.inj this
  simp [Three, World.setCell, Array.getElem?_modify, Array.getElem?_eq_getElem hl, he]
theorem Three.s1 {w : World} {b : Nat} {v0 v1 v2 : Value} (h : Three w b v0 v1 v2) (u : Value) : Three (w.setCell ⟨b, 1, none⟩ u) b v0 u v2 := by
  have hl := h.lt
  have he : w.heap[b] = .cells #[v0, v1, v2] 25 (0, 0) := by
    have := h
    rw [Three, Array.getElem?_eq_getElem hl] at this
    exact Option.some.inj this
  simp [Three, World.setCell, Array.getElem?_modify, Array.getElem?_eq_getElem hl, he]
theorem Three.s2 {w : World} {b : Nat} {v0 v1 v2 : Value} (h : Three w b v0 v1 v2) (u : Value) : Three (w.setCell ⟨b, 2, none⟩ u) b v0 v1 u := by
  have hl := h.lt
  have he : w.heap[b] = .cells #[v0, v1, v2] 25 (0, 0) := by
    have := h
    rw [Three, Array.getElem?_eq_getElem hl] at this
    exact Option.some.inj this
  simp [Three, World.setCell, Array.getElem?_modify, Array.getElem?_eq_getElem hl, he]

set_option maxRecDepth 100000 in
theorem zero64 (w : World) : (zeroValue 25).run Tryd.prog w = .ok (.int .u64 0) w := by kernel_rfl

set_option maxRecDepth 100000 in
theorem Three.clear1 {w : World} {b : Nat} {v0 v1 v2 : Value} (h : Three w b v0 v1 v2) (ty : TypeId) (c : Nat) :
    (Builtin.clear_ #[72] ty #[.slice (some ⟨b, 2, none⟩) 1 c]).run Tryd.prog w = .ok (.tuple #[]) (w.setCell ⟨b, 2, none⟩ (.int .u64 0)) :=
  Lib.run_clear_slice w 72 25 ty (.int .u64 0) Tryd.underlying72 zero64 rfl rfl b 2 1 c (by decide)
    (fun j hj => by obtain rfl : j = 0 := by omega
                    rw [h.c2]; rfl) (fun j _ => h.free _)

set_option maxRecDepth 100000 in
theorem Three.clear2 {w : World} {b : Nat} {v0 v1 v2 : Value} (h : Three w b v0 v1 v2) (ty : TypeId) (c : Nat) :
    (Builtin.clear_ #[72] ty #[.slice (some ⟨b, 1, none⟩) 2 c]).run Tryd.prog w = .ok (.tuple #[]) ((w.setCell ⟨b, 1, none⟩ (.int .u64 0)).setCell ⟨b, 2, none⟩ (.int .u64 0)) :=
  Lib.run_clear_slice w 72 25 ty (.int .u64 0) Tryd.underlying72 zero64 rfl rfl b 1 2 c (by decide)
    (fun j hj => by have : j = 0 ∨ j = 1 := by omega
                    rcases this with rfl | rfl
                    · rw [h.c1]; rfl
                    · rw [show 1 + 1 = 2 from rfl, h.c2]; rfl) (fun j _ => h.free _)

set_option maxRecDepth 10000 in
set_option maxHeartbeats 800000 in
theorem del_ttt (b : Nat) (x0 x1 x2 : Int) (w : World) (hb : Three w b (.int .u64 x0) (.int .u64 x1) (.int .u64 x2)) (hx0 : x0 ≤ 4611686018427387903) (hx1 : x1 ≤ 4611686018427387903) (hx2 : x2 ≤ 4611686018427387903) :
    Calls Tryd.prog 52 #[.slice (some ⟨b, 0, none⟩) 3 3, .func (.func 53) #[] #[]] w fun e w' => e = .returned (.slice (some ⟨b, 0, none⟩) 3 3) ∧ Three w' b (.int .u64 x0) (.int .u64 x1) (.int .u64 x2) ∧ Below b w w' := by
  have h0 := hb.c0
  have h1 := hb.c1
  have h2 := hb.c2
  go_enter Tryd.func52, Tryd.ntmps52
  go_wp2_with (go_at_call 72; refine (index_n b x0 x1 x2 _ h0 h1 h2 hx0 hx1 hx2).mono ?_; rintro e w1 ⟨rfl, rfl⟩)
  go_ret
  exact ⟨rfl, hb, Below.refl _ _⟩

set_option maxRecDepth 10000 in
set_option maxHeartbeats 800000 in
theorem del_ftt (b : Nat) (x0 x1 x2 : Int) (w : World) (hb : Three w b (.int .u64 x0) (.int .u64 x1) (.int .u64 x2)) (hx0 : 4611686018427387903 < x0) (hx1 : x1 ≤ 4611686018427387903) (hx2 : x2 ≤ 4611686018427387903) :
    Calls Tryd.prog 52 #[.slice (some ⟨b, 0, none⟩) 3 3, .func (.func 53) #[] #[]] w fun e w' => e = .returned (.slice (some ⟨b, 0, none⟩) 2 3) ∧ Three w' b (.int .u64 x1) (.int .u64 x2) (.int .u64 0) ∧ Below b w w' := by
  have h0 := hb.c0
  have h1 := hb.c1
  have h2 := hb.c2
  have hcl := ((hb.s0 (.int .u64 x1)).s1 (.int .u64 x2)).clear1
  have hf0 := hb.free 0
  have hf1 := hb.free 1
  go_enter Tryd.func52, Tryd.ntmps52
  go_wp2_with (go_at_call 72; refine (index_0 b x0 x1 x2 _ h0 h1 h2 hx0).mono ?_; rintro e w1 ⟨rfl, rfl⟩)
  refine wp_loop_rounds 3 ?_
  rw [rounds_succ]
  go_wp2_with (go_at_call 53; refine (isAbove_no _ _ hx1).mono ?_; rintro e w1 ⟨rfl, rfl⟩)
  rw [rounds_succ]
  go_wp2_with (go_at_call 53; refine (isAbove_no _ _ hx2).mono ?_; rintro e w1 ⟨rfl, rfl⟩)
  rw [rounds_succ]
  go_wp2
  go_ret
  exact ⟨rfl, ((hb.s0 _).s1 _).s2 _, (((Below.refl _ _).setCell (p := ⟨b, 0, none⟩) (Nat.le_refl _) _).setCell (p := ⟨b, 1, none⟩) (Nat.le_refl _) _).setCell (p := ⟨b, 2, none⟩) (Nat.le_refl _) _⟩

set_option maxRecDepth 10000 in
set_option maxHeartbeats 800000 in
theorem del_ttf (b : Nat) (x0 x1 x2 : Int) (w : World) (hb : Three w b (.int .u64 x0) (.int .u64 x1) (.int .u64 x2)) (hx0 : x0 ≤ 4611686018427387903) (hx1 : x1 ≤ 4611686018427387903) (hx2 : 4611686018427387903 < x2) :
    Calls Tryd.prog 52 #[.slice (some ⟨b, 0, none⟩) 3 3, .func (.func 53) #[] #[]] w fun e w' => e = .returned (.slice (some ⟨b, 0, none⟩) 2 3) ∧ Three w' b (.int .u64 x0) (.int .u64 x1) (.int .u64 0) ∧ Below b w w' := by
  have h0 := hb.c0
  have h1 := hb.c1
  have h2 := hb.c2
  have hcl := hb.clear1
  have hf2 := hb.free 2
  go_enter Tryd.func52, Tryd.ntmps52
  go_wp2_with (go_at_call 72; refine (index_2 b x0 x1 x2 _ h0 h1 h2 hx0 hx1 hx2).mono ?_; rintro e w1 ⟨rfl, rfl⟩)
  refine wp_loop_rounds 1 ?_
  rw [rounds_succ]
  go_wp2
  go_ret
  exact ⟨rfl, hb.s2 _, (Below.refl _ _).setCell (p := ⟨b, 2, none⟩) (Nat.le_refl _) _⟩

set_option maxRecDepth 10000 in
set_option maxHeartbeats 800000 in
theorem del_ftf (b : Nat) (x0 x1 x2 : Int) (w : World) (hb : Three w b (.int .u64 x0) (.int .u64 x1) (.int .u64 x2)) (hx0 : 4611686018427387903 < x0) (hx1 : x1 ≤ 4611686018427387903) (hx2 : 4611686018427387903 < x2) :
    Calls Tryd.prog 52 #[.slice (some ⟨b, 0, none⟩) 3 3, .func (.func 53) #[] #[]] w fun e w' => e = .returned (.slice (some ⟨b, 0, none⟩) 1 3) ∧ Three w' b (.int .u64 x1) (.int .u64 0) (.int .u64 0) ∧ Below b w w' := by
  have h0 := hb.c0
  have h1 := hb.c1
  have h2 := hb.c2
  have hcl := (hb.s0 (.int .u64 x1)).clear2
  have hf0 := hb.free 0
  go_enter Tryd.func52, Tryd.ntmps52
  go_wp2_with (go_at_call 72; refine (index_0 b x0 x1 x2 _ h0 h1 h2 hx0).mono ?_; rintro e w1 ⟨rfl, rfl⟩)
  refine wp_loop_rounds 3 ?_
  rw [rounds_succ]
  go_wp2_with (go_at_call 53; refine (isAbove_no _ _ hx1).mono ?_; rintro e w1 ⟨rfl, rfl⟩)
  rw [rounds_succ]
  go_wp2_with (go_at_call 53; refine (isAbove_yes _ _ hx2).mono ?_; rintro e w1 ⟨rfl, rfl⟩)
  rw [rounds_succ]
  go_wp2
  go_ret
  exact ⟨rfl, ((hb.s0 _).s1 _).s2 _, (((Below.refl _ _).setCell (p := ⟨b, 0, none⟩) (Nat.le_refl _) _).setCell (p := ⟨b, 1, none⟩) (Nat.le_refl _) _).setCell (p := ⟨b, 2, none⟩) (Nat.le_refl _) _⟩
end

section
open Go.RowKit
set_option linter.unusedVariables false

set_option maxRecDepth 10000 in
set_option maxHeartbeats 400000 in
theorem byFar_any (a b x B F : Nat) (w : World) (ha : a < 18446744073709551616) (hb : b < 18446744073709551616) (hx : x < 18446744073709551616) (hB : w.cell? ⟨B, 0, none⟩ = some (.int .u64 (x : Int)))
    (hF : w.cell? ⟨F, 0, none⟩ = some (.func (.func 28) #[] #[.pointer (some ⟨B, 0, none⟩)])) :
    Calls Tryd.prog 31 #[.int .u64 (a : Int), .int .u64 (b : Int), .pointer (some ⟨F, 0, none⟩)] w fun e w' => e = .returned (.int .i64 (cmpN (farN a x) (farN b x))) ∧ ∃ m, w' = w.drewN m := by
  go_enter Tryd.func31, Tryd.ntmps31
  go_wp2_with fail
  go_quiet (first
    | (go_at_call_of 28 (Value.int .u64 (a : Int)); refine Calls.quiet_of_same ((far_any a x B _ ha hx (by simpa using hB)).mono fun _ _ h => ⟨h.1, h.2.symm⟩))
    | (go_at_call_of 28 (Value.int .u64 (b : Int)); refine Calls.quiet_of_same ((far_any b x B _ hb hx (by simpa using hB)).mono fun _ _ h => ⟨h.1, h.2.symm⟩))
    | (go_at_call 32; refine Calls.quiet_of_same ((cmp_any _ _ _).mono fun _ _ h => ⟨h.1, h.2.symm⟩)))
  go_wp2
  go_ret
  exact ⟨rfl, _, rfl⟩


/-- The nearer one of two, the first if they are as near. -/
def pick (x a b : Nat) : Nat := if farN b x < farN a x then b else a

theorem pick_yes {x a b : Nat} (h : farN b x < farN a x) : pick x a b = b := if_pos h
theorem pick_no {x a b : Nat} (h : ¬ farN b x < farN a x) : pick x a b = a := if_neg h
theorem pick_lt {x a b : Nat} (ha : a < 18446744073709551616) (hb : b < 18446744073709551616) : pick x a b < 18446744073709551616 := by unfold pick; split <;> assumption
theorem cmpN_yes {a b : Nat} (h : a < b) : cmpN a b < 0 := by rw [cmpN, if_pos h]; decide
theorem cmpN_no {a b : Nat} (h : ¬ a < b) : 0 ≤ cmpN a b := by rw [cmpN, if_neg h]; split <;> decide

set_option maxRecDepth 10000 in
set_option maxHeartbeats 400000 in
theorem min_1 (x0 x b B F : Nat) (w : World) (k0 : x0 < 18446744073709551616) (hx : x < 18446744073709551616) (h0 : w.cell? ⟨b, 0, none⟩ = some (.int .u64 (x0 : Int))) (hB : w.cell? ⟨B, 0, none⟩ = some (.int .u64 (x : Int)))
    (hF : w.cell? ⟨F, 0, none⟩ = some (.func (.func 28) #[] #[.pointer (some ⟨B, 0, none⟩)])) :
    Calls Tryd.prog 29 #[.slice (some ⟨b, 0, none⟩) 1 3, .func (.func 31) #[] #[.pointer (some ⟨F, 0, none⟩)]] w fun e w' => e = .returned (.int .u64 ((x0 : Nat) : Int)) ∧ ∃ m, w' = w.drewN m := by
  go_enter Tryd.func29, Tryd.ntmps29
  go_wp2_with fail
  refine wp_loop_rounds 1 ?_
  rw [rounds_succ]
  go_wp2
  go_ret
  exact ⟨rfl, 0, rfl⟩

set_option maxRecDepth 10000 in
set_option maxHeartbeats 400000 in
theorem min_2 (x0 x1 x b B F : Nat) (w : World) (k0 : x0 < 18446744073709551616) (k1 : x1 < 18446744073709551616) (hx : x < 18446744073709551616) (h0 : w.cell? ⟨b, 0, none⟩ = some (.int .u64 (x0 : Int))) (h1 : w.cell? ⟨b, 1, none⟩ = some (.int .u64 (x1 : Int))) (hB : w.cell? ⟨B, 0, none⟩ = some (.int .u64 (x : Int)))
    (hF : w.cell? ⟨F, 0, none⟩ = some (.func (.func 28) #[] #[.pointer (some ⟨B, 0, none⟩)])) :
    Calls Tryd.prog 29 #[.slice (some ⟨b, 0, none⟩) 2 3, .func (.func 31) #[] #[.pointer (some ⟨F, 0, none⟩)]] w fun e w' => e = .returned (.int .u64 ((pick x x0 x1 : Nat) : Int)) ∧ ∃ m, w' = w.drewN m := by
  by_cases g1 : farN x1 x < farN x0 x
  · have c1h := cmpN_yes g1
    rw [pick_yes g1]
    go_enter Tryd.func29, Tryd.ntmps29
    go_wp2_with fail
    refine wp_loop_rounds 2 ?_
    rw [rounds_succ]
    go_wp2_with (go_at_call 31; refine (byFar_any x1 x0 x B F _ k1 k0 hx (by simpa using hB) (by simpa using hF)).mono ?_; rintro e w1 ⟨rfl, q, rfl⟩; generalize cmpN (farN x1 x) (farN x0 x) = c1 at c1h)
    rw [rounds_succ]
    go_wp2
    go_ret
    exact ⟨rfl, _, rfl⟩
  · have c1h := cmpN_no g1
    rw [pick_no g1]
    go_enter Tryd.func29, Tryd.ntmps29
    go_wp2_with fail
    refine wp_loop_rounds 2 ?_
    rw [rounds_succ]
    go_wp2_with (go_at_call 31; refine (byFar_any x1 x0 x B F _ k1 k0 hx (by simpa using hB) (by simpa using hF)).mono ?_; rintro e w1 ⟨rfl, q, rfl⟩; generalize cmpN (farN x1 x) (farN x0 x) = c1 at c1h)
    rw [rounds_succ]
    go_wp2
    go_ret
    exact ⟨rfl, _, rfl⟩

set_option maxRecDepth 10000 in
set_option maxHeartbeats 400000 in
theorem min_3 (x0 x1 x2 x b B F : Nat) (w : World) (k0 : x0 < 18446744073709551616) (k1 : x1 < 18446744073709551616) (k2 : x2 < 18446744073709551616) (hx : x < 18446744073709551616) (h0 : w.cell? ⟨b, 0, none⟩ = some (.int .u64 (x0 : Int))) (h1 : w.cell? ⟨b, 1, none⟩ = some (.int .u64 (x1 : Int))) (h2 : w.cell? ⟨b, 2, none⟩ = some (.int .u64 (x2 : Int))) (hB : w.cell? ⟨B, 0, none⟩ = some (.int .u64 (x : Int)))
    (hF : w.cell? ⟨F, 0, none⟩ = some (.func (.func 28) #[] #[.pointer (some ⟨B, 0, none⟩)])) :
    Calls Tryd.prog 29 #[.slice (some ⟨b, 0, none⟩) 3 3, .func (.func 31) #[] #[.pointer (some ⟨F, 0, none⟩)]] w fun e w' => e = .returned (.int .u64 ((pick x (pick x x0 x1) x2 : Nat) : Int)) ∧ ∃ m, w' = w.drewN m := by
  by_cases g1 : farN x1 x < farN x0 x
  · have c1h := cmpN_yes g1
    rw [pick_yes g1]
    by_cases g2 : farN x2 x < farN x1 x
    · have c2h := cmpN_yes g2
      rw [pick_yes g2]
      go_enter Tryd.func29, Tryd.ntmps29
      go_wp2_with fail
      refine wp_loop_rounds 3 ?_
      rw [rounds_succ]
      go_wp2_with (go_at_call 31; refine (byFar_any x1 x0 x B F _ k1 k0 hx (by simpa using hB) (by simpa using hF)).mono ?_; rintro e w1 ⟨rfl, q, rfl⟩; generalize cmpN (farN x1 x) (farN x0 x) = c1 at c1h)
      rw [rounds_succ]
      go_wp2_with (go_at_call 31; refine (byFar_any x2 x1 x B F _ k2 k1 hx (by simpa using hB) (by simpa using hF)).mono ?_; rintro e w1 ⟨rfl, q, rfl⟩; generalize cmpN (farN x2 x) (farN x1 x) = c2 at c2h)
      rw [rounds_succ]
      go_wp2
      go_ret
      exact ⟨rfl, _, rfl⟩
    · have c2h := cmpN_no g2
      rw [pick_no g2]
      go_enter Tryd.func29, Tryd.ntmps29
      go_wp2_with fail
      refine wp_loop_rounds 3 ?_
      rw [rounds_succ]
      go_wp2_with (go_at_call 31; refine (byFar_any x1 x0 x B F _ k1 k0 hx (by simpa using hB) (by simpa using hF)).mono ?_; rintro e w1 ⟨rfl, q, rfl⟩; generalize cmpN (farN x1 x) (farN x0 x) = c1 at c1h)
      rw [rounds_succ]
      go_wp2_with (go_at_call 31; refine (byFar_any x2 x1 x B F _ k2 k1 hx (by simpa using hB) (by simpa using hF)).mono ?_; rintro e w1 ⟨rfl, q, rfl⟩; generalize cmpN (farN x2 x) (farN x1 x) = c2 at c2h)
      rw [rounds_succ]
      go_wp2
      go_ret
      exact ⟨rfl, _, rfl⟩
  · have c1h := cmpN_no g1
    rw [pick_no g1]
    by_cases g2 : farN x2 x < farN x0 x
    · have c2h := cmpN_yes g2
      rw [pick_yes g2]
      go_enter Tryd.func29, Tryd.ntmps29
      go_wp2_with fail
      refine wp_loop_rounds 3 ?_
      rw [rounds_succ]
      go_wp2_with (go_at_call 31; refine (byFar_any x1 x0 x B F _ k1 k0 hx (by simpa using hB) (by simpa using hF)).mono ?_; rintro e w1 ⟨rfl, q, rfl⟩; generalize cmpN (farN x1 x) (farN x0 x) = c1 at c1h)
      rw [rounds_succ]
      go_wp2_with (go_at_call 31; refine (byFar_any x2 x0 x B F _ k2 k0 hx (by simpa using hB) (by simpa using hF)).mono ?_; rintro e w1 ⟨rfl, q, rfl⟩; generalize cmpN (farN x2 x) (farN x0 x) = c2 at c2h)
      rw [rounds_succ]
      go_wp2
      go_ret
      exact ⟨rfl, _, rfl⟩
    · have c2h := cmpN_no g2
      rw [pick_no g2]
      go_enter Tryd.func29, Tryd.ntmps29
      go_wp2_with fail
      refine wp_loop_rounds 3 ?_
      rw [rounds_succ]
      go_wp2_with (go_at_call 31; refine (byFar_any x1 x0 x B F _ k1 k0 hx (by simpa using hB) (by simpa using hF)).mono ?_; rintro e w1 ⟨rfl, q, rfl⟩; generalize cmpN (farN x1 x) (farN x0 x) = c1 at c1h)
      rw [rounds_succ]
      go_wp2_with (go_at_call 31; refine (byFar_any x2 x0 x B F _ k2 k0 hx (by simpa using hB) (by simpa using hF)).mono ?_; rintro e w1 ⟨rfl, q, rfl⟩; generalize cmpN (farN x2 x) (farN x0 x) = c2 at c2h)
      rw [rounds_succ]
      go_wp2
      go_ret
      exact ⟨rfl, _, rfl⟩
end
end Go.Proofs.YtbnnjkjmadnjkaaDoor
