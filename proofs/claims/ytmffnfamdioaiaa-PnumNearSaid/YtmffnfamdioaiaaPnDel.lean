/-
  The walk through slices.DeleteFunc over three numbers of one block of memory, with pnum.around's test.
-/
import Derived.Lib.SliceRun
import Derived.Test.YtmffnfamdioaiaaPnClos
namespace Go.Proofs.Ytmffnfamdioaiaa
open Go.RowKit
set_option linter.unusedVariables false

/-- A block of three cells. -/
def Three (w : World) (b : Nat) (v0 v1 v2 : Value) : Prop := w.heap[b]? = some (.cells #[v0, v1, v2] 22 (0, 0))

theorem Three.lt {w : World} {b : Nat} {v0 v1 v2 : Value} (h : Three w b v0 v1 v2) : b < w.heap.size := (Array.getElem?_eq_some_iff.1 h).1
theorem Three.c0 {w : World} {b : Nat} {v0 v1 v2 : Value} (h : Three w b v0 v1 v2) : w.cell? ⟨b, 0, none⟩ = some v0 := by simp [World.cell?, show w.heap[b]? = _ from h]
theorem Three.c1 {w : World} {b : Nat} {v0 v1 v2 : Value} (h : Three w b v0 v1 v2) : w.cell? ⟨b, 1, none⟩ = some v1 := by simp [World.cell?, show w.heap[b]? = _ from h]
theorem Three.c2 {w : World} {b : Nat} {v0 v1 v2 : Value} (h : Three w b v0 v1 v2) : w.cell? ⟨b, 2, none⟩ = some v2 := by simp [World.cell?, show w.heap[b]? = _ from h]
theorem Three.free {w : World} {b : Nat} {v0 v1 v2 : Value} (h : Three w b v0 v1 v2) (i : Nat) : w.frozen? ⟨b, i, none⟩ = false := by simp [World.frozen?, show w.heap[b]? = _ from h]
theorem Three.s0 {w : World} {b : Nat} {v0 v1 v2 : Value} (h : Three w b v0 v1 v2) (u : Value) : Three (w.setCell ⟨b, 0, none⟩ u) b u v1 v2 := by
  have hl := h.lt
  have he : w.heap[b] = .cells #[v0, v1, v2] 22 (0, 0) := by
    have := h
    rw [Three, Array.getElem?_eq_getElem hl] at this
    exact Option.some.inj this
  simp [Three, World.setCell, Array.getElem?_modify, Array.getElem?_eq_getElem hl, he]
theorem Three.s1 {w : World} {b : Nat} {v0 v1 v2 : Value} (h : Three w b v0 v1 v2) (u : Value) : Three (w.setCell ⟨b, 1, none⟩ u) b v0 u v2 := by
  have hl := h.lt
  have he : w.heap[b] = .cells #[v0, v1, v2] 22 (0, 0) := by
    have := h
    rw [Three, Array.getElem?_eq_getElem hl] at this
    exact Option.some.inj this
  simp [Three, World.setCell, Array.getElem?_modify, Array.getElem?_eq_getElem hl, he]
theorem Three.s2 {w : World} {b : Nat} {v0 v1 v2 : Value} (h : Three w b v0 v1 v2) (u : Value) : Three (w.setCell ⟨b, 2, none⟩ u) b v0 v1 u := by
  have hl := h.lt
  have he : w.heap[b] = .cells #[v0, v1, v2] 22 (0, 0) := by
    have := h
    rw [Three, Array.getElem?_eq_getElem hl] at this
    exact Option.some.inj this
  simp [Three, World.setCell, Array.getElem?_modify, Array.getElem?_eq_getElem hl, he]

theorem zero64 (w : World) : (zeroValue 22).run Try.prog w = .ok (.int .u64 0) w := by rfl

theorem Three.clear1 {w : World} {b : Nat} {v0 v1 v2 : Value} (h : Three w b v0 v1 v2) (ty : TypeId) (c : Nat) :
    (Builtin.clear_ #[35] ty #[.slice (some ⟨b, 2, none⟩) 1 c]).run Try.prog w = .ok (.tuple #[]) (w.setCell ⟨b, 2, none⟩ (.int .u64 0)) :=
  Lib.run_clear_slice w 35 22 ty (.int .u64 0) Try.underlying35 zero64 rfl rfl b 2 1 c (by decide)
    (fun j hj => by obtain rfl : j = 0 := by omega
                    rw [h.c2]; rfl) (fun j _ => h.free _)

theorem Three.clear2 {w : World} {b : Nat} {v0 v1 v2 : Value} (h : Three w b v0 v1 v2) (ty : TypeId) (c : Nat) :
    (Builtin.clear_ #[35] ty #[.slice (some ⟨b, 1, none⟩) 2 c]).run Try.prog w = .ok (.tuple #[]) ((w.setCell ⟨b, 1, none⟩ (.int .u64 0)).setCell ⟨b, 2, none⟩ (.int .u64 0)) :=
  Lib.run_clear_slice w 35 22 ty (.int .u64 0) Try.underlying35 zero64 rfl rfl b 1 2 c (by decide)
    (fun j hj => by have : j = 0 ∨ j = 1 := by omega
                    rcases this with rfl | rfl
                    · rw [h.c1]; rfl
                    · rw [show 1 + 1 = 2 from rfl, h.c2]; rfl) (fun j _ => h.free _)

set_option maxRecDepth 10000 in
set_option maxHeartbeats 800000 in
theorem del_ttt (b : Nat) (x0 x1 x2 : Int) (w : World) (hb : Three w b (.int .u64 x0) (.int .u64 x1) (.int .u64 x2)) (hx0 : x0 ≤ 4611686018427387903) (hx1 : x1 ≤ 4611686018427387903) (hx2 : x2 ≤ 4611686018427387903) :
    Calls Try.prog 22 #[.slice (some ⟨b, 0, none⟩) 3 3, .func (.func 23) #[] #[]] w fun e w' => e = .returned (.slice (some ⟨b, 0, none⟩) 3 3) ∧ Three w' b (.int .u64 x0) (.int .u64 x1) (.int .u64 x2) ∧ Below b w w' := by
  have h0 := hb.c0
  have h1 := hb.c1
  have h2 := hb.c2
  go_enter Try.func22, Try.ntmps22
  go_wp2_with (go_at_call 25; refine (index_n b x0 x1 x2 _ h0 h1 h2 hx0 hx1 hx2).mono ?_; rintro e w1 ⟨rfl, rfl⟩)
  go_ret
  exact ⟨rfl, hb, Below.refl _ _⟩

set_option maxRecDepth 10000 in
set_option maxHeartbeats 800000 in
theorem del_ftt (b : Nat) (x0 x1 x2 : Int) (w : World) (hb : Three w b (.int .u64 x0) (.int .u64 x1) (.int .u64 x2)) (hx0 : 4611686018427387903 < x0) (hx1 : x1 ≤ 4611686018427387903) (hx2 : x2 ≤ 4611686018427387903) :
    Calls Try.prog 22 #[.slice (some ⟨b, 0, none⟩) 3 3, .func (.func 23) #[] #[]] w fun e w' => e = .returned (.slice (some ⟨b, 0, none⟩) 2 3) ∧ Three w' b (.int .u64 x1) (.int .u64 x2) (.int .u64 0) ∧ Below b w w' := by
  have h0 := hb.c0
  have h1 := hb.c1
  have h2 := hb.c2
  have hcl := ((hb.s0 (.int .u64 x1)).s1 (.int .u64 x2)).clear1
  have hf0 := hb.free 0
  have hf1 := hb.free 1
  go_enter Try.func22, Try.ntmps22
  go_wp2_with (go_at_call 25; refine (index_0 b x0 x1 x2 _ h0 h1 h2 hx0).mono ?_; rintro e w1 ⟨rfl, rfl⟩)
  refine wp_loop_rounds 3 ?_
  rw [rounds_succ]
  go_wp2_with (go_at_call 23; refine (isAbove_no _ _ hx1).mono ?_; rintro e w1 ⟨rfl, rfl⟩)
  rw [rounds_succ]
  go_wp2_with (go_at_call 23; refine (isAbove_no _ _ hx2).mono ?_; rintro e w1 ⟨rfl, rfl⟩)
  rw [rounds_succ]
  go_wp2
  go_ret
  exact ⟨rfl, ((hb.s0 _).s1 _).s2 _, (((Below.refl _ _).setCell (p := ⟨b, 0, none⟩) (Nat.le_refl _) _).setCell (p := ⟨b, 1, none⟩) (Nat.le_refl _) _).setCell (p := ⟨b, 2, none⟩) (Nat.le_refl _) _⟩

set_option maxRecDepth 10000 in
set_option maxHeartbeats 800000 in
theorem del_ttf (b : Nat) (x0 x1 x2 : Int) (w : World) (hb : Three w b (.int .u64 x0) (.int .u64 x1) (.int .u64 x2)) (hx0 : x0 ≤ 4611686018427387903) (hx1 : x1 ≤ 4611686018427387903) (hx2 : 4611686018427387903 < x2) :
    Calls Try.prog 22 #[.slice (some ⟨b, 0, none⟩) 3 3, .func (.func 23) #[] #[]] w fun e w' => e = .returned (.slice (some ⟨b, 0, none⟩) 2 3) ∧ Three w' b (.int .u64 x0) (.int .u64 x1) (.int .u64 0) ∧ Below b w w' := by
  have h0 := hb.c0
  have h1 := hb.c1
  have h2 := hb.c2
  have hcl := hb.clear1
  have hf2 := hb.free 2
  go_enter Try.func22, Try.ntmps22
  go_wp2_with (go_at_call 25; refine (index_2 b x0 x1 x2 _ h0 h1 h2 hx0 hx1 hx2).mono ?_; rintro e w1 ⟨rfl, rfl⟩)
  refine wp_loop_rounds 1 ?_
  rw [rounds_succ]
  go_wp2
  go_ret
  exact ⟨rfl, hb.s2 _, (Below.refl _ _).setCell (p := ⟨b, 2, none⟩) (Nat.le_refl _) _⟩

set_option maxRecDepth 10000 in
set_option maxHeartbeats 800000 in
theorem del_ftf (b : Nat) (x0 x1 x2 : Int) (w : World) (hb : Three w b (.int .u64 x0) (.int .u64 x1) (.int .u64 x2)) (hx0 : 4611686018427387903 < x0) (hx1 : x1 ≤ 4611686018427387903) (hx2 : 4611686018427387903 < x2) :
    Calls Try.prog 22 #[.slice (some ⟨b, 0, none⟩) 3 3, .func (.func 23) #[] #[]] w fun e w' => e = .returned (.slice (some ⟨b, 0, none⟩) 1 3) ∧ Three w' b (.int .u64 x1) (.int .u64 0) (.int .u64 0) ∧ Below b w w' := by
  have h0 := hb.c0
  have h1 := hb.c1
  have h2 := hb.c2
  have hcl := (hb.s0 (.int .u64 x1)).clear2
  have hf0 := hb.free 0
  go_enter Try.func22, Try.ntmps22
  go_wp2_with (go_at_call 25; refine (index_0 b x0 x1 x2 _ h0 h1 h2 hx0).mono ?_; rintro e w1 ⟨rfl, rfl⟩)
  refine wp_loop_rounds 3 ?_
  rw [rounds_succ]
  go_wp2_with (go_at_call 23; refine (isAbove_no _ _ hx1).mono ?_; rintro e w1 ⟨rfl, rfl⟩)
  rw [rounds_succ]
  go_wp2_with (go_at_call 23; refine (isAbove_yes _ _ hx2).mono ?_; rintro e w1 ⟨rfl, rfl⟩)
  rw [rounds_succ]
  go_wp2
  go_ret
  exact ⟨rfl, ((hb.s0 _).s1 _).s2 _, (((Below.refl _ _).setCell (p := ⟨b, 0, none⟩) (Nat.le_refl _) _).setCell (p := ⟨b, 1, none⟩) (Nat.le_refl _) _).setCell (p := ⟨b, 2, none⟩) (Nat.le_refl _) _⟩

end Go.Proofs.Ytmffnfamdioaiaa
