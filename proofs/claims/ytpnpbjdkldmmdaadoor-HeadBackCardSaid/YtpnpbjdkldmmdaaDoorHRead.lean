/-
  The walks through the small methods of head's reader: what it has is the whole datagram, a place in it, and whether it is bad.
-/
import Derived.Test.YtpnpbjdkldmmdaaDoorWh
import Derived.Test.YtpnpbjdkldmmdaaDoorTake
import Derived.Test.YtpnpbjdkldmmdaaDoorAppend
import Derived.Lib.SliceRun
import Derived.BigQuiet
namespace Go.Proofs.YtpnpbjdkldmmdaaDoor
open Go.RowKit
set_option linter.unusedVariables false

/-- What the reader's methods tell, at a place, or where it is bad. -/
def needS (s : Option Nat) (b : Bool) : Option Nat := if b then s else none
def takeS (l : List UInt8) (s : Option Nat) (n : Nat) : List UInt8 × Option Nat :=
  match s with
  | none => ([], none)
  | some a => if n ≤ l.length - a then ((l.drop a).take n, some (a + n)) else ([], none)
def octS (l : List UInt8) (s : Option Nat) : UInt8 × Option Nat :=
  match s with
  | none => (0, none)
  | some a => match l[a]? with
    | some x => (x, some (a + 1))
    | none => (0, none)
def numS (l : List UInt8) (s : Option Nat) : Nat × Option Nat :=
  match s with
  | none => (0, none)
  | some a => match tk (l.drop a) with
    | some (n, k) => (n, some (a + k))
    | none => (0, none)

/-- The reader's cells. -/
def rdC (A : Option Addr) (len c at_ : Nat) (bad : Bool) : Array Value := #[.slice A len c, .int .i64 (at_ : Int), .bool bad]

/-- The reader at block rb has the bytes l, which lie below block B, and is at a place, or bad. -/
structure Rd (w : World) (B rb : Nat) (l : List UInt8) (A : Option Addr) (len c at_ : Nat) (bad : Bool) (s : Option Nat) : Prop where
  wh : Wh w rb 58 (rdC A len c at_ bad)
  hl : l.length = len
  ha : at_ ≤ len
  hc : len ≤ c
  hm : c ≤ maxLen
  hs : Sl w B A l
  hB : B ≤ rb
  st : s = if bad then none else some at_

theorem Rd.c0 {w : World} {B rb : Nat} {l : List UInt8} {A : Option Addr} {len c at_ : Nat} {bad : Bool} {s : Option Nat} (h : Rd w B rb l A len c at_ bad s) : w.cell? ⟨rb, 0, none⟩ = some (.slice A len c) := h.wh.cell 0
theorem Rd.c1 {w : World} {B rb : Nat} {l : List UInt8} {A : Option Addr} {len c at_ : Nat} {bad : Bool} {s : Option Nat} (h : Rd w B rb l A len c at_ bad s) : w.cell? ⟨rb, 1, none⟩ = some (.int .i64 (at_ : Int)) := h.wh.cell 1
theorem Rd.c2 {w : World} {B rb : Nat} {l : List UInt8} {A : Option Addr} {len c at_ : Nat} {bad : Bool} {s : Option Nat} (h : Rd w B rb l A len c at_ bad s) : w.cell? ⟨rb, 2, none⟩ = some (.bool bad) := h.wh.cell 2

theorem Rd.grown {w w' : World} {B rb : Nat} {row : Option Nat} {l : List UInt8} {A : Option Addr} {len c at_ : Nat} {bad : Bool} {s : Option Nat} (h : Rd w B rb l A len c at_ bad s) (hb : w.grownBy w' row) (hr : some rb ≠ row) (hB : ∀ g, row = some g → B ≤ g) : Rd w' B rb l A len c at_ bad s := by
  have hlt := h.wh.lt
  have h5 := h.hB
  exact ⟨h.wh.grown hb hr, h.hl, h.ha, h.hc, h.hm, h.hs.keep (Nat.le_refl _) fun p hp => World.cell?_of_block (hb.block p.block (by omega) (fun e => by have := hB _ e.symm; omega)), h5, h.st⟩

theorem Rd.below {w w' : World} {B rb : Nat} {l : List UInt8} {A : Option Addr} {len c at_ : Nat} {bad : Bool} {s : Option Nat} (h : Rd w B rb l A len c at_ bad s) (hb : Below w.heap.size w w') : Rd w' B rb l A len c at_ bad s :=
  h.grown (row := none) (grown_below hb) (by simp) (fun g hg => by cases hg)

theorem Rd.setBad {w : World} {B rb : Nat} {l : List UInt8} {A : Option Addr} {len c at_ : Nat} {bad : Bool} {s : Option Nat} (h : Rd w B rb l A len c at_ bad s) (b : Bool) : Rd (w.setCell ⟨rb, 2, none⟩ (.bool b)) B rb l A len c at_ b (if b then none else some at_) := by
  have h5 := h.hB
  exact ⟨h.wh.put 2 _, h.hl, h.ha, h.hc, h.hm, h.hs.keep (Nat.le_refl _) fun p hp => World.cell?_setCell_other w ⟨rb, 2, none⟩ p _ (fun e => by subst e; simp at hp; omega), h5, rfl⟩

theorem Rd.setAt {w : World} {B rb : Nat} {l : List UInt8} {A : Option Addr} {len c at_ : Nat} {bad : Bool} {s : Option Nat} (h : Rd w B rb l A len c at_ bad s) (a : Nat) (ha : a ≤ len) (i : Int) (hi : i = (a : Int)) : Rd (w.setCell ⟨rb, 1, none⟩ (.int .i64 i)) B rb l A len c a bad (if bad then none else some a) := by
  subst hi
  have h5 := h.hB
  exact ⟨h.wh.put 1 _, h.hl, ha, h.hc, h.hm, h.hs.keep (Nat.le_refl _) fun p hp => World.cell?_setCell_other w ⟨rb, 1, none⟩ p _ (fun e => by subst e; simp at hp; omega), h5, rfl⟩

set_option maxRecDepth 10000 in
set_option maxHeartbeats 400000 in
theorem need_any (b : Bool) {w : World} {B rb : Nat} {l : List UInt8} {A : Option Addr} {len c at_ : Nat} {bad : Bool} {s : Option Nat} (h : Rd w B rb l A len c at_ bad s) :
    Calls Tryd.prog 41 #[.pointer (some ⟨rb, 0, none⟩), .bool b] w fun e w' => e = .returned (.tuple #[]) ∧ Rd w' B rb l A len c at_ (bad || !b) (needS s b) ∧ w.grownBy w' (some rb) := by
  have h2 := h.c2
  have hfz := h.wh.frozen 2
  have H := Lib.hid h
  clear h
  cases bad <;> cases b
  all_goals
    go_enter Tryd.func41, Tryd.ntmps41
    go_wp2
    go_end0
    refine ⟨rfl, ?_, grown_set _ _ _ _⟩
    have h := H.out.setBad
    have hst := H.out.st
    subst hst
    exact h _

set_option maxRecDepth 10000 in
set_option maxHeartbeats 400000 in
theorem left_any {w : World} {B rb : Nat} {l : List UInt8} {A : Option Addr} {len c at_ : Nat} {bad : Bool} {s : Option Nat} (h : Rd w B rb l A len c at_ bad s) :
    Calls Tryd.prog 54 #[.pointer (some ⟨rb, 0, none⟩)] w fun e w' => e = .returned (.int .u64 ((len - at_ : Nat) : Int)) ∧ w.grownBy w' none := by
  have h0 := h.c0
  have h1 := h.c1
  have ha := h.ha
  have hc := h.hc
  have hm := h.hm
  unfold maxLen at hm
  have e1 : ((len : Int) - (at_ : Int)) = ((len - at_ : Nat) : Int) := by omega
  clear h
  go_enter Tryd.func54, Tryd.ntmps54
  go_wp2_with fail
  go_quiet (fail)
  go_wp2
  go_ret
  exact ⟨rfl, grown_below (below_drewN (Below.refl _ _) _)⟩

set_option maxRecDepth 10000 in
set_option maxHeartbeats 400000 in
theorem cut_any (A : Option Addr) (len c a t : Nat) (i j : Int) (w : World) (hi : i = (a : Int)) (hj : j = (t : Int)) (hat : a ≤ t) (htl : t ≤ len) (hc : len ≤ c) (hm : c ≤ 9223372036854775807) :
    Calls Tryd.prog 26 #[.slice A len c, .int .i64 i, .int .i64 j] w fun e w' => e = .returned (if a = t then .slice none 0 0 else .slice (A.map fun x => x.add a) (t - a) (t - a)) ∧ w = w' := by
  subst hi hj
  by_cases h0 : a = t
  · subst h0
    go_enter Tryd.func26, Tryd.ntmps26
    go_wp2
    go_ret
    exact ⟨by simp, rfl⟩
  · have hne : ((a : Int) == (t : Int)) = false := by rw [beq_eq_false_iff_ne]; omega
    go_enter Tryd.func26, Tryd.ntmps26
    go_wp2
    go_ret
    exact ⟨by simp, rfl⟩

set_option maxRecDepth 10000 in
set_option maxHeartbeats 400000 in
theorem clone_nil (c : Nat) (w : World) : Calls Tryd.prog 25 #[.slice none 0 c] w fun e w' => e = .returned (.slice none 0 0) ∧ w = w' := by
  have hq : (binOp .eql 22 (.slice none 0 c) (.slice none 0 0)).run Tryd.prog w = .ok (.bool true) w := Lib.run_eql_slice_nil w _ _ _ _ _ _ _ Tryd.underlying22
  go_enter Tryd.func25, Tryd.ntmps25
  go_wp2
  go_ret
  exact ⟨rfl, rfl⟩

set_option maxRecDepth 10000 in
set_option maxHeartbeats 400000 in
theorem clone_some (p : Addr) (len c : Nat) (l : List UInt8) (w : World) (B : Nat) (hl : l.length = len) (hr : Sl w B (some p) l) (hB : B ≤ w.heap.size) (hlen : len ≤ 1073741824) :
    Calls Tryd.prog 25 #[.slice (some p) len c] w (Gave w l fun v => v) := by
  obtain ⟨i0, hi0, hz0, hz1, hz2⟩ := info_parts info8
  have HL := Lib.hid hl
  have HR : Hid (Sl (w.alloc (.cells #[] 5)) B (some p) l) := hr.keep (Nat.le_refl _) (fun q hq => World.cell?_alloc_lt w _ q (by omega))
  clear hl hr
  have hq : (binOp .eql 22 (.slice (some p) len c) (.slice none 0 0)).run Tryd.prog w = .ok (.bool false) w := Lib.run_eql_slice_nil w _ _ _ _ _ _ _ Tryd.underlying22
  go_enter Tryd.func25, Tryd.ntmps25
  go_wp2_with (at_builtin; refine wpList_append_sv _ rfl _ _ _ rfl w.heap.size 5 i0 _ 1 Tryd.underlying22 hi0 hz0 hz1 hz2 rfl (.slice (some ⟨w.heap.size, 0, none⟩) 0 0) 0 [] rfl (World.ownsRow_made w #[] 0 (Nat.le_refl _) (Nat.zero_le _) rfl) B _ _ _ _ rfl HR.out (by rw [List.length_map, HL.out]) (cell8_one l) (by unfold maxLen; omega) (by omega) (by simp) ?_; intro v1 w1 hown1 hg1 _)
  have hl : l.length = len := HL.out
  rw [Nat.zero_add, List.nil_append, ← hl] at hown1
  obtain ⟨A', c', rfl, q1, q2⟩ := own_form hown1
  go_ret
  exact ⟨A', c', rfl, q1, q2, hown1, ((Below.refl _ _).alloc (Nat.le_refl _) _).grown hg1 (by simp) (fun q hq => by simp [Value.ownBlock] at hq; omega)⟩

theorem clone_any (A : Option Addr) (len c : Nat) (l : List UInt8) (w : World) (B : Nat) (hl : l.length = len) (hr : Sl w B A l) (hB : B ≤ w.heap.size) (hlen : len ≤ 1073741824) :
    Calls Tryd.prog 25 #[.slice A len c] w (Gave w l fun v => v) := by
  rcases A with _ | p
  · have hn : l = [] := by
      cases l with
      | nil => rfl
      | cons u us =>
        obtain ⟨b, off, h, _⟩ := hr (by simp)
        cases h
    subst hn
    simp only [List.length_nil] at hl
    subst hl
    refine (clone_nil c w).mono ?_
    rintro e w' ⟨rfl, rfl⟩
    exact ⟨none, 0, rfl, Nat.le_refl _, Nat.zero_le _, ⟨rfl, .inl ⟨rfl, rfl⟩⟩, Below.refl _ _⟩
  · exact clone_some p len c l w B hl hr hB hlen

end Go.Proofs.YtpnpbjdkldmmdaaDoor
