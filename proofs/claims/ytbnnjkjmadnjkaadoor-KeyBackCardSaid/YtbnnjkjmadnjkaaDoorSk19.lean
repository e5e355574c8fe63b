/-
  The walks through the small methods of head's reader: what it has is the whole datagram, a place in it, and whether it is bad.
  The walks through the other methods of head's reader: take, octet, number, space, id.
-/
import Derived.Test.YtbnnjkjmadnjkaaDoorSk3
import Derived.Test.YtbnnjkjmadnjkaaDoorSk18
import Derived.Lib.SliceRun
import Derived.BigQuiet
namespace Go.Proofs.YtbnnjkjmadnjkaaDoor
section
open Go.RowKit
set_option linter.unusedVariables false

/-- What the reader's methods tell, at a place, or where it is bad. -/
def needS (s : Option Nat) (b : Bool) : Option Nat := if b then s else none
def hTakeS (l : List UInt8) (s : Option Nat) (n : Nat) : List UInt8 × Option Nat :=
  match s with
  | none => ([], none)
  | some a => if n ≤ l.length - a then ((l.drop a).take n, some (a + n)) else ([], none)
def octS (l : List UInt8) (s : Option Nat) : UInt8 × Option Nat :=
  match s with
  | none => (0, none)
  | some a => match l[a]? with
    | some x => (x, some (a + 1))
    | none => (0, none)
def numS (l : List UInt8) (s : Option Nat) : Nat × Option Nat :=
  match s with
  | none => (0, none)
  | some a => match tk (l.drop a) with
    | some (n, k) => (n, some (a + k))
    | none => (0, none)

/-- The reader's cells. -/
def rdC (A : Option Addr) (len c at_ : Nat) (bad : Bool) : Array Value := #[.slice A len c, .int .i64 (at_ : Int), .bool bad]

/-- The reader at block rb has the bytes l, which lie below block B, and is at a place, or bad. -/
structure Rd (w : World) (B rb : Nat) (l : List UInt8) (A : Option Addr) (len c at_ : Nat) (bad : Bool) (s : Option Nat) : Prop where
  wh : Wh w rb 61 (rdC A len c at_ bad)
  hl : l.length = len
  ha : at_ ≤ len
  hc : len ≤ c
  hm : c ≤ maxLen
  hs : Sl w B A l
  hB : B ≤ rb
  st : s = if bad then none else some at_

theorem Rd.c0 {w : World} {B rb : Nat} {l : List UInt8} {A : Option Addr} {len c at_ : Nat} {bad : Bool} {s : Option Nat} (h : Rd w B rb l A len c at_ bad s) : w.cell? ⟨rb, 0, none⟩ = some (.slice A len c) := h.wh.cell 0
theorem Rd.c1 {w : World} {B rb : Nat} {l : List UInt8} {A : Option Addr} {len c at_ : Nat} {bad : Bool} {s : Option Nat} (h : Rd w B rb l A len c at_ bad s) : w.cell? ⟨rb, 1, none⟩ = some (.int .i64 (at_ : Int)) := h.wh.cell 1
theorem Rd.c2 {w : World} {B rb : Nat} {l : List UInt8} {A : Option Addr} {len c at_ : Nat} {bad : Bool} {s : Option Nat} (h : Rd w B rb l A len c at_ bad s) : w.cell? ⟨rb, 2, none⟩ = some (.bool bad) := h.wh.cell 2

theorem Rd.grown {w w' : World} {B rb : Nat} {row : Option Nat} {l : List UInt8} {A : Option Addr} {len c at_ : Nat} {bad : Bool} {s : Option Nat} (h : Rd w B rb l A len c at_ bad s) (hb : w.grownBy w' row) (hr : some rb ≠ row) (hB : ∀ g, row = some g → B ≤ g) : Rd w' B rb l A len c at_ bad s := by
  have hlt := h.wh.lt
  have h5 := h.hB
  exact ⟨h.wh.grown hb hr, h.hl, h.ha, h.hc, h.hm, h.hs.keep (Nat.le_refl _) fun p hp => World.cell?_of_block (hb.block p.block (by omega) (fun e => by have := hB _ e.symm; omega)), h5, h.st⟩

theorem Rd.below {w w' : World} {B rb : Nat} {l : List UInt8} {A : Option Addr} {len c at_ : Nat} {bad : Bool} {s : Option Nat} (h : Rd w B rb l A len c at_ bad s) (hb : Below w.heap.size w w') : Rd w' B rb l A len c at_ bad s :=
  h.grown (row := none) (grown_below hb) (by simp) (fun g hg => by cases hg)

theorem Rd.setBad {w : World} {B rb : Nat} {l : List UInt8} {A : Option Addr} {len c at_ : Nat} {bad : Bool} {s : Option Nat} (h : Rd w B rb l A len c at_ bad s) (b : Bool) : Rd (w.setCell ⟨rb, 2, none⟩ (.bool b)) B rb l A len c at_ b (if b then none else some at_) := by
  have h5 := h.hB
  exact ⟨h.wh.put 2 _, h.hl, h.ha, h.hc, h.hm, h.hs.keep (Nat.le_refl _) fun p hp => World.cell?_setCell_other w ⟨rb, 2, none⟩ p _ (fun e => by subst e; simp at hp; omega), h5, rfl⟩

theorem Rd.setAt {w : World} {B rb : Nat} {l : List UInt8} {A : Option Addr} {len c at_ : Nat} {bad : Bool} {s : Option Nat} (h : Rd w B rb l A len c at_ bad s) (a : Nat) (ha : a ≤ len) (i : Int) (hi : i = (a : Int)) : Rd (w.setCell ⟨rb, 1, none⟩ (.int .i64 i)) B rb l A len c a bad (if bad then none else some a) := by
  subst hi
  have h5 := h.hB
  exact ⟨h.wh.put 1 _, h.hl, ha, h.hc, h.hm, h.hs.keep (Nat.le_refl _) fun p hp => World.cell?_setCell_other w ⟨rb, 1, none⟩ p _ (fun e => by subst e; simp at hp; omega), h5, rfl⟩

set_option maxRecDepth 10000 in
set_option maxHeartbeats 400000 in
theorem need_any (b : Bool) {w : World} {B rb : Nat} {l : List UInt8} {A : Option Addr} {len c at_ : Nat} {bad : Bool} {s : Option Nat} (h : Rd w B rb l A len c at_ bad s) :
    Calls Tryd.prog 45 #[.pointer (some ⟨rb, 0, none⟩), .bool b] w fun e w' => e = .returned (.tuple #[]) ∧ Rd w' B rb l A len c at_ (bad || !b) (needS s b) ∧ w.grownBy w' (some rb) := by
  have h2 := h.c2
  have hfz := h.wh.frozen 2
  have H := Lib.hid h
  clear h
  cases bad <;> cases b
  all_goals
    go_enter Tryd.func45, Tryd.ntmps45
    go_wp2
    go_end0
    refine ⟨rfl, ?_, grown_set _ _ _ _⟩
    have h := H.out.setBad
    have hst := H.out.st
    subst hst
    exact h _

set_option maxRecDepth 10000 in
set_option maxHeartbeats 400000 in
theorem left_any {w : World} {B rb : Nat} {l : List UInt8} {A : Option Addr} {len c at_ : Nat} {bad : Bool} {s : Option Nat} (h : Rd w B rb l A len c at_ bad s) :
    Calls Tryd.prog 70 #[.pointer (some ⟨rb, 0, none⟩)] w fun e w' => e = .returned (.int .u64 ((len - at_ : Nat) : Int)) ∧ w.grownBy w' none := by
  have h0 := h.c0
  have h1 := h.c1
  have ha := h.ha
  have hc := h.hc
  have hm := h.hm
  unfold maxLen at hm
  have e1 : ((len : Int) - (at_ : Int)) = ((len - at_ : Nat) : Int) := by omega
  clear h
  go_enter Tryd.func70, Tryd.ntmps70
  go_wp2_with fail
  go_quiet (fail)
  go_wp2
  go_ret
  exact ⟨rfl, grown_below (below_drewN (Below.refl _ _) _)⟩

set_option maxRecDepth 10000 in
set_option maxHeartbeats 400000 in
theorem cut_any (A : Option Addr) (len c a t : Nat) (i j : Int) (w : World) (hi : i = (a : Int)) (hj : j = (t : Int)) (hat : a ≤ t) (htl : t ≤ len) (hc : len ≤ c) (hm : c ≤ 9223372036854775807) :
    Calls Tryd.prog 23 #[.slice A len c, .int .i64 i, .int .i64 j] w fun e w' => e = .returned (if a = t then .slice none 0 0 else .slice (A.map fun x => x.add a) (t - a) (t - a)) ∧ w = w' := by
  subst hi hj
  by_cases h0 : a = t
  · subst h0
    go_enter Tryd.func23, Tryd.ntmps23
    go_wp2
    go_ret
    exact ⟨by simp, rfl⟩
  · have hne : ((a : Int) == (t : Int)) = false := by rw [beq_eq_false_iff_ne]; omega
    go_enter Tryd.func23, Tryd.ntmps23
    go_wp2
    go_ret
    exact ⟨by simp, rfl⟩

set_option maxRecDepth 10000 in
set_option maxHeartbeats 400000 in
theorem clone_nil (c : Nat) (w : World) : Calls Tryd.prog 22 #[.slice none 0 c] w fun e w' => e = .returned (.slice none 0 0) ∧ w = w' := by
  have hq : (binOp .eql 28 (.slice none 0 c) (.slice none 0 0)).run Tryd.prog w = .ok (.bool true) w := Lib.run_eql_slice_nil w _ _ _ _ _ _ _ Tryd.underlying28
  go_enter Tryd.func22, Tryd.ntmps22
  go_wp2
  go_ret
  exact ⟨rfl, rfl⟩

set_option maxRecDepth 10000 in
set_option maxHeartbeats 400000 in
theorem clone_some (p : Addr) (len c : Nat) (l : List UInt8) (w : World) (B : Nat) (hl : l.length = len) (hr : Sl w B (some p) l) (hB : B ≤ w.heap.size) (hlen : len ≤ 1073741824) :
    Calls Tryd.prog 22 #[.slice (some p) len c] w (Gave w l fun v => v) := by
  obtain ⟨i0, hi0, hz0, hz1, hz2⟩ := info_parts info8V
  have HL := Lib.hid hl
  have HR : Hid (Sl (w.alloc (.cells #[] 5)) B (some p) l) := hr.keep (Nat.le_refl _) (fun q hq => World.cell?_alloc_lt w _ q (by omega))
  clear hl hr
  have hq : (binOp .eql 28 (.slice (some p) len c) (.slice none 0 0)).run Tryd.prog w = .ok (.bool false) w := Lib.run_eql_slice_nil w _ _ _ _ _ _ _ Tryd.underlying28
  go_enter Tryd.func22, Tryd.ntmps22
  go_wp2_with (at_builtin; refine wpList_append_sv _ rfl _ _ _ rfl w.heap.size 5 i0 _ 1 Tryd.underlying28 hi0 hz0 hz1 hz2 rfl (.slice (some ⟨w.heap.size, 0, none⟩) 0 0) 0 [] rfl (World.ownsRow_made w #[] 0 (Nat.le_refl _) (Nat.zero_le _) rfl) B _ _ _ _ rfl HR.out (by rw [List.length_map, HL.out]) (cell8_one l) (by unfold maxLen; omega) (by omega) (by simp) ?_; intro v1 w1 hown1 hg1 _)
  have hl : l.length = len := HL.out
  rw [Nat.zero_add, List.nil_append, ← hl] at hown1
  obtain ⟨A', c', rfl, q1, q2⟩ := own_form hown1
  go_ret
  exact ⟨A', c', rfl, q1, q2, hown1, ((Below.refl _ _).alloc (Nat.le_refl _) _).grown hg1 (by simp) (fun q hq => by simp [Value.ownBlock] at hq; omega)⟩

theorem clone_any (A : Option Addr) (len c : Nat) (l : List UInt8) (w : World) (B : Nat) (hl : l.length = len) (hr : Sl w B A l) (hB : B ≤ w.heap.size) (hlen : len ≤ 1073741824) :
    Calls Tryd.prog 22 #[.slice A len c] w (Gave w l fun v => v) := by
  rcases A with _ | p
  · have hn : l = [] := by
      cases l with
      | nil => rfl
      | cons u us =>
        obtain ⟨b, off, h, _⟩ := hr (by simp)
        cases h
    subst hn
    simp only [List.length_nil] at hl
    subst hl
    refine (clone_nil c w).mono ?_
    rintro e w' ⟨rfl, rfl⟩
    exact ⟨none, 0, rfl, Nat.le_refl _, Nat.zero_le _, ⟨rfl, .inl ⟨rfl, rfl⟩⟩, Below.refl _ _⟩
  · exact clone_some p len c l w B hl hr hB hlen
end

section
open Go.RowKit
set_option linter.unusedVariables false

/-- What a method answers: bytes, and where the reader is. -/
def HGaveS (w : World) (B rb : Nat) (l : List UInt8) (A : Option Addr) (len c : Nat) (xs : List UInt8) (s' : Option Nat) (e : Ending) (w' : World) : Prop :=
  ∃ A' c' at' bad', e = .returned (.slice A' xs.length c') ∧ xs.length ≤ c' ∧ c' ≤ maxLen ∧ Sx w' rb A' (xs.map cell8) ∧ Rd w' B rb l A len c at' bad' s' ∧ w.grownBy w' (some rb)

def HGaveN (w : World) (B rb : Nat) (l : List UInt8) (A : Option Addr) (len c : Nat) (n : Nat) (s' : Option Nat) (e : Ending) (w' : World) : Prop :=
  ∃ at' bad', e = .returned (.int .u64 (n : Int)) ∧ Rd w' B rb l A len c at' bad' s' ∧ w.grownBy w' (some rb)

def HGaveB (w : World) (B rb : Nat) (l : List UInt8) (A : Option Addr) (len c : Nat) (n : Nat) (s' : Option Nat) (e : Ending) (w' : World) : Prop :=
  ∃ at' bad', e = .returned (.int .u8 (n : Int)) ∧ Rd w' B rb l A len c at' bad' s' ∧ w.grownBy w' (some rb)

set_option maxRecDepth 10000 in
set_option maxHeartbeats 400000 in
theorem take_bad (n : Nat) {w : World} {B rb : Nat} {l : List UInt8} {A : Option Addr} {len c at_ : Nat} {bad : Bool} {s : Option Nat} (h : Rd w B rb l A len c at_ bad s)
    (hb : (bad || !decide (n ≤ len - at_)) = true) :
    Calls Tryd.prog 48 #[.pointer (some ⟨rb, 0, none⟩), .int .u64 (n : Int)] w (HGaveS w B rb l A len c [] none) := by
  have HR := Lib.hid h
  have HB := Lib.hid hb
  clear h hb
  go_enter Tryd.func48, Tryd.ntmps48
  go_wp2_with fail
  refine (left_any HR.out).mono ?_
  rintro e w1 ⟨rfl, hg1⟩
  have HR1 := Lib.hid (HR.out.grown hg1 (by simp) (by simp))
  go_wp2_with fail
  refine (need_any _ HR1.out).mono ?_
  rintro e w2 ⟨rfl, hr2, hg2⟩
  rw [HB.out] at hr2
  have h2 := hr2.c2
  have HR2 := Lib.hid hr2
  clear hr2
  go_wp2
  go_ret
  refine ⟨none, 0, at_, true, rfl, Nat.le_refl _, Nat.zero_le _, Sx.nil _ _ _, ?_, grown_trans ⟨hg1.os, hg1.tape, hg1.output, hg1.size, fun k hk _ => hg1.block k hk (by simp)⟩ hg2⟩
  have h := HR2.out
  exact ⟨h.wh, h.hl, h.ha, h.hc, h.hm, h.hs, h.hB, rfl⟩

set_option maxRecDepth 10000 in
set_option maxHeartbeats 400000 in
theorem take_good (n : Nat) {w : World} {B rb : Nat} {l : List UInt8} {A : Option Addr} {len c at_ : Nat} {s : Option Nat} (h : Rd w B rb l A len c at_ false s) (hn : n ≤ len - at_) :
    Calls Tryd.prog 48 #[.pointer (some ⟨rb, 0, none⟩), .int .u64 (n : Int)] w (HGaveS w B rb l A len c ((l.drop at_).take n) (some (at_ + n))) := by
  have ha := h.ha
  have hc := h.hc
  have hm := h.hm
  have HL := Lib.hid h.hl
  have HR := Lib.hid h
  unfold maxLen at hm
  clear h
  go_enter Tryd.func48, Tryd.ntmps48
  go_wp2_with fail
  refine (left_any HR.out).mono ?_
  rintro e w1 ⟨rfl, hg1⟩
  have HR1 := Lib.hid (HR.out.grown hg1 (by simp) (by simp))
  go_wp2_with fail
  refine (need_any _ HR1.out).mono ?_
  rintro e w2 ⟨rfl, hr2, hg2⟩
  have h2 := hr2.c2
  have h1 := hr2.c1
  have h0 := hr2.c0
  have hz1 := hr2.wh.frozen 1
  simp only [Bool.not_true, Bool.or_false] at h2
  have hr3 := hr2.setAt (at_ + n) (by omega) ((at_ : Int) + (n : Int)) (by omega)
  have h01 := hr3.c0
  have h11 : (w2.setCell ⟨rb, 1, none⟩ (.int .i64 ((at_ : Int) + (n : Int)))).cell? ⟨rb, 1, none⟩ = some (.int .i64 ((at_ : Int) + (n : Int))) := by rw [hr3.c1]; congr 2
  have HR3 := Lib.hid hr3
  clear hr2 hr3
  go_wp2_with fail
  have hg3 := grown_set w2 rb 1 (.int .i64 ((at_ : Int) + (n : Int)))
  generalize w2.setCell ⟨rb, 1, none⟩ (.int .i64 ((at_ : Int) + (n : Int))) = w3 at *
  have hcut : ∀ w', Calls Tryd.prog 23 #[.slice A len c, .int .i64 (at_ : Int), .int .i64 ((at_ : Int) + (n : Int))] w' fun e w'' => e = .returned (if at_ = at_ + n then .slice none 0 0 else .slice (A.map fun x => x.add at_) (at_ + n - at_) (at_ + n - at_)) ∧ w'' = w' := fun w' =>
    (cut_any A len c at_ (at_ + n) _ _ w' rfl (by omega) (by omega) (by omega) hc (by omega)).mono fun e w'' h => ⟨h.1, h.2.symm⟩
  obtain ⟨V, HV⟩ : ∃ V, Hid (V = if at_ = at_ + n then Value.slice none 0 0 else .slice (A.map fun x => x.add at_) (at_ + n - at_) (at_ + n - at_)) := ⟨_, Lib.hid rfl⟩
  rw [← HV.out] at hcut
  go_quiet (first
    | (go_at_call 23; exact Calls.quiet_of_same (hcut _)))
  go_wp2
  have hg4 : w.grownBy (w3.drewN nq) (some rb) := grown_drewN (grown_trans (grown_trans ⟨hg1.os, hg1.tape, hg1.output, hg1.size, fun k hk _ => hg1.block k hk (by simp)⟩ hg2) hg3) nq
  have hr4 := HR3.out.below (w' := w3.drewN nq) (below_drewN (Below.refl _ _) _)
  have hlen : ((l.drop at_).take n).length = n := by rw [List.length_take, List.length_drop, HL.out]; omega
  have hv := HV.out
  go_ret
  by_cases h0 : n = 0
  · subst h0
    rw [if_pos (by omega)] at hv
    subst hv
    exact ⟨none, 0, at_ + 0, false, by rw [List.take_zero]; rfl, by simp, Nat.zero_le _, by rw [List.take_zero]; exact Sx.nil _ _ _, hr4, hg4⟩
  · rw [if_neg (by omega), show at_ + n - at_ = n by omega] at hv
    subst hv
    refine ⟨_, n, at_ + n, false, by rw [hlen]; rfl, by rw [hlen]; exact Nat.le_refl _, by unfold maxLen; omega, ?_, hr4, hg4⟩
    have hsx := Sx.of hr4.hs hr4.hB hr4.wh.lt
    intro hn0
    obtain ⟨b, off, hA, hb, hne, hcell⟩ := hsx (by rintro h; rw [List.map_eq_nil_iff] at h; subst h; simp at hn0)
    subst hA
    refine ⟨b, off + at_, by simp [Addr.add], hb, hne, fun i v hv => ?_⟩
    rw [Nat.add_assoc]
    refine hcell (at_ + i) v ?_
    rw [List.map_take, List.getElem?_take] at hv
    split at hv
    · rw [← hv, List.map_drop, List.getElem?_drop]
    · cases hv

/-- The reader's take, wherever it is. -/
theorem take_any' (n : Nat) {w : World} {B rb : Nat} {l : List UInt8} {A : Option Addr} {len c at_ : Nat} {bad : Bool} {s : Option Nat} (h : Rd w B rb l A len c at_ bad s) :
    Calls Tryd.prog 48 #[.pointer (some ⟨rb, 0, none⟩), .int .u64 (n : Int)] w (HGaveS w B rb l A len c (hTakeS l s n).1 (hTakeS l s n).2) := by
  have hst := h.st
  have hl := h.hl
  cases bad
  · simp only [Bool.false_eq_true, if_false] at hst
    subst hst
    unfold hTakeS
    simp only
    by_cases hn : n ≤ l.length - at_
    · rw [if_pos hn]
      exact take_good n h (by omega)
    · rw [if_neg hn]
      exact take_bad n h (by simp; omega)
  · simp only [if_true] at hst
    subst hst
    exact take_bad n h rfl

set_option maxRecDepth 10000 in
set_option maxHeartbeats 400000 in
theorem octet_any {w : World} {B rb : Nat} {l : List UInt8} {A : Option Addr} {len c at_ : Nat} {bad : Bool} {s : Option Nat} (h : Rd w B rb l A len c at_ bad s) :
    Calls Tryd.prog 44 #[.pointer (some ⟨rb, 0, none⟩)] w (HGaveB w B rb l A len c (octS l s).1.toNat (octS l s).2) := by
  have HT := take_any' 1 h
  rcases s with _ | a
  · have HO : Hid ((octS l none).1.toNat = 0 ∧ (octS l none).2 = none) := ⟨rfl, rfl⟩
    change Calls _ _ _ _ (HGaveS w B rb l A len c [] none) at HT
    have HT := Lib.hid HT
    generalize (octS l none).1.toNat = q at *
    generalize (octS l none).2 = q2 at *
    clear h
    go_enter Tryd.func44, Tryd.ntmps44
    go_wp2_with fail
    refine HT.out.mono ?_
    rintro e w1 ⟨A1, c1, at1, bad1, rfl, _, _, _, hr, hg⟩
    have hst := hr.st
    cases bad1
    · simp at hst
    · have h2 := hr.c2
      have HR := Lib.hid hr
      clear hst hr
      go_wp2
      go_ret
      rw [HO.out.1, HO.out.2]
      exact ⟨at1, true, rfl, HR.out, hg⟩
  · rcases hx : l[a]? with _ | x
    · have ha : ¬ 1 ≤ l.length - a := by have := List.getElem?_eq_none_iff.1 hx; omega
      have HS : hTakeS l (some a) 1 = ([], none) := by unfold hTakeS; simp only; rw [if_neg ha]
      have HO : Hid ((octS l (some a)).1.toNat = 0 ∧ (octS l (some a)).2 = none) := by show _ ∧ _; unfold octS; simp only [hx]; exact ⟨rfl, trivial⟩
      rw [HS] at HT
      have HT := Lib.hid HT
      generalize (octS l (some a)).1.toNat = q at *
      generalize (octS l (some a)).2 = q2 at *
      clear h hx ha HS
      go_enter Tryd.func44, Tryd.ntmps44
      go_wp2_with fail
      refine HT.out.mono ?_
      rintro e w1 ⟨A1, c1, at1, bad1, rfl, _, _, _, hr, hg⟩
      have hst := hr.st
      cases bad1
      · simp at hst
      · have h2 := hr.c2
        have HR := Lib.hid hr
        clear hst hr
        go_wp2
        go_ret
        rw [HO.out.1, HO.out.2]
        exact ⟨at1, true, rfl, HR.out, hg⟩
    · obtain ⟨hlt, he⟩ := List.getElem?_eq_some_iff.1 hx
      have HS : hTakeS l (some a) 1 = ([x], some (a + 1)) := by
        unfold hTakeS
        simp only
        rw [if_pos (by omega), List.drop_eq_getElem_cons hlt, he]
        rfl
      have HO : Hid ((octS l (some a)).1.toNat = x.toNat ∧ (octS l (some a)).2 = some (a + 1)) := by show _ ∧ _; unfold octS; simp only [hx]; exact ⟨trivial, trivial⟩
      rw [HS] at HT
      have HT := Lib.hid HT
      generalize (octS l (some a)).1.toNat = q at *
      generalize (octS l (some a)).2 = q2 at *
      clear h hx HS he hlt
      go_enter Tryd.func44, Tryd.ntmps44
      go_wp2_with fail
      refine HT.out.mono ?_
      rintro e w1 ⟨A1, c1, at1, bad1, rfl, hc1, hm1, hsx, hr, hg⟩
      have hst := hr.st
      obtain ⟨b, off, rfl, _, _, hcell⟩ := hsx (by simp)
      have hx := hcell 0 (cell8 x) rfl
      unfold cell8 at hx
      rw [Nat.add_zero] at hx
      simp only [List.length_cons, List.length_nil] at hc1 ⊢
      unfold maxLen at hm1
      cases bad1
      · have h2 := hr.c2
        have HR := Lib.hid hr
        clear hcell hsx hst hr
        go_wp2
        go_ret
        rw [HO.out.1, HO.out.2]
        exact ⟨at1, false, rfl, HR.out, hg⟩
      · simp at hst
end
end Go.Proofs.YtbnnjkjmadnjkaaDoor
