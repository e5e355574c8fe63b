/-
  The walks through head's reader's number, space and id.
-/
import Derived.Test.YtbnnjkjmadnjkaaDoorSk19
namespace Go.Proofs.YtbnnjkjmadnjkaaDoor
open Go.RowKit
set_option linter.unusedVariables false

theorem vtake_any (l : List UInt8) (A : Option Addr) (len c n k : Nat) (ok : Bool) (w : World) (B : Nat) (hl : l.length = len) (hr : Sl w B A l) (hc : len ≤ c) (hm : c ≤ maxLen)
    (ht : tk l = if ok then some (n, k) else none) (h0 : ok = false → n = 0 ∧ k = 0) :
    Calls Tryd.prog 83 #[.slice A len c] w fun e w' => e = .returned (.tuple #[.int .u64 (n : Int), .int .i64 (k : Int), .bool ok]) ∧ w' = w := by
  cases ok
  · obtain ⟨rfl, rfl⟩ := h0 rfl
    exact (take_none ht A len c w B hl hr).mono fun e w' h => ⟨h.1, h.2.symm⟩
  · exact (take_some ht A len c w B hl hr hc hm).mono fun e w' h => ⟨h.1, h.2.symm⟩

theorem tk_room {l : List UInt8} {n k : Nat} (h : tk l = some (n, k)) : 1 ≤ k ∧ k ≤ 8 ∧ k ≤ l.length ∧ n ≤ 4611686018427387903 := by
  obtain ⟨x, t, rfl, rfl, hs, rfl⟩ := tk_some h
  have h1 := cls_pos x
  have h8 := cls_le x
  have := val_step_lt x (t.take (cls x - 1)) (by rw [List.length_take]; omega)
  exact ⟨h1, h8, by simpa using hs, by omega⟩

theorem number_take (n k : Nat) (ok : Bool) {w : World} {B rb : Nat} {l : List UInt8} {A : Option Addr} {len c at_ : Nat} {bad : Bool} {s : Option Nat} (h : Rd w B rb l A len c at_ bad s)
    (ht : tk (l.drop at_) = if ok then some (n, k) else none) (h0 : ok = false → n = 0 ∧ k = 0) (m : Nat) :
    Calls Tryd.prog 83 #[.slice (if c = at_ then A else A.map fun x => x.add at_) (len - at_) (c - at_)] (w.drewN m) fun e w'' => e = .returned (.tuple #[.int .u64 (n : Int), .int .i64 (k : Int), .bool ok]) ∧ w'' = w.drewN m := by
  have hr := h.below (w' := w.drewN m) (below_drewN (Below.refl _ _) _)
  refine vtake_any (l.drop at_) _ _ _ n k ok _ B (by rw [List.length_drop, h.hl]) ?_ (by have := h.hc; omega) (by have := h.hm; omega) ht h0
  have h2 := hr.hs.cut at_ (l.drop at_).length c (by rw [List.length_map, h.hl]; exact h.hc)
  rw [List.take_of_length_le (by simp), ← List.map_drop] at h2
  exact h2

set_option maxRecDepth 10000 in
set_option maxHeartbeats 400000 in
theorem number_bad (n k : Nat) (ok : Bool) {w : World} {B rb : Nat} {l : List UInt8} {A : Option Addr} {len c at_ : Nat} {bad : Bool} {s : Option Nat} (h : Rd w B rb l A len c at_ bad s)
    (ht : tk (l.drop at_) = if ok then some (n, k) else none) (h0 : ok = false → n = 0 ∧ k = 0) (hb : (bad || !ok) = true) :
    Calls Tryd.prog 69 #[.pointer (some ⟨rb, 0, none⟩)] w (HGaveN w B rb l A len c 0 none) := by
  have h1 := h.c1
  have hc0 := h.c0
  have ha := h.ha
  have hc := h.hc
  have hm := h.hm
  have HT := Lib.hid (number_take n k ok h ht h0)
  have HR := Lib.hid h
  have HB := Lib.hid hb
  unfold maxLen at hm
  clear h ht h0 hb
  go_enter Tryd.func69, Tryd.ntmps69
  go_wp2_with fail
  go_quiet (first
    | (go_at_call 83; exact Calls.quiet_of_same (HT.out _)))
  generalize (if c = at_ then A else A.map fun x => x.add at_) = A' at *
  have hg0 : w.grownBy (w.drewN nq) (some rb) := grown_drewN (World.grownBy.refl _ _) nq
  have HR1 := Lib.hid (HR.out.grown (row := none) (grown_drewN (World.grownBy.refl _ _) nq) (by simp) (by simp))
  generalize w.drewN nq = w1 at *
  clear h1 hc0
  go_wp2_with (go_at_call 45; refine (need_any ok HR1.out).mono ?_; rintro e w2 ⟨rfl, hr2, hg2⟩; rw [HB.out] at hr2; have h2 := hr2.c2; have HR2 := Lib.hid hr2; clear hr2)
  go_ret
  have h := HR2.out
  exact ⟨at_, true, rfl, ⟨h.wh, h.hl, h.ha, h.hc, h.hm, h.hs, h.hB, rfl⟩, grown_trans hg0 hg2⟩

set_option maxRecDepth 10000 in
set_option maxHeartbeats 400000 in
theorem number_good (n k : Nat) {w : World} {B rb : Nat} {l : List UInt8} {A : Option Addr} {len c at_ : Nat} {s : Option Nat} (h : Rd w B rb l A len c at_ false s) (ht : tk (l.drop at_) = some (n, k)) :
    Calls Tryd.prog 69 #[.pointer (some ⟨rb, 0, none⟩)] w (HGaveN w B rb l A len c n (some (at_ + k))) := by
  have h1 := h.c1
  have hc0 := h.c0
  have ha := h.ha
  have hc := h.hc
  have hm := h.hm
  have hk : at_ + k ≤ len := by
    have := (tk_room ht).2.2.1
    rw [List.length_drop, h.hl] at this
    omega
  have HT := Lib.hid (number_take n k true h ht (by simp))
  have HR := Lib.hid h
  unfold maxLen at hm
  clear h ht
  go_enter Tryd.func69, Tryd.ntmps69
  go_wp2_with fail
  go_quiet (first
    | (go_at_call 83; exact Calls.quiet_of_same (HT.out _)))
  generalize (if c = at_ then A else A.map fun x => x.add at_) = A' at *
  have hg0 : w.grownBy (w.drewN nq) (some rb) := grown_drewN (World.grownBy.refl _ _) nq
  have HR1 := Lib.hid (HR.out.grown (row := none) (grown_drewN (World.grownBy.refl _ _) nq) (by simp) (by simp))
  generalize w.drewN nq = w1 at *
  clear h1 hc0
  go_wp2_with (go_at_call 45; refine (need_any true HR1.out).mono ?_; rintro e w2 ⟨rfl, hr2, hg2⟩; have h2 := hr2.c2; have h1 := hr2.c1; have hz1 := hr2.wh.frozen 1; simp only [Bool.not_true, Bool.or_false] at h2; have HR2 := Lib.hid hr2; clear hr2)
  go_ret
  exact ⟨at_ + k, false, rfl, HR2.out.setAt (at_ + k) hk _ (by omega), grown_trans (grown_trans hg0 hg2) (grown_set _ _ _ _)⟩

theorem number_any {w : World} {B rb : Nat} {l : List UInt8} {A : Option Addr} {len c at_ : Nat} {bad : Bool} {s : Option Nat} (h : Rd w B rb l A len c at_ bad s) :
    Calls Tryd.prog 69 #[.pointer (some ⟨rb, 0, none⟩)] w (HGaveN w B rb l A len c (numS l s).1 (numS l s).2) := by
  have hst := h.st
  cases bad
  · simp only [Bool.false_eq_true, if_false] at hst
    subst hst
    unfold numS
    simp only
    rcases ht : tk (l.drop at_) with _ | ⟨n, k⟩
    · exact number_bad 0 0 false h ht (fun _ => ⟨rfl, rfl⟩) rfl
    · exact number_good n k h ht
  · simp only [if_true] at hst
    subst hst
    rcases ht : tk (l.drop at_) with _ | ⟨n, k⟩
    · exact number_bad 0 0 false h ht (fun _ => ⟨rfl, rfl⟩) rfl
    · exact number_bad n k true h ht (by simp) rfl

theorem and48 : ∀ n : Nat, n < 256 → bits .and .u8 (n : Int) 48 = ((n / 16 % 4 * 16 : Nat) : Int) := by decide +kernel

/-- A long packet's space. -/
def spS (x : UInt8) (s : Option Nat) : Nat × Option Nat := (if x.toNat / 16 % 4 = 2 then 1 else 0, needS s (x.toNat / 16 % 4 == 0 || x.toNat / 16 % 4 == 2))

set_option maxRecDepth 10000 in
set_option maxHeartbeats 400000 in
theorem space_any (x : UInt8) {w : World} {B rb : Nat} {l : List UInt8} {A : Option Addr} {len c at_ : Nat} {bad : Bool} {s : Option Nat} (h : Rd w B rb l A len c at_ bad s) :
    Calls Tryd.prog 67 #[.pointer (some ⟨rb, 0, none⟩), .int .u8 (x.toNat : Int)] w (HGaveB w B rb l A len c (spS x s).1 (spS x s).2) := by
  have HR := Lib.hid h
  clear h
  have hk : ∃ k, bits .and .u8 (x.toNat : Int) 48 = k ∧ ((k = 0 ∧ x.toNat / 16 % 4 = 0) ∨ (k = 16 ∧ x.toNat / 16 % 4 = 1) ∨ (k = 32 ∧ x.toNat / 16 % 4 = 2) ∨ (k = 48 ∧ x.toNat / 16 % 4 = 3)) := by
    refine ⟨_, rfl, ?_⟩
    rw [and48 x.toNat x.toNat_lt]
    omega
  obtain ⟨k, hk, hc⟩ := hk
  rcases hc with ⟨rfl, hx⟩ | ⟨rfl, hx⟩ | ⟨rfl, hx⟩ | ⟨rfl, hx⟩
  all_goals
    have HS : Hid (spS x s = (if x.toNat / 16 % 4 = 2 then 1 else 0, needS s (x.toNat / 16 % 4 == 0 || x.toNat / 16 % 4 == 2))) := rfl
    rw [hx] at HS
    generalize spS x s = q at *
    go_enter Tryd.func67, Tryd.ntmps67
    go_wp2_with fail
    refine (need_any _ HR.out).mono ?_
    rintro e w2 ⟨rfl, hr2, hg2⟩
    have HR2 := Lib.hid hr2
    clear hr2
    go_wp2
    go_ret
    rw [HS.out]
    exact ⟨_, _, rfl, HR2.out, hg2⟩

/-- What a method answers in memory of its own. -/
def GaveI (w : World) (B rb : Nat) (l : List UInt8) (A : Option Addr) (len c : Nat) (xs : List UInt8) (s' : Option Nat) (e : Ending) (w' : World) : Prop :=
  ∃ A' c' at' bad', e = .returned (.slice A' xs.length c') ∧ xs.length ≤ c' ∧ c' ≤ maxLen ∧ Sy w' w.heap.size A' (xs.map cell8) ∧ Rd w' B rb l A len c at' bad' s' ∧ w.grownBy w' (some rb)

/-- A connection id. -/
def idS (l : List UInt8) (s : Option Nat) : List UInt8 × Option Nat := hTakeS l (needS (octS l s).2 (decide (((octS l s).1.toNat : Int) ≤ 20))) (octS l s).1.toNat

set_option maxRecDepth 10000 in
set_option maxHeartbeats 400000 in
theorem id_any {w : World} {B rb : Nat} {l : List UInt8} {A : Option Addr} {len c at_ : Nat} {bad : Bool} {s : Option Nat} (h : Rd w B rb l A len c at_ bad s) (hlen : len ≤ 1048576) :
    Calls Tryd.prog 68 #[.pointer (some ⟨rb, 0, none⟩)] w (GaveI w B rb l A len c (idS l s).1 (idS l s).2) := by
  have HT := Lib.hid (octet_any h)
  have HI : Hid (idS l s = hTakeS l (needS (octS l s).2 (decide (((octS l s).1.toNat : Int) ≤ 20))) (octS l s).1.toNat) := rfl
  have hx := (octS l s).1.toNat_lt
  generalize idS l s = r at *
  generalize (octS l s).1.toNat = x at *
  generalize (octS l s).2 = s1 at *
  have hlen : (hTakeS l (needS s1 (decide ((x : Int) ≤ 20))) x).1.length ≤ x := by
    unfold hTakeS
    split
    · simp
    · split
      · exact List.length_take_le _ _
      · simp
  have HLN := Lib.hid hlen
  have hrb := h.wh.lt
  clear h hlen
  go_enter Tryd.func68, Tryd.ntmps68
  go_wp2_with fail
  refine HT.out.mono ?_
  rintro e w1 ⟨at1, bad1, rfl, hr1, hg1⟩
  have HR1 := Lib.hid hr1
  clear hr1
  go_wp2_with fail
  refine (need_any _ HR1.out).mono ?_
  rintro e w2 ⟨rfl, hr2, hg2⟩
  have HR2 := Lib.hid hr2
  clear hr2
  go_wp2_with fail
  refine (take_any' x HR2.out).mono ?_
  rintro e w3 ⟨A3, c3, at3, bad3, rfl, hc3, hm3, hs3, hr3, hg3⟩
  rw [← HI.out] at hc3 hs3 hr3 HLN ⊢
  have hrb3 := hr3.wh.lt
  have HR3 := Lib.hid hr3
  have HS3 := Lib.hid hs3
  have HC := Lib.hid (clone_any A3 _ c3 _ w3 _ rfl hs3.sv (Nat.le_refl _) (by have := HLN.out; omega))
  clear hr3 hs3
  go_wp2_with fail
  refine HC.out.mono ?_
  rintro e w4 ⟨A4, c4, rfl, hc4, hm4, hown, hb4⟩
  go_wp2
  go_ret
  exact ⟨A4, c4, at3, bad3, rfl, hc4, hm4, Sy.of_own hown (Nat.le_trans hg1.size (Nat.le_trans hg2.size hg3.size)), HR3.out.below hb4, grown_trans (grown_trans (grown_trans hg1 hg2) hg3) (grown_below hb4)⟩
end Go.Proofs.YtbnnjkjmadnjkaaDoor
