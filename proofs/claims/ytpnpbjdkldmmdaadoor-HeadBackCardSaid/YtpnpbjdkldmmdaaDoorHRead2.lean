/-
  The walks through the other methods of head's reader: take, octet, number, space, id.
-/
import Derived.Test.YtpnpbjdkldmmdaaDoorHRead
namespace Go.Proofs.YtpnpbjdkldmmdaaDoor
open Go.RowKit
set_option linter.unusedVariables false

/-- What a method answers: bytes, and where the reader is. -/
def GaveS (w : World) (B rb : Nat) (l : List UInt8) (A : Option Addr) (len c : Nat) (xs : List UInt8) (s' : Option Nat) (e : Ending) (w' : World) : Prop :=
  ∃ A' c' at' bad', e = .returned (.slice A' xs.length c') ∧ xs.length ≤ c' ∧ c' ≤ maxLen ∧ Sx w' rb A' (xs.map cell8) ∧ Rd w' B rb l A len c at' bad' s' ∧ w.grownBy w' (some rb)

def GaveN (w : World) (B rb : Nat) (l : List UInt8) (A : Option Addr) (len c : Nat) (n : Nat) (s' : Option Nat) (e : Ending) (w' : World) : Prop :=
  ∃ at' bad', e = .returned (.int .u64 (n : Int)) ∧ Rd w' B rb l A len c at' bad' s' ∧ w.grownBy w' (some rb)

def GaveB (w : World) (B rb : Nat) (l : List UInt8) (A : Option Addr) (len c : Nat) (n : Nat) (s' : Option Nat) (e : Ending) (w' : World) : Prop :=
  ∃ at' bad', e = .returned (.int .u8 (n : Int)) ∧ Rd w' B rb l A len c at' bad' s' ∧ w.grownBy w' (some rb)

set_option maxRecDepth 10000 in
set_option maxHeartbeats 400000 in
theorem take_bad (n : Nat) {w : World} {B rb : Nat} {l : List UInt8} {A : Option Addr} {len c at_ : Nat} {bad : Bool} {s : Option Nat} (h : Rd w B rb l A len c at_ bad s)
    (hb : (bad || !decide (n ≤ len - at_)) = true) :
    Calls Tryd.prog 44 #[.pointer (some ⟨rb, 0, none⟩), .int .u64 (n : Int)] w (GaveS w B rb l A len c [] none) := by
  have HR := Lib.hid h
  have HB := Lib.hid hb
  clear h hb
  go_enter Tryd.func44, Tryd.ntmps44
  go_wp2_with fail
  refine (left_any HR.out).mono ?_
  rintro e w1 ⟨rfl, hg1⟩
  have HR1 := Lib.hid (HR.out.grown hg1 (by simp) (by simp))
  go_wp2_with fail
  refine (need_any _ HR1.out).mono ?_
  rintro e w2 ⟨rfl, hr2, hg2⟩
  rw [HB.out] at hr2
  have h2 := hr2.c2
  have HR2 := Lib.hid hr2
  clear hr2
  go_wp2
  go_ret
  refine ⟨none, 0, at_, true, rfl, Nat.le_refl _, Nat.zero_le _, Sx.nil _ _ _, ?_, grown_trans ⟨hg1.os, hg1.tape, hg1.output, hg1.size, fun k hk _ => hg1.block k hk (by simp)⟩ hg2⟩
  have h := HR2.out
  exact ⟨h.wh, h.hl, h.ha, h.hc, h.hm, h.hs, h.hB, rfl⟩

set_option maxRecDepth 10000 in
set_option maxHeartbeats 400000 in
theorem take_good (n : Nat) {w : World} {B rb : Nat} {l : List UInt8} {A : Option Addr} {len c at_ : Nat} {s : Option Nat} (h : Rd w B rb l A len c at_ false s) (hn : n ≤ len - at_) :
    Calls Tryd.prog 44 #[.pointer (some ⟨rb, 0, none⟩), .int .u64 (n : Int)] w (GaveS w B rb l A len c ((l.drop at_).take n) (some (at_ + n))) := by
  have ha := h.ha
  have hc := h.hc
  have hm := h.hm
  have HL := Lib.hid h.hl
  have HR := Lib.hid h
  unfold maxLen at hm
  clear h
  go_enter Tryd.func44, Tryd.ntmps44
  go_wp2_with fail
  refine (left_any HR.out).mono ?_
  rintro e w1 ⟨rfl, hg1⟩
  have HR1 := Lib.hid (HR.out.grown hg1 (by simp) (by simp))
  go_wp2_with fail
  refine (need_any _ HR1.out).mono ?_
  rintro e w2 ⟨rfl, hr2, hg2⟩
  have h2 := hr2.c2
  have h1 := hr2.c1
  have h0 := hr2.c0
  have hz1 := hr2.wh.frozen 1
  simp only [Bool.not_true, Bool.or_false] at h2
  have hr3 := hr2.setAt (at_ + n) (by omega) ((at_ : Int) + (n : Int)) (by omega)
  have h01 := hr3.c0
  have h11 : (w2.setCell ⟨rb, 1, none⟩ (.int .i64 ((at_ : Int) + (n : Int)))).cell? ⟨rb, 1, none⟩ = some (.int .i64 ((at_ : Int) + (n : Int))) := by rw [hr3.c1]; congr 2
  have HR3 := Lib.hid hr3
  clear hr2 hr3
  go_wp2_with fail
  have hg3 := grown_set w2 rb 1 (.int .i64 ((at_ : Int) + (n : Int)))
  generalize w2.setCell ⟨rb, 1, none⟩ (.int .i64 ((at_ : Int) + (n : Int))) = w3 at *
  have hcut : ∀ w', Calls Tryd.prog 26 #[.slice A len c, .int .i64 (at_ : Int), .int .i64 ((at_ : Int) + (n : Int))] w' fun e w'' => e = .returned (if at_ = at_ + n then .slice none 0 0 else .slice (A.map fun x => x.add at_) (at_ + n - at_) (at_ + n - at_)) ∧ w'' = w' := fun w' =>
    (cut_any A len c at_ (at_ + n) _ _ w' rfl (by omega) (by omega) (by omega) hc (by omega)).mono fun e w'' h => ⟨h.1, h.2.symm⟩
  obtain ⟨V, HV⟩ : ∃ V, Hid (V = if at_ = at_ + n then Value.slice none 0 0 else .slice (A.map fun x => x.add at_) (at_ + n - at_) (at_ + n - at_)) := ⟨_, Lib.hid rfl⟩
  rw [← HV.out] at hcut
  go_quiet (first
    | (go_at_call 26; exact Calls.quiet_of_same (hcut _)))
  go_wp2
  have hg4 : w.grownBy (w3.drewN nq) (some rb) := grown_drewN (grown_trans (grown_trans ⟨hg1.os, hg1.tape, hg1.output, hg1.size, fun k hk _ => hg1.block k hk (by simp)⟩ hg2) hg3) nq
  have hr4 := HR3.out.below (w' := w3.drewN nq) (below_drewN (Below.refl _ _) _)
  have hlen : ((l.drop at_).take n).length = n := by rw [List.length_take, List.length_drop, HL.out]; omega
  have hv := HV.out
  go_ret
  by_cases h0 : n = 0
  · subst h0
    rw [if_pos (by omega)] at hv
    subst hv
    exact ⟨none, 0, at_ + 0, false, by rw [List.take_zero]; rfl, by simp, Nat.zero_le _, by rw [List.take_zero]; exact Sx.nil _ _ _, hr4, hg4⟩
  · rw [if_neg (by omega), show at_ + n - at_ = n by omega] at hv
    subst hv
    refine ⟨_, n, at_ + n, false, by rw [hlen]; rfl, by rw [hlen]; exact Nat.le_refl _, by unfold maxLen; omega, ?_, hr4, hg4⟩
    have hsx := Sx.of hr4.hs hr4.hB hr4.wh.lt
    intro hn0
    obtain ⟨b, off, hA, hb, hne, hcell⟩ := hsx (by rintro h; rw [List.map_eq_nil_iff] at h; subst h; simp at hn0)
    subst hA
    refine ⟨b, off + at_, by simp [Addr.add], hb, hne, fun i v hv => ?_⟩
    rw [Nat.add_assoc]
    refine hcell (at_ + i) v ?_
    rw [List.map_take, List.getElem?_take] at hv
    split at hv
    · rw [← hv, List.map_drop, List.getElem?_drop]
    · cases hv

/-- The reader's take, wherever it is. -/
theorem take_any' (n : Nat) {w : World} {B rb : Nat} {l : List UInt8} {A : Option Addr} {len c at_ : Nat} {bad : Bool} {s : Option Nat} (h : Rd w B rb l A len c at_ bad s) :
    Calls Tryd.prog 44 #[.pointer (some ⟨rb, 0, none⟩), .int .u64 (n : Int)] w (GaveS w B rb l A len c (takeS l s n).1 (takeS l s n).2) := by
  have hst := h.st
  have hl := h.hl
  cases bad
  · simp only [Bool.false_eq_true, if_false] at hst
    subst hst
    unfold takeS
    simp only
    by_cases hn : n ≤ l.length - at_
    · rw [if_pos hn]
      exact take_good n h (by omega)
    · rw [if_neg hn]
      exact take_bad n h (by simp; omega)
  · simp only [if_true] at hst
    subst hst
    exact take_bad n h rfl

set_option maxRecDepth 10000 in
set_option maxHeartbeats 400000 in
theorem octet_any {w : World} {B rb : Nat} {l : List UInt8} {A : Option Addr} {len c at_ : Nat} {bad : Bool} {s : Option Nat} (h : Rd w B rb l A len c at_ bad s) :
    Calls Tryd.prog 40 #[.pointer (some ⟨rb, 0, none⟩)] w (GaveB w B rb l A len c (octS l s).1.toNat (octS l s).2) := by
  have HT := take_any' 1 h
  rcases s with _ | a
  · have HO : Hid ((octS l none).1.toNat = 0 ∧ (octS l none).2 = none) := ⟨rfl, rfl⟩
    change Calls _ _ _ _ (GaveS w B rb l A len c [] none) at HT
    have HT := Lib.hid HT
    generalize (octS l none).1.toNat = q at *
    generalize (octS l none).2 = q2 at *
    clear h
    go_enter Tryd.func40, Tryd.ntmps40
    go_wp2_with fail
    refine HT.out.mono ?_
    rintro e w1 ⟨A1, c1, at1, bad1, rfl, _, _, _, hr, hg⟩
    have hst := hr.st
    cases bad1
    · simp at hst
    · have h2 := hr.c2
      have HR := Lib.hid hr
      clear hst hr
      go_wp2
      go_ret
      rw [HO.out.1, HO.out.2]
      exact ⟨at1, true, rfl, HR.out, hg⟩
  · rcases hx : l[a]? with _ | x
    · have ha : ¬ 1 ≤ l.length - a := by have := List.getElem?_eq_none_iff.1 hx; omega
      have HS : takeS l (some a) 1 = ([], none) := by unfold takeS; simp only; rw [if_neg ha]
      have HO : Hid ((octS l (some a)).1.toNat = 0 ∧ (octS l (some a)).2 = none) := by show _ ∧ _; unfold octS; simp only [hx]; exact ⟨rfl, trivial⟩
      rw [HS] at HT
      have HT := Lib.hid HT
      generalize (octS l (some a)).1.toNat = q at *
      generalize (octS l (some a)).2 = q2 at *
      clear h hx ha HS
      go_enter Tryd.func40, Tryd.ntmps40
      go_wp2_with fail
      refine HT.out.mono ?_
      rintro e w1 ⟨A1, c1, at1, bad1, rfl, _, _, _, hr, hg⟩
      have hst := hr.st
      cases bad1
      · simp at hst
      · have h2 := hr.c2
        have HR := Lib.hid hr
        clear hst hr
        go_wp2
        go_ret
        rw [HO.out.1, HO.out.2]
        exact ⟨at1, true, rfl, HR.out, hg⟩
    · obtain ⟨hlt, he⟩ := List.getElem?_eq_some_iff.1 hx
      have HS : takeS l (some a) 1 = ([x], some (a + 1)) := by
        unfold takeS
        simp only
        rw [if_pos (by omega), List.drop_eq_getElem_cons hlt, he]
        rfl
      have HO : Hid ((octS l (some a)).1.toNat = x.toNat ∧ (octS l (some a)).2 = some (a + 1)) := by show _ ∧ _; unfold octS; simp only [hx]; exact ⟨trivial, trivial⟩
      rw [HS] at HT
      have HT := Lib.hid HT
      generalize (octS l (some a)).1.toNat = q at *
      generalize (octS l (some a)).2 = q2 at *
      clear h hx HS he hlt
      go_enter Tryd.func40, Tryd.ntmps40
      go_wp2_with fail
      refine HT.out.mono ?_
      rintro e w1 ⟨A1, c1, at1, bad1, rfl, hc1, hm1, hsx, hr, hg⟩
      have hst := hr.st
      obtain ⟨b, off, rfl, _, _, hcell⟩ := hsx (by simp)
      have hx := hcell 0 (cell8 x) rfl
      unfold cell8 at hx
      rw [Nat.add_zero] at hx
      simp only [List.length_cons, List.length_nil] at hc1 ⊢
      unfold maxLen at hm1
      cases bad1
      · have h2 := hr.c2
        have HR := Lib.hid hr
        clear hcell hsx hst hr
        go_wp2
        go_ret
        rw [HO.out.1, HO.out.2]
        exact ⟨at1, false, rfl, HR.out, hg⟩
      · simp at hst

end Go.Proofs.YtpnpbjdkldmmdaaDoor
