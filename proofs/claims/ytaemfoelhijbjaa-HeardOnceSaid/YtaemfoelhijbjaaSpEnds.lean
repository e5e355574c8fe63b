/-
  The walks through span.ends and its closure: which end comes next.
-/
import Derived.Test.YtaemfoelhijbjaaSpNeat
import Derived.Deep.LoopGhost
import Derived.Deep.QuietTactic
namespace Go.Proofs.Ytaemfoelhijbjaa
open Go.RowKit
set_option linter.unusedVariables false

theorem ends_any (A : Option Addr) (n c : Nat) (w : World) : Calls Try.prog 33 #[.slice A n c] w fun e w' => e = .returned (.func (.func 39) #[] #[.pointer (some ⟨w.heap.size, 0, none⟩)]) ∧ w' = w.alloc (.cells #[.slice A n c] 23) := by
  go_enter Try.func33, Try.ntmps33
  go_wp2
  go_ret
  exact ⟨rfl, rfl⟩

/-- A closure's box: a slice that reads as what is left of the list, in a block of the set S. -/
def EndsAt (w : World) (S : Nat → Prop) (g : Nat) (l : List (Nat × Nat)) : Prop :=
  ∃ A n c, Wh w g 23 #[.slice A n c] ∧ l.length = n ∧ n ≤ c ∧ c ≤ maxLen ∧ RsIn w S A l ∧ ¬ S g

theorem EndsAt.lt {w : World} {S : Nat → Prop} {g : Nat} {l : List (Nat × Nat)} (h : EndsAt w S g l) : g < w.heap.size := by
  obtain ⟨_, _, _, h, _⟩ := h
  exact h.lt
theorem EndsAt.grown {w w' : World} {S : Nat → Prop} {g : Nat} {row : Option Nat} {l : List (Nat × Nat)} (h : EndsAt w S g l) (hb : w.grownBy w' row) (hg : some g ≠ row) (hB : ∀ k, row = some k → ¬ S k) : EndsAt w' S g l := by
  obtain ⟨A, n, c, h1, h2, h3, h4, h5, h6⟩ := h
  exact ⟨A, n, c, h1.grown hb hg, h2, h3, h4, h5.grown hb hB, h6⟩
theorem EndsAt.below {w w' : World} {S : Nat → Prop} {g : Nat} {l : List (Nat × Nat)} (h : EndsAt w S g l) (hb : Below w.heap.size w w') : EndsAt w' S g l := h.grown (row := none) (grown_below hb) (by simp) (by simp)

/-- What the closure tells, and leaves. -/
def LookGave (w : World) (S : Nat → Prop) (g : Nat) (l : List (Nat × Nat)) (x : Nat) (e : Ending) (w' : World) : Prop :=
  e = .returned (.tuple #[.bool (lookL l x).1, .int .u64 (((lookL l x).2 : Nat) : Int)]) ∧ (∃ l', EndsAt w' S g l' ∧ ∀ y, x ≤ y → lookL l' y = lookL l y) ∧ w.grownBy w' (some g)

set_option maxRecDepth 10000 in
set_option maxHeartbeats 1000000 in
theorem look_any (x : Nat) (l : List (Nat × Nat)) (w : World) (S : Nat → Prop) (g : Nat) (h : EndsAt w S g l) :
    Calls Try.prog 39 #[.int .u64 (x : Int), .pointer (some ⟨g, 0, none⟩)] w (LookGave w S g l x) := by
  have HE := Lib.hid h
  have HG := Lib.hid (World.grownBy.refl w (some g))
  clear h
  go_enter Try.func39, Try.ntmps39
  go_wp2
  go_loopg [17] l.length (fun gg s17 wr => ∃ l', l'.length ≤ gg ∧ Hid (EndsAt wr S g l') ∧ Hid (w.grownBy wr (some g)) ∧ Hid (∀ y, x ≤ y → lookL l' y = lookL l y))
  case atStart => exact ⟨l, Nat.le_refl _, HE, HG, Lib.hid fun _ _ => rfl⟩
  case round =>
    obtain ⟨l', hl', he, hg, hk⟩ := hrel
    obtain ⟨A, n, c, h1, h2, h3, h4, h5, h6⟩ := he.out
    have hcell := h1.cell 0
    have hfz := h1.frozen 0
    simp only [List.getElem?_toArray, List.getElem?_cons_zero] at hcell
    have HM := Lib.hid h4
    have H1 := Lib.hid h1
    unfold maxLen at h4
    clear h1
    rcases l' with _ | ⟨r, t⟩
    · simp only [List.length_nil] at h2
      subst h2
      have HV : Hid (lookL l x = (false, topN)) := Lib.hid (hk.out x (Nat.le_refl _)).symm
      go_wp2
      go_ret2
      refine ⟨?_, ⟨[], he.out, hk.out⟩, hg.out⟩
      rw [HV.out]
      rfl
    · have hn0 : 0 < n := by rw [← h2]; simp
      obtain ⟨b, off, rfl, hb, hblt, hc⟩ := h5 (by simp)
      obtain ⟨hc1, hc2⟩ := hc 0 r rfl
      simp only [Nat.zero_mul, Nat.add_zero] at hc1 hc2
      have hbg : b ≠ g := fun e => h6 (e ▸ hb)
      have HBL := Lib.hid hblt
      have H6 := Lib.hid h6
      have H5 : Hid (RsIn wr S (some ⟨b, off, none⟩) (r :: t)) := Lib.hid h5
      have H2 := Lib.hid h2
      have t0 : decide (0 < n) = true := decide_eq_true hn0
      have t00 : (n == 0) = false := by simp; omega
      clear h5 hc hb h2 hblt h6
      by_cases hle : r.2 ≤ x
      · have t1 : decide (r.2 ≤ x) = true := decide_eq_true hle
        have hl2 : t.length = n - 1 := by have := H2.out; simp at this; omega
        have hk2 : Hid (∀ y, x ≤ y → lookL t y = lookL l y) := Lib.hid fun y hy => by rw [← hk.out y hy, lookL_drop hle hy]
        have hg2 : ∀ v, Hid (w.grownBy (wr.setCell ⟨g, 0, none⟩ v) (some g)) := fun v => Lib.hid (grown_trans hg.out (grown_set wr g 0 v))
        have hr2 : ∀ v, RsIn (wr.setCell ⟨g, 0, none⟩ v) S (some ⟨b, off + 2, none⟩) t := fun v => (RsIn.tail H5.out).grown (grown_set wr g 0 v) (fun k e => by obtain rfl := Option.some.inj e; exact H6.out)
        have hw2 : ∀ v, Wh (wr.setCell ⟨g, 0, none⟩ v) g 23 #[v] := fun v => H1.out.put 0 v
        have HR2 := Lib.hid hr2
        have HW2 := Lib.hid hw2
        have HG2 := Lib.hid hg2
        have HK2 := Lib.hid hk2
        have HL2 := Lib.hid hl2
        clear hr2 hw2 hg2 hk2 hl2
        by_cases hc1' : c = 1
        · subst hc1'
          obtain rfl : n = 1 := by omega
          have ht : t = [] := List.eq_nil_of_length_eq_zero HL2.out
          subst ht
          go_wp2
          go_roundg 0
          case rel => exact ⟨[], Nat.le_refl _, Lib.hid ⟨_, _, _, HW2.out _, rfl, Nat.le_refl _, by unfold maxLen; omega, RsIn.nil _ _ _, H6.out⟩, HG2.out _, HK2.out⟩
          case measure => simp at hl'; omega
        · go_wp2
          go_roundg t.length
          case rel => exact ⟨t, Nat.le_refl _, Lib.hid ⟨_, _, _, HW2.out _, HL2.out, by omega, by unfold maxLen; omega, HR2.out _, H6.out⟩, HG2.out _, HK2.out⟩
          case measure => simp at hl'; omega
      · have t1 : decide (r.2 ≤ x) = false := decide_eq_false hle
        by_cases hlt : x < r.1
        · have t2 : decide (x < r.1) = true := decide_eq_true hlt
          have HV : Hid (lookL l x = (false, r.1)) := Lib.hid (by rw [← hk.out x (Nat.le_refl _), lookL, if_neg hle, if_pos hlt])
          go_wp2
          go_quiet (fail)
          go_wp2
          go_ret2
          refine ⟨?_, ⟨r :: t, (he.out.grown (grown_drewN (World.grownBy.refl wr none) nq) (by simp) (by simp)), hk.out⟩, grown_drewN hg.out nq⟩
          rw [HV.out]
          rfl
        · have t2 : decide (x < r.1) = false := decide_eq_false hlt
          have HV : Hid (lookL l x = (true, r.2)) := Lib.hid (by rw [← hk.out x (Nat.le_refl _), lookL, if_neg hle, if_neg hlt])
          go_wp2
          go_quiet (fail)
          go_wp2
          go_ret2
          refine ⟨?_, ⟨r :: t, (he.out.grown (grown_drewN (World.grownBy.refl wr none) nq) (by simp) (by simp)), hk.out⟩, grown_drewN hg.out nq⟩
          rw [HV.out]
          rfl

end Go.Proofs.Ytaemfoelhijbjaa
