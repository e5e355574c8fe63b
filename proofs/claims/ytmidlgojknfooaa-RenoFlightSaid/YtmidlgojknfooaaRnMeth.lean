/-
  May, Sent, Lost, Worst.
-/
import Derived.Test.YtmidlgojknfooaaRnGone
namespace Go.Proofs.Ytmidlgojknfooaa
open Go.RowKit
set_option linter.unusedVariables false

set_option maxRecDepth 10000 in
theorem nmay_any (w : World) (g n : Nat) (s : NS) (h : NAt w g s) (hw : s.wi ≤ mU) :
    Calls Try.prog 14 #[.pointer (some ⟨g, 0, none⟩), .int .u64 (n : Int)] w fun e w' => e = .returned (.bool (s.may n)) ∧ Below w.heap.size w w' := by
  have c0 := h.c0
  have c2 := h.c2
  have HO : Hid (s.may n = (decide (s.fl ≤ s.wi) && decide (cN n ≤ s.wi - s.fl))) := Lib.hid rfl
  have ed : s.fl ≤ s.wi → IntKind.u64.wrap ((s.wi : Int) - (s.fl : Int)) = ((s.wi - s.fl : Nat) : Int) := fun _ => by rw [IntKind.wrap_u64]; unfold mU at hw; omega
  clear h hw
  generalize s.may n = r at *
  generalize s.wi - s.fl = d at *
  generalize s.fl = f at *
  generalize s.wi = W at *
  by_cases hle : f ≤ W
  · have e1 := ed hle
    have d1 : decide (f ≤ W) = true := decide_eq_true hle
    clear ed
    rcases hx : decide (cN n ≤ d) with _ | _
    all_goals
      rw [d1, hx] at HO
      go_enter Try.func14, Try.ntmps14
      go_upto_region 3 with (fail)
      go_quiet ((go_at_call 16; exact Calls.quiet_of_same ((counted_any _ n).mono fun _ _ h => ⟨h.1, h.2.symm⟩)))
      go_wp2
      go_ret
      exact ⟨by rw [HO.out]; rfl, below_drewN (Below.refl _ _) _⟩
  · have d1 : decide (f ≤ W) = false := decide_eq_false hle
    rw [d1, Bool.false_and] at HO
    clear ed
    go_enter Try.func14, Try.ntmps14
    go_upto_region 3 with (fail)
    go_quiet (fail)
    go_wp2
    go_ret
    exact ⟨by rw [HO.out]; rfl, below_drewN (Below.refl _ _) _⟩

set_option maxRecDepth 10000 in
theorem sent_any (w : World) (g : Nat) (A : Option Addr) (n c : Nat) (l : List Nat) (s : NS) (h : NAt w g s) (hl : l.length = n) (hs : Ns w A l) (hn : n ≤ maxLen) :
    Calls Try.prog 8 #[.pointer (some ⟨g, 0, none⟩), .slice A n c] w (NGave g { s with fl := moreN s.fl l } w) := by
  have HM := Lib.hid (more_any w s.fl A n c l hl hs hn)
  have c2 := h.c2
  have f2 := h.fz 2
  have H5 : Hid (NAt (w.setCell ⟨g, 2, none⟩ (.int .u64 (moreN s.fl l : Int))) g { s with fl := moreN s.fl l }) := Lib.hid (h.set 2 _ rfl)
  have HG5 := Lib.hid (grown_set w g 2 (.int .u64 (moreN s.fl l : Int)))
  clear h hl hs hn
  generalize moreN s.fl l = m at *
  go_enter Try.func8, Try.ntmps8
  go_wp2_with (go_at_call 15; refine HM.out.mono ?_; rintro e w1 ⟨rfl, rfl⟩)
  go_end0
  exact ⟨rfl, HG5.out, H5.out⟩

theorem worst_any (w : World) (g : Nat) (s : NS) (h : NAt w g s) :
    Calls Try.prog 13 #[.pointer (some ⟨g, 0, none⟩)] w (NGave g (worstS s) w) := by
  have f0 := h.fz 0
  have f4 := h.fz 4
  have f5 := h.fz 5
  have c0 := h.c0
  have c4 := h.c4
  have c5 := h.c5
  have h1 : NAt (w.setCell ⟨g, 0, none⟩ (.int .u64 2400)) g { s with wi := 2400 } := h.set 0 _ rfl
  have h2 : NAt ((w.setCell ⟨g, 0, none⟩ (.int .u64 2400)).setCell ⟨g, 4, none⟩ (.bool false)) g { s with wi := 2400, rc := false } := h1.set 4 _ rfl
  have h3 : NAt (((w.setCell ⟨g, 0, none⟩ (.int .u64 2400)).setCell ⟨g, 4, none⟩ (.bool false)).setCell ⟨g, 5, none⟩ (.int .u64 0)) g (worstS s) := h2.set 5 _ rfl
  have H3 := Lib.hid h3
  have HG := Lib.hid (grown_trans (grown_trans (grown_set w g 0 (.int .u64 2400)) (grown_set _ g 4 (.bool false))) (grown_set _ g 5 (.int .u64 0)))
  clear h h1 h2 h3
  go_enter Try.func13, Try.ntmps13
  go_wp2
  go_end0
  exact ⟨rfl, HG.out, H3.out⟩

set_option maxRecDepth 10000 in
theorem lost_any (w : World) (g t now : Nat) (s : NS) (h : NAt w g s) (hw : s.wi ≤ mU) :
    Calls Try.prog 12 #[.pointer (some ⟨g, 0, none⟩), .int .u64 (t : Int), .int .u64 (now : Int)] w (NGave g (lostS s t now) w) := by
  have HO := Lib.hid (own_any w g t s h)
  rcases ho : s.own t with _ | _
  rotate_left
  · rw [ho] at HO
    have HL : Hid (lostS s t now = s) := Lib.hid (lost_own ho)
    have HH := Lib.hid h
    clear h ho
    go_enter Try.func12, Try.ntmps12
    go_wp2_with (go_at_call 17; refine HO.out.mono ?_; rintro e w1 ⟨rfl, rfl⟩)
    go_end0
    exact ⟨rfl, grown_below (Below.refl _ _), by rw [HL.out]; exact HH.out⟩
  · rw [ho] at HO
    obtain ⟨m, hm⟩ : ∃ m, m = max (s.wi / 2) 2400 := ⟨_, rfl⟩
    have HL : Hid (lostS s t now = ⟨m, m, s.fl, now, true, 0⟩) := Lib.hid (by unfold lostS; rw [ho, hm]; rfl)
    have hwr : IntKind.u64.wrap ((s.wi : Int) / 2) = (s.wi : Int) / 2 := by rw [IntKind.wrap_u64]; unfold mU at hw; omega
    have HX : Hid ((if IntKind.u64.wrap ((s.wi : Int) / 2) < 2400 then 2400 else IntKind.u64.wrap ((s.wi : Int) / 2)) = (m : Int)) := Lib.hid (by rw [hwr]; split <;> omega)
    clear hwr hw
    have f0 := h.fz 0
    have f1 := h.fz 1
    have f3 := h.fz 3
    have f4 := h.fz 4
    have f5 := h.fz 5
    have c0 := h.c0
    have c1 := h.c1
    have c3 := h.c3
    have c4 := h.c4
    have c5 := h.c5
    have h1 : NAt (w.setCell ⟨g, 4, none⟩ (.bool true)) g { s with rc := true } := h.set 4 _ rfl
    have h2 : NAt ((w.setCell ⟨g, 4, none⟩ (.bool true)).setCell ⟨g, 3, none⟩ (.int .u64 (now : Int))) g { s with rc := true, si := now } := h1.set 3 _ rfl
    have h3 : NAt (((w.setCell ⟨g, 4, none⟩ (.bool true)).setCell ⟨g, 3, none⟩ (.int .u64 (now : Int))).setCell ⟨g, 0, none⟩ (.int .u64 (m : Int))) g { s with rc := true, si := now, wi := m } := h2.set 0 _ rfl
    have h4 : NAt ((((w.setCell ⟨g, 4, none⟩ (.bool true)).setCell ⟨g, 3, none⟩ (.int .u64 (now : Int))).setCell ⟨g, 0, none⟩ (.int .u64 (m : Int))).setCell ⟨g, 1, none⟩ (.int .u64 (m : Int))) g { s with rc := true, si := now, wi := m, th := m } := h3.set 1 _ rfl
    have h5 : NAt (((((w.setCell ⟨g, 4, none⟩ (.bool true)).setCell ⟨g, 3, none⟩ (.int .u64 (now : Int))).setCell ⟨g, 0, none⟩ (.int .u64 (m : Int))).setCell ⟨g, 1, none⟩ (.int .u64 (m : Int))).setCell ⟨g, 5, none⟩ (.int .u64 0)) g ⟨m, m, s.fl, now, true, 0⟩ := h4.set 5 _ rfl
    have H5 := Lib.hid h5
    have HG := Lib.hid (grown_trans (grown_trans (grown_trans (grown_trans (grown_set w g 4 (.bool true)) (grown_set _ g 3 (.int .u64 (now : Int)))) (grown_set _ g 0 (.int .u64 (m : Int)))) (grown_set _ g 1 (.int .u64 (m : Int)))) (grown_set _ g 5 (.int .u64 0)))
    clear h h1 h2 h3 h4 h5 ho hm
    go_enter Try.func12, Try.ntmps12
    go_upto_region 2 with (go_at_call 17; refine HO.out.mono ?_; rintro e w1 ⟨rfl, rfl⟩)
    go_upto_region 3 with (fail)
    rw [HX.out]
    go_wp2
    go_end0
    exact ⟨rfl, HG.out, by rw [HL.out]; exact H5.out⟩

end Go.Proofs.Ytmidlgojknfooaa
