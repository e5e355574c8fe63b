/-
  The walk through Add.
-/
import Derived.Test.YtaemfoelhijbjaaHeKeep
import Derived.Deep.Cut
namespace Go.Proofs.Ytaemfoelhijbjaa
open Go.RowKit
set_option linter.unusedVariables false

set_option maxRecDepth 10000 in
set_option maxHeartbeats 1000000 in
theorem hadd_old (w : World) (g n c pn : Nat) (wants : Bool) (x y : Int) (A : Option Addr) (s : HS) (h : HAt w g A n c s) (ho : s.Ok) (hc : cameS s pn = true) :
    Calls Try.prog 5 #[.pointer (some ⟨g, 0, none⟩), .int .u64 (pn : Int), .bool wants, .int .u64 x, .int .u64 y] w fun e w' => e = .returned (.bool false) ∧ Below w.heap.size w w' := by
  have HC := Lib.hid (came_any w g n c pn A s h ho)
  rw [hc] at HC
  clear h ho hc
  go_enter Try.func5, Try.ntmps5
  go_wp2_with (go_at_call 10; refine HC.out.mono ?_; rintro e w1 ⟨rfl, hb1⟩)
  go_ret
  exact ⟨rfl, hb1⟩

/-- What Add leaves of a number that did not come yet. -/
def AddGave (g : Nat) (s : HS) (pn : Nat) (wants : Bool) (now delay : Nat) (w : World) (e : Ending) (w' : World) : Prop :=
  ∃ l, e = .returned (.bool true) ∧ Grown s pn l ∧ w.grownBy w' (some g) ∧ ∃ A n c, HAt w' g A n c (addedS s pn wants now delay l)

set_option maxRecDepth 10000 in
set_option maxHeartbeats 4000000 in
theorem hadd_new (w : World) (g n c pn now delay : Nat) (wants : Bool) (A : Option Addr) (s : HS) (h : HAt w g A n c s) (ho : s.Ok) (hc : cameS s pn = false) (hp : pn < topN) (hn : now ≤ topN) :
    Calls Try.prog 5 #[.pointer (some ⟨g, 0, none⟩), .int .u64 (pn : Int), .bool wants, .int .u64 (now : Int), .int .u64 (delay : Int)] w (AddGave g s pn wants now delay w) := by
  have HC := Lib.hid (came_any w g n c pn A s h ho)
  rw [hc] at HC
  have HH := Lib.hid h
  have HO := Lib.hid ho
  have HP := Lib.hid hp
  have HN := Lib.hid hn
  have d1 : ((pn : Int) == 18446744073709551615) = false := by simp; unfold topN at hp; omega
  have HD : Hid (∀ (l : List (Nat × Nat)) (b : HS), b = bigS s pn now → Grown b pn l → Grown s pn l) := Lib.hid fun l b hb hg => by
    have := (bigS_l s pn now).1
    unfold Grown at hg ⊢
    rw [hb, this] at hg
    exact hg
  clear h ho hc hp hn
  go_enter Try.func5, Try.ntmps5
  go_upto_region 3 with (go_at_call 10; refine HC.out.mono ?_; rintro e w1 ⟨rfl, hb1⟩; have HH1 := Lib.hid (HH.out.below hb1); have HB1 := Lib.hid hb1; clear hb1)
  have HT := Lib.hid (inTurn_any w1 g n c pn A s HH1.out HO.out.la)
  have HF := Lib.hid (first_any w1 g n c A s HH1.out)
  have c2 := HH1.out.c2
  have c3' := HH1.out.c3
  have f2 := HH1.out.fz 2
  have f3 := HH1.out.fz 3
  go_upto_region 4 with (go_at_call 16; refine HT.out.mono ?_; rintro e w2 ⟨rfl, rfl⟩)
  have HBI : Hid (bigS s pn now = if firstS s || decide (s.la < pn) then { s with la := pn, tm := now } else s) := Lib.hid rfl
  have HOBI : Hid ((bigS s pn now).Ok) := Lib.hid (bigS_ok HO.out HP.out HN.out)
  have HG1 : Hid (w.grownBy w1 (some g)) := Lib.hid (grown_below HB1.out)
  clear HT HC HB1
  generalize hfs : firstS s = b at *
  clear hfs
  by_cases hb : (b || decide (s.la < pn)) = true
  · have HSB0 : Hid (bigS s pn now = { s with la := pn, tm := now }) := Lib.hid (by rw [HBI.out, if_pos hb])
    have h2 : HAt ((w1.setCell ⟨g, 2, none⟩ (.int .u64 (pn : Int))).setCell ⟨g, 3, none⟩ (.int .u64 (now : Int))) g A n c { s with la := pn, tm := now } :=
      (HH1.out.set (s' := { s with la := pn }) 2 (.int .u64 (pn : Int)) rfl rfl).set 3 _ rfl rfl
    have hg2 : w.grownBy ((w1.setCell ⟨g, 2, none⟩ (.int .u64 (pn : Int))).setCell ⟨g, 3, none⟩ (.int .u64 (now : Int))) (some g) := grown_trans HG1.out (grown_trans (grown_set _ _ _ _) (grown_set _ _ _ _))
    rw [← HSB0.out] at h2
    have HS2 := Lib.hid h2
    have HG2 := Lib.hid hg2
    have HOB := HOBI
    clear h2 hg2 HSB0 HBI
    cases b with
    | true =>
      go_upto_region 6 with (go_at_call 17; refine HF.out.mono ?_; rintro e w2 ⟨rfl, rfl⟩)
      generalize (w1.setCell ⟨g, 2, none⟩ (.int .u64 (pn : Int))).setCell ⟨g, 3, none⟩ (.int .u64 (now : Int)) = W2 at *
      obtain ⟨S2, hS2⟩ : ∃ S2, S2 = bigS s pn now := ⟨_, rfl⟩
      rw [← hS2] at HS2 HOB
      have HSB := Lib.hid hS2
      clear hS2 HOBI HF HH1 HG1 HH HO c2 c3' f2 f3
      have HKP := Lib.hid (keep_any W2 g n c pn A S2 HS2.out HOB.out HP.out)
      clear HS2 HOB
      cases wants with
      | false =>
        go_wp2_with (go_at_call 18; refine HKP.out.mono ?_; rintro e w3 ⟨l, hgr, rfl, hg3, A3, n3, c3, h3⟩)
        go_ret
        exact ⟨l, rfl, HD.out l S2 HSB.out hgr, grown_trans HG2.out hg3, A3, n3, c3, by rw [HSB.out] at h3; exact h3⟩
      | true =>
        go_wp2_with (first
          | (go_at_call 18; refine HKP.out.mono ?_; rintro e w3 ⟨l, hgr, rfl, hg3, A3, n3, c3, h3⟩; have H3 := Lib.hid h3; have HGR := Lib.hid hgr; have HG3 := Lib.hid (grown_trans HG2.out hg3); clear h3 hgr hg3)
          | (go_at_call 19; refine (want_any w3 g n3 c3 now delay (inTurnS s pn) A3 (keptS S2 l) H3.out HN.out).mono ?_; rintro e w4 ⟨rfl, hg4, h4⟩))
        go_ret
        exact ⟨l, rfl, HD.out l S2 HSB.out HGR.out, grown_trans HG3.out hg4, A3, n3, c3, by rw [HSB.out] at h4; exact h4⟩
    | false =>
      have d2 : decide (s.la < pn) = true := by simpa using hb
      clear hb
      go_upto_region 6 with (go_at_call 17; refine HF.out.mono ?_; rintro e w2 ⟨rfl, rfl⟩)
      generalize (w1.setCell ⟨g, 2, none⟩ (.int .u64 (pn : Int))).setCell ⟨g, 3, none⟩ (.int .u64 (now : Int)) = W2 at *
      obtain ⟨S2, hS2⟩ : ∃ S2, S2 = bigS s pn now := ⟨_, rfl⟩
      rw [← hS2] at HS2 HOB
      have HSB := Lib.hid hS2
      clear hS2 HOBI HF HH1 HG1 HH HO c2 c3' f2 f3 d2
      have HKP := Lib.hid (keep_any W2 g n c pn A S2 HS2.out HOB.out HP.out)
      clear HS2 HOB
      cases wants with
      | false =>
        go_wp2_with (go_at_call 18; refine HKP.out.mono ?_; rintro e w3 ⟨l, hgr, rfl, hg3, A3, n3, c3, h3⟩)
        go_ret
        exact ⟨l, rfl, HD.out l S2 HSB.out hgr, grown_trans HG2.out hg3, A3, n3, c3, by rw [HSB.out] at h3; exact h3⟩
      | true =>
        go_wp2_with (first
          | (go_at_call 18; refine HKP.out.mono ?_; rintro e w3 ⟨l, hgr, rfl, hg3, A3, n3, c3, h3⟩; have H3 := Lib.hid h3; have HGR := Lib.hid hgr; have HG3 := Lib.hid (grown_trans HG2.out hg3); clear h3 hgr hg3)
          | (go_at_call 19; refine (want_any w3 g n3 c3 now delay (inTurnS s pn) A3 (keptS S2 l) H3.out HN.out).mono ?_; rintro e w4 ⟨rfl, hg4, h4⟩))
        go_ret
        exact ⟨l, rfl, HD.out l S2 HSB.out HGR.out, grown_trans HG3.out hg4, A3, n3, c3, by rw [HSB.out] at h4; exact h4⟩
  · obtain ⟨rfl, hla⟩ : b = false ∧ decide (s.la < pn) = false := by simpa using hb
    have HSB : Hid (s = bigS s pn now) := Lib.hid (by rw [HBI.out, if_neg hb])
    clear hb HBI
    go_upto_region 6 with (go_at_call 17; refine HF.out.mono ?_; rintro e w2 ⟨rfl, rfl⟩)
    have HS2 := HH1
    have HOB := HO
    have HG2 := HG1
    clear HOBI HF HH1 HG1 HH HO c2 c3' f2 f3 hla
    generalize w1 = W2 at *
    have HKP := Lib.hid (keep_any W2 g n c pn A s HS2.out HOB.out HP.out)
    clear HS2 HOB
    cases wants with
    | false =>
      go_wp2_with (go_at_call 18; refine HKP.out.mono ?_; rintro e w3 ⟨l, hgr, rfl, hg3, A3, n3, c3, h3⟩)
      go_ret
      exact ⟨l, rfl, HD.out l s HSB.out hgr, grown_trans HG2.out hg3, A3, n3, c3, by unfold addedS; rw [← HSB.out]; exact h3⟩
    | true =>
      go_wp2_with (first
        | (go_at_call 18; refine HKP.out.mono ?_; rintro e w3 ⟨l, hgr, rfl, hg3, A3, n3, c3, h3⟩; have H3 := Lib.hid h3; have HGR := Lib.hid hgr; have HG3 := Lib.hid (grown_trans HG2.out hg3); clear h3 hgr hg3)
        | (go_at_call 19; refine (want_any w3 g n3 c3 now delay (inTurnS s pn) A3 (keptS s l) H3.out HN.out).mono ?_; rintro e w4 ⟨rfl, hg4, h4⟩))
      go_ret
      exact ⟨l, rfl, HD.out l s HSB.out HGR.out, grown_trans HG3.out hg4, A3, n3, c3, by unfold addedS; rw [← HSB.out]; exact h4⟩

end Go.Proofs.Ytaemfoelhijbjaa
