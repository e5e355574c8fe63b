/-
  hostlerlaw02.FrameBack returns true for every list of frames and all bytes, and writes nothing that was there: what was appended is listed as it was; what is listed may be, and, appended, is listed as the same, in at most as many bytes, but for the length of a stream that had none.
  Conditions: the two tables of math/bits and the program's own table of parts hold what the program's text lays; this is tied to the text by the given card. No list that comes in is above 2^47 bytes (the row's own premise on sizes).
-/
import Derived.Test.YtnbeplfceflnjaaDoorFLawBack
import Derived.Test.YtnbeplfceflnjaaDoorFShut2
import Derived.Test.YtnbeplfceflnjaaDoorTie
import Derived.Test.YtnbeplfceflnjaaDoorCards
import Derived.SevenTiedAt
namespace Go.Proofs.YtnbeplfceflnjaaDoor
open Go.Joins Go.ChangeShapes Go.WideShapes Go.ChangeAt Go.RowKit Go.Deep
set_option linter.unusedVariables false

namespace FBack
set_option maxRecDepth 100000 in
theorem lifted (os : Os) (started : os.Started) (H : Type) (enc : TypeId × Value → H) :
    ReturnsInHanded {} Tryd.checked os 4 .any (fun w args => (Rows.frameBackSpec.pre enc Tryd.prog Tryd.f4 [] false w args ∧ laidMetH Tryd.prog laid2 w) ∧ sizedMet enc Tryd.prog Tryd.f4 (OpenSpec.ofChange Rows.frameBackSpec) false w args)
      (Rows.frameBackSpec.post enc Tryd.prog Tryd.f4 false true false false) := by
  refine returnsInHanded_of_change_and (C := Tryd.checked) (X := fun w _ => laidMetH Tryd.prog laid2 w) (fun _ _ _ hh h => h.of_heap hh) own started (by kernel_rfl) Tryd.func4
    (ChangeSpec.witness_shaped (enc := enc) (C := Tryd.checked) (os := os) (X := fun w _ => laidMetH Tryd.prog laid2 w) false (World.doorLaid Tryd.prog 400 os) #[.slice none 0 0, .slice none 0 0] 8 rfl (World.shaped_of_RefB (by kernel_rfl) (by kernel_rfl)) (by kernel_rfl) (by kernel_rfl) (by kernel_rfl) (door_met os _)) ?_
  intro W base args ds gs before hval0 hW _ hsz hL _
  have hval : ∀ (j : Nat) t v, Tryd.f4.params[j]? = some t → args[j]? = some v → Value.okWide Tryd.prog W .any base t v := hval0
  have hW' := hW
  obtain ⟨p, q, hA0, hV, rfl, hfz, hnd⟩ := hW
  have hA : DataW.TrodAll enc Tryd.prog W 0 (fun _ => true) true Tryd.f4.params.toList args.toList ds p := hA0
  rw [Tryd.params4] at hA hval
  obtain ⟨v0, vs0, d0, ds0, p0, q0, hargs, rfl, rfl, h0, r0⟩ := trodAll_cons hA
  obtain ⟨v1, vs1, d1, ds1, p1, q1, rfl, rfl, rfl, h1, r1⟩ := trodAll_cons r0
  obtain ⟨rfl, rfl, rfl⟩ := trodAll_nil r1
  obtain rfl : args = #[v0, v1] := by cases args; simp_all
  obtain ⟨rfl, rfl⟩ := trodVars_none hV
  have k0 := h0
  have lt0 : ∀ x ∈ p0, x.block < W.heap.size := by obtain ⟨m, hm⟩ := k0; exact DataW.trod_lt m _ _ _ hm
  have k1 := h1
  have lt1 : ∀ x ∈ p1, x.block < W.heap.size := by obtain ⟨m, hm⟩ := k1; exact DataW.trod_lt m _ _ _ hm
  have wt0 := weights_each _ _ hsz 0 23 d0 (by kernel_rfl) rfl
  have wt1 := weights_each _ _ hsz 1 22 d1 (by kernel_rfl) rfl
  obtain ⟨a0, len0, cap0, rfl⟩ := okWide_slice Tryd.underlying23 (hval 0 23 v0 rfl rfl)
  obtain ⟨l0, rfl, hf0, hw0⟩ := (show ∃ l : List (PF × SA), len0 = l.length ∧ Sf W W.heap.size a0 l ∧ l.length ≤ 140737488351232 by
    obtain ⟨fuel, hf⟩ := h0
    obtain ⟨A, c, l, he, hs, hcc, hmm, hww⟩ := frames_open (v := .slice a0 len0 cap0) (y := (d0, p0)) (by simpa [Value.cells] using hf) wt0
    simp only [Value.slice.injEq] at he
    obtain ⟨e1, e2, e3⟩ := he
    subst e1 e3
    exact ⟨l, e2, hs, hww⟩)
  obtain ⟨a2, len2, cap2, rfl⟩ := okWide_slice Tryd.underlying22 (hval 1 22 v1 rfl rfl)
  obtain ⟨l2, rfl, hl2, hc2, hm2, hw2⟩ := (show ∃ l : List UInt8, len2 = l.length ∧ Sl W W.heap.size a2 l ∧ l.length ≤ cap2 ∧ cap2 ≤ maxLen ∧ l.length ≤ 140737488351232 by
    obtain ⟨fuel, hf⟩ := h1
    have hf' : DataW.trod enc Tryd.prog W 0 (fun _ => true) true fuel 22 [.slice a2 len2 cap2] = some (d1, p1) := by simpa [Value.cells] using hf
    have hw := sl_weight hf' wt1
    obtain ⟨A, c, l, he, hs, hcc, hmm⟩ := sl_open hf'
    simp only [Value.slice.injEq] at he
    obtain ⟨e1, e2, e3⟩ := he
    subst e1 e3
    exact ⟨l, e2, hs, hcc, hmm, by omega⟩)
  clear hA0 hval0
  have hTT := tabs_of_laid hL
  refine (fback_any l0 l2 a0 l0.length cap0 a2 l2.length cap2 W hTT.2 hTT.1 rfl (by omega) hf0 rfl hc2 hm2 hl2 hw2).mono fun e W' ⟨he, bel⟩ => ?_
  subst he
  exact ⟨_, rfl, _, _, _, [], _, [], hW', trodAll_mk1 (shut_bool Tryd.underlying4 _), (trodAll_cons_mk (Below.trod laidOut (by kernel_rfl) (of_decide_eq_true (by kernel_rfl)) k0 bel lt0) (trodAll_cons_mk (Below.trod laidOut (by kernel_rfl) (of_decide_eq_true (by kernel_rfl)) k1 bel lt1) trodAll_mk0)), rfl, bel.frame _, fun h => by cases h⟩

theorem row_holds : Rows.FrameBackSaid :=
  OpenClaim.holds_of_wide 4 Tryd.f4 rfl rfl rfl rfl rfl rfl rfl ⟨rfl, rfl, rfl, rfl, rfl⟩ rfl rfl rfl rfl rfl (by kernel_rfl) Tryd.func4 (by kernel_rfl)
    (of_decide_eq_true (by kernel_rfl)) (by unfold Func.isWrapper; first | (rw [if_pos (by decide +kernel)]; kernel_rfl) | (rw [if_neg (by decide +kernel)]; exact ⟨rfl, rfl⟩))
    (fun os started H enc _ => lifted os started H enc)

theorem card_holds : Rows.FrameBackCardSaid :=
  Claim7.holds_tied_plain_at .later [] [.data, .data, .data] true Rows.frameBackCard.stood.harness false
    row_holds (fun _ h => by cases h) (by kernel_rfl) (fun _ h => by cases h) frameBack_row_tie rfl ⟨rfl, rfl⟩ (by kernel_rfl) rfl
    (fun f fn hf hfn => by
      obtain rfl : f = 4 := Option.some.inj ((show Tryd.prog.funcNamed Rows.frameBackRow.func = some 4 by kernel_rfl).symm.trans hf) |>.symm
      obtain rfl : fn = Tryd.f4 := (Option.some.inj (Tryd.func4.symm.trans hfn)).symm
      exact ⟨by kernel_rfl, fun j t ht => by
        rw [Tryd.params4] at ht
        have hm : t ∈ [23, 22] := by simpa using Array.mem_of_getElem? ht
        have hall : ([23, 22].all fun u => !Tryd.prog.wantsStandIn u) = true := by kernel_rfl
        exact (show Tryd.prog.wantsStandIn t = false by simpa using List.all_eq_true.1 hall t hm)⟩)
    (by kernel_rfl)
#print axioms card_holds
end FBack
end Go.Proofs.YtnbeplfceflnjaaDoor
