/-
  hostlerlaw02.FrameAppends returns true for all bytes, every list of frames, every space and every kind, and writes nothing that was there: May, Size, Eliciting, Allowed and Append answer as the document's own answers do, and where a frame may not be, nothing is appended.
  Conditions: the two tables of math/bits and the program's own table of parts hold what the program's text lays; this is tied to the text by the given card. No list that comes in is above 2^47 bytes (the row's own premise on sizes).
-/
import Derived.Test.YtkkojhkglcigmaaDoorMGd
import Derived.Test.YtkkojhkglcigmaaDoorFShut2
import Derived.Test.YtkkojhkglcigmaaDoorTie
import Derived.Test.YtkkojhkglcigmaaDoorCards
import Derived.SevenTiedAt
namespace Go.Proofs.YtkkojhkglcigmaaDoor
open Go.Joins Go.ChangeShapes Go.WideShapes Go.ChangeAt Go.RowKit Go.Deep
set_option linter.unusedVariables false

namespace FAppends
set_option maxRecDepth 100000 in
theorem lifted (os : Os) (started : os.Started) (H : Type) (enc : TypeId × Value → H) :
    ReturnsInHanded {} Tryd.checked os 3 .any (fun w args => (Rows.frameAppendsSpec.pre enc Tryd.prog Tryd.f3 [] false w args ∧ laidMetH Tryd.prog laid2 w) ∧ sizedMet enc Tryd.prog Tryd.f3 (OpenSpec.ofChange Rows.frameAppendsSpec) false w args)
      (Rows.frameAppendsSpec.post enc Tryd.prog Tryd.f3 false true false false) := by
  refine returnsInHanded_of_change_and (C := Tryd.checked) (X := fun w _ => laidMetH Tryd.prog laid2 w) (fun _ _ _ hh h => h.of_heap hh) own started (by kernel_rfl) Tryd.func3
    (ChangeSpec.witness_shaped (enc := enc) (C := Tryd.checked) (os := os) (X := fun w _ => laidMetH Tryd.prog laid2 w) false (World.doorLaid Tryd.prog 400 os) #[.slice none 0 0, .slice none 0 0, .int .u8 0, .int .u64 0] 8 rfl (World.shaped_of_RefB (by kernel_rfl) (by kernel_rfl)) (by kernel_rfl) (by kernel_rfl) (by kernel_rfl) (door_met os _)) ?_
  intro W base args ds gs before hval0 hW _ hsz hL _
  have hval : ∀ (j : Nat) t v, Tryd.f3.params[j]? = some t → args[j]? = some v → Value.okWide Tryd.prog W .any base t v := hval0
  have hW' := hW
  obtain ⟨p, q, hA0, hV, rfl, hfz, hnd⟩ := hW
  have hA : DataW.TrodAll enc Tryd.prog W 0 (fun _ => true) true Tryd.f3.params.toList args.toList ds p := hA0
  rw [Tryd.params3] at hA hval
  obtain ⟨v0, vs0, d0, ds0, p0, q0, hargs, rfl, rfl, h0, r0⟩ := trodAll_cons hA
  obtain ⟨v1, vs1, d1, ds1, p1, q1, rfl, rfl, rfl, h1, r1⟩ := trodAll_cons r0
  obtain ⟨v2, vs2, d2, ds2, p2, q2, rfl, rfl, rfl, h2, r2⟩ := trodAll_cons r1
  obtain ⟨v3, vs3, d3, ds3, p3, q3, rfl, rfl, rfl, h3, r3⟩ := trodAll_cons r2
  obtain ⟨rfl, rfl, rfl⟩ := trodAll_nil r3
  obtain rfl : args = #[v0, v1, v2, v3] := by cases args; simp_all
  obtain ⟨rfl, rfl⟩ := trodVars_none hV
  have k0 := h0
  have lt0 : ∀ x ∈ p0, x.block < W.heap.size := by obtain ⟨m, hm⟩ := k0; exact DataW.trod_lt m _ _ _ hm
  have k1 := h1
  have lt1 : ∀ x ∈ p1, x.block < W.heap.size := by obtain ⟨m, hm⟩ := k1; exact DataW.trod_lt m _ _ _ hm
  have k2 := h2
  have lt2 : ∀ x ∈ p2, x.block < W.heap.size := by obtain ⟨m, hm⟩ := k2; exact DataW.trod_lt m _ _ _ hm
  have k3 := h3
  have lt3 : ∀ x ∈ p3, x.block < W.heap.size := by obtain ⟨m, hm⟩ := k3; exact DataW.trod_lt m _ _ _ hm
  have wt0 := weights_each _ _ hsz 0 22 d0 (by kernel_rfl) rfl
  have wt1 := weights_each _ _ hsz 1 23 d1 (by kernel_rfl) rfl
  obtain ⟨a0, len0, cap0, rfl⟩ := okWide_slice Tryd.underlying22 (hval 0 22 v0 rfl rfl)
  obtain ⟨l0, rfl, hl0, hw0⟩ := (show ∃ l : List UInt8, len0 = l.length ∧ Sl W W.heap.size a0 l ∧ l.length ≤ 140737488351232 by
    obtain ⟨fuel, hf⟩ := h0
    have hf' : DataW.trod enc Tryd.prog W 0 (fun _ => true) true fuel 22 [.slice a0 len0 cap0] = some (d0, p0) := by simpa [Value.cells] using hf
    have hw := sl_weight hf' wt0
    obtain ⟨A, c, l, he, hs, hcc, hmm⟩ := sl_open hf'
    simp only [Value.slice.injEq] at he
    obtain ⟨e1, e2, e3⟩ := he
    subst e1 e3
    exact ⟨l, e2, hs, by omega⟩)
  obtain ⟨a1, len1, cap1, rfl⟩ := okWide_slice Tryd.underlying23 (hval 1 23 v1 rfl rfl)
  obtain ⟨l1, rfl, hf1, hw1⟩ := (show ∃ l : List (PF × SA), len1 = l.length ∧ Sf W W.heap.size a1 l ∧ l.length ≤ 140737488351232 by
    obtain ⟨fuel, hf⟩ := h1
    obtain ⟨A, c, l, he, hs, hcc, hmm, hww⟩ := frames_open (v := .slice a1 len1 cap1) (y := (d1, p1)) (by simpa [Value.cells] using hf) wt1
    simp only [Value.slice.injEq] at he
    obtain ⟨e1, e2, e3⟩ := he
    subst e1 e3
    exact ⟨l, e2, hs, hww⟩)
  obtain ⟨z2, rfl⟩ := okWide_int Tryd.underlying5 (hval 2 5 v2 rfl rfl)
  have hw2 : (Lit.int .u8 z2).wf = true := by
    obtain ⟨fuel, hf⟩ := h2
    obtain ⟨z, e, _, hwf⟩ := DataW.trod_int Tryd.underlying5 hf
    simp [Value.cells] at e
    rw [e]
    exact hwf
  have hb2 := bounds_u8 hw2
  obtain ⟨s2, rfl⟩ : ∃ s : Nat, z2 = (s : Int) := ⟨z2.toNat, by omega⟩
  obtain ⟨z3, rfl⟩ := okWide_int Tryd.underlying24 (hval 3 24 v3 rfl rfl)
  have hw3 : (Lit.int .u64 z3).wf = true := by
    obtain ⟨fuel, hf⟩ := h3
    obtain ⟨z, e, _, hwf⟩ := DataW.trod_int Tryd.underlying24 hf
    simp [Value.cells] at e
    rw [e]
    exact hwf
  have hb3 := bounds_u64 hw3
  obtain ⟨s3, rfl⟩ : ∃ s : Nat, z3 = (s : Int) := ⟨z3.toNat, by omega⟩
  clear hA0 hval0
  have hTT := tabs_of_laid hL
  refine (fapp_any l1 l0 a0 l0.length cap0 a1 l1.length cap1 s2 s3 W hTT.2 hTT.1 rfl (by omega) hf1 rfl hw0 hl0).mono fun e W' ⟨he, bel⟩ => ?_
  subst he
  exact ⟨_, rfl, _, _, _, [], _, [], hW', trodAll_mk1 (shut_bool Tryd.underlying4 _), (trodAll_cons_mk (Below.trod laidOut (by kernel_rfl) (of_decide_eq_true (by kernel_rfl)) k0 bel lt0) (trodAll_cons_mk (Below.trod laidOut (by kernel_rfl) (of_decide_eq_true (by kernel_rfl)) k1 bel lt1) (trodAll_cons_mk (Below.trod laidOut (by kernel_rfl) (of_decide_eq_true (by kernel_rfl)) k2 bel lt2) (trodAll_cons_mk (Below.trod laidOut (by kernel_rfl) (of_decide_eq_true (by kernel_rfl)) k3 bel lt3) trodAll_mk0)))), rfl, bel.frame _, fun h => by cases h⟩

theorem row_holds : Rows.FrameAppendsSaid :=
  OpenClaim.holds_of_wide 3 Tryd.f3 rfl rfl rfl rfl rfl rfl rfl ⟨rfl, rfl, rfl, rfl, rfl⟩ rfl rfl rfl rfl rfl (by kernel_rfl) Tryd.func3 (by kernel_rfl)
    (of_decide_eq_true (by kernel_rfl)) (by unfold Func.isWrapper; first | (rw [if_pos (by decide +kernel)]; kernel_rfl) | (rw [if_neg (by decide +kernel)]; exact ⟨rfl, rfl⟩))
    (fun os started H enc _ => lifted os started H enc)

theorem card_holds : Rows.FrameAppendsCardSaid :=
  Claim7.holds_tied_plain_at .later [] [.data, .data, .data] true Rows.frameAppendsCard.stood.harness false
    row_holds (fun _ h => by cases h) (by kernel_rfl) (fun _ h => by cases h) frameAppends_row_tie rfl ⟨rfl, rfl⟩ (by kernel_rfl) rfl
    (fun f fn hf hfn => by
      obtain rfl : f = 3 := Option.some.inj ((show Tryd.prog.funcNamed Rows.frameAppendsRow.func = some 3 by kernel_rfl).symm.trans hf) |>.symm
      obtain rfl : fn = Tryd.f3 := (Option.some.inj (Tryd.func3.symm.trans hfn)).symm
      exact ⟨by kernel_rfl, fun j t ht => by
        rw [Tryd.params3] at ht
        have hm : t ∈ [22, 23, 5, 24] := by simpa using Array.mem_of_getElem? ht
        have hall : ([22, 23, 5, 24].all fun u => !Tryd.prog.wantsStandIn u) = true := by kernel_rfl
        exact (show Tryd.prog.wantsStandIn t = false by simpa using List.all_eq_true.1 hall t hm)⟩)
    (by kernel_rfl)
#print axioms card_holds
end FAppends
end Go.Proofs.YtkkojhkglcigmaaDoor
