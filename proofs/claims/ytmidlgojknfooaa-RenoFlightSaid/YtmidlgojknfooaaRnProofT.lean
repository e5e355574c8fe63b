/-
  Every call of the law RenoFlight returns true and changes nothing that was there before: what was sent and is gone leaves what is on its way as it was.
  Conditions: none.
-/
import Derived.Test.YtmidlgojknfooaaRnOpen
import Derived.Test.YtmidlgojknfooaaRnFlight
namespace Go.Proofs.Ytmidlgojknfooaa
open Go.Joins Go.ChangeShapes Go.WideShapes Go.ChangeAt Go.RowKit Go.Deep
set_option linter.unusedVariables false

namespace renoFlight
set_option maxRecDepth 100000 in
theorem lifted (os : Os) (started : os.Started) (H : Type) (enc : TypeId × Value → H) :
    ReturnsInHanded {} Try.checked os 4 .any (Rows.renoFlightSpec.pre6 enc Try.prog Try.f4 Rows.renoFlightRow.domain false) (Rows.renoFlightSpec.post enc Try.prog Try.f4 false true false false) := by
  refine returnsInHanded_of_change (C := Try.checked) own started (by kernel_rfl) Try.func4
    (ChangeSpec.witness6 (enc := enc) (C := Try.checked) false ⟨#[], #[.slice none 0 0, .slice none 0 0], []⟩ 8 (by kernel_rfl) (by kernel_rfl) (by kernel_rfl) (by kernel_rfl)) ?_
  intro W base args ds gs before hval0 hW hcnd _
  have hval : ∀ (j : Nat) t v, Try.f4.params[j]? = some t → args[j]? = some v → Value.okWide Try.prog W .any base t v := hval0
  have hW' := hW
  obtain ⟨p, q, hA0, hV, rfl, hfz, hnd⟩ := hW
  have hA : DataW.TrodAll enc Try.prog W 0 (fun _ => true) true Try.f4.params.toList args.toList ds p := hA0
  rw [Try.params4] at hA hval
  obtain ⟨v0, vs0, d0, ds0, p0, q0, hargs, rfl, rfl, h0, r0⟩ := trodAll_cons hA
  obtain ⟨v1, vs1, d1, ds1, p1, q1, rfl, rfl, rfl, h1, r1⟩ := trodAll_cons r0
  obtain ⟨rfl, rfl, rfl⟩ := trodAll_nil r1
  obtain rfl : args = #[v0, v1] := by cases args; simp_all
  obtain ⟨rfl, rfl⟩ := trodVars_none hV
  have k0 := h0
  have lt0 : ∀ x ∈ p0, x.block < W.heap.size := by obtain ⟨m, hm⟩ := k0; exact DataW.trod_lt m _ _ _ hm
  have k1 := h1
  have lt1 : ∀ x ∈ p1, x.block < W.heap.size := by obtain ⟨m, hm⟩ := k1; exact DataW.trod_lt m _ _ _ hm
  obtain ⟨a0, len0, c0, rfl⟩ := okWide_slice Try.underlying27 (hval 0 27 v0 rfl rfl)
  obtain ⟨l0, hln0, hs0, hlc0, hcm0⟩ := (show ∃ l : List Nat, l.length = len0 ∧ (fun W B A (l : List Nat) => Sv W B A (l.map cell64) ∧ ∀ n ∈ l, n ≤ mU) W W.heap.size a0 l ∧ l.length ≤ c0 ∧ c0 ≤ maxLen by
    obtain ⟨fuel, hf⟩ := h0
    have hf' : DataW.trod enc Try.prog W 0 (fun _ => true) true fuel 27 [.slice a0 len0 c0] = some (d0, p0) := by simpa [Value.cells] using hf
    obtain ⟨A, c, l, he, hs, hx, hy, hz⟩ := nums_openN (v := .slice a0 len0 c0) hf'
    simp only [Value.slice.injEq] at he
    obtain ⟨rfl, rfl, rfl⟩ := he
    exact ⟨l, rfl, ⟨hs, hz⟩, hx, hy⟩)
  subst hln0
  obtain ⟨a1, len1, c1, rfl⟩ := okWide_slice Try.underlying27 (hval 1 27 v1 rfl rfl)
  obtain ⟨l1, hln1, hs1, hlc1, hcm1⟩ := (show ∃ l : List Nat, l.length = len1 ∧ (fun W B A (l : List Nat) => Sv W B A (l.map cell64) ∧ ∀ n ∈ l, n ≤ mU) W W.heap.size a1 l ∧ l.length ≤ c1 ∧ c1 ≤ maxLen by
    obtain ⟨fuel, hf⟩ := h1
    have hf' : DataW.trod enc Try.prog W 0 (fun _ => true) true fuel 27 [.slice a1 len1 c1] = some (d1, p1) := by simpa [Value.cells] using hf
    obtain ⟨A, c, l, he, hs, hx, hy, hz⟩ := nums_openN (v := .slice a1 len1 c1) hf'
    simp only [Value.slice.injEq] at he
    obtain ⟨rfl, rfl, rfl⟩ := he
    exact ⟨l, rfl, ⟨hs, hz⟩, hx, hy⟩)
  subst hln1
  clear hA0 hval0
  refine (flight_any a0 a1 l0.length c0 l1.length c1 l0 l1 W rfl rfl hs0.1 hs1.1 hlc0 hlc1 hcm0 hcm1).mono fun e W' ⟨he, bel⟩ => ?_
  subst he
  exact ⟨_, rfl, _, _, _, [], _, [], hW', trodAll_mk1 (shut_bool Try.underlying4 _), (trodAll_cons_mk (Below.trod laidOut (by kernel_rfl) (of_decide_eq_true (by kernel_rfl)) k0 bel lt0) (trodAll_cons_mk (Below.trod laidOut (by kernel_rfl) (of_decide_eq_true (by kernel_rfl)) k1 bel lt1) trodAll_mk0)), rfl, bel.frame _, fun h => by cases h⟩

/-- The statement. -/
theorem proved : Rows.RenoFlightSaid :=
  OpenClaim.holds_of_wide 4 Try.f4 rfl rfl rfl rfl rfl rfl rfl ⟨rfl, rfl, rfl, rfl, rfl⟩ rfl rfl rfl rfl rfl (by kernel_rfl) Try.func4 (by kernel_rfl)
    (of_decide_eq_true (by kernel_rfl)) (by unfold Func.isWrapper; first | (rw [if_pos (by decide +kernel)]; kernel_rfl) | (rw [if_neg (by decide +kernel)]; exact ⟨rfl, rfl⟩))
    (fun os started H enc _ => lifted os started H enc)
#print axioms proved
end renoFlight
end Go.Proofs.Ytmidlgojknfooaa
