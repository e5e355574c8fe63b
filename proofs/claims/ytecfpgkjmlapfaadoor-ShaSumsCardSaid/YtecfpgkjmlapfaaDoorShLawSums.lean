/-
  The walk through the statement ShaSums.
-/
import Derived.Test.YtecfpgkjmlapfaaDoorShRefS
import Derived.Test.YtecfpgkjmlapfaaDoorShLawCut
namespace Go.Proofs.YtecfpgkjmlapfaaDoor
open Go.RowKit
set_option linter.unusedVariables false

theorem PartsIn.below {w w' : World} {B : Nat} {vs : List Value} {ps : List (List UInt8)} (h : PartsIn w B vs ps) (hb : Below B w w') : PartsIn w' B vs ps :=
  ⟨h.1, fun i v l hv hl => by
    obtain ⟨A, c, h1, h2, h3, h4⟩ := h.2 i v l hv hl
    exact ⟨A, c, h1, h2, h3, h4.below hb⟩⟩
theorem PartsIn.up {w : World} {B B' : Nat} {vs : List Value} {ps : List (List UInt8)} (h : PartsIn w B vs ps) (hB : B ≤ B') : PartsIn w B' vs ps :=
  ⟨h.1, fun i v l hv hl => by
    obtain ⟨A, c, h1, h2, h3, h4⟩ := h.2 i v l hv hl
    exact ⟨A, c, h1, h2, h3, h4.keep hB (fun _ _ => rfl)⟩⟩

set_option maxRecDepth 100000 in
set_option maxHeartbeats 800000 in
theorem shasums_any (vs : List Value) (ps : List (List UInt8)) (A : Option Addr) (len c : Nat) (w : World) (hK : KT w kW) (hKb : 0 < w.heap.size) (hA : Sv w w.heap.size A vs) (hvl : vs.length = len) (hlc : len ≤ c) (hcm : c ≤ maxLen)
    (hP : PartsIn w w.heap.size vs ps) (hlen : len ≤ 140737488351232) (hpl : ∀ l ∈ ps, l.length ≤ 140737488351232) :
    Calls Tryd.prog 3 #[.slice A len c] w fun e w' => e = .returned (.bool true) ∧ Below w.heap.size w w' := by
  have HKN := Lib.hid (known_any w hK hKb)
  have HA := Lib.hid hA
  have HV := Deep.mk hvl
  have HP := Deep.mk hP
  have HPL := Deep.mk hpl
  obtain ⟨ks, hks⟩ : ∃ ks, ks = kW := ⟨_, rfl⟩
  rw [← hks] at hK
  have HKK := Deep.mk hks
  have HKS : Deep (ks.length = 64) := ⟨by rw [hks]; exact kW_len⟩
  have HK := Lib.hid hK
  clear hA hvl hP hpl hK hks
  cases hg : greatB len ps
  · have hsmall : len + ps.flatten.length ≤ 3000 := by unfold greatB at hg; have := of_decide_eq_false hg; omega
    have HSM := Deep.mk hsmall
    have HG := Deep.mk hg
    clear hg hsmall
    obtain ⟨out, hout⟩ : ∃ out, out = sumK ks ps.flatten := ⟨_, rfl⟩
    have hol : out.length = 32 := by rw [hout]; exact sumK_len _ _
    have hE : ∀ w', (Op.equalIn 10000 25 (.agg (bRow out)) (.agg (bRow out))).run Tryd.prog w' = .ok true w' := fun w' => by rw [eq_sums out out hol hol]; simp
    have HOUT := Deep.mk hout
    obtain ⟨L, hL⟩ : ∃ L, L = ps.flatten := ⟨_, rfl⟩
    have hLm : L.length ≤ 3000 := by rw [hL]; have := HSM.out; omega
    have HOL : Deep (sumK kW L = out) := ⟨by rw [hout, hL, HKK.out]⟩
    have HSA : Hid (∀ w3, Below w.heap.size w w3 → Calls Tryd.prog 7 #[.slice A len c] w3 fun e w' => e = .returned (.agg (bRow out)) ∧ Below w3.heap.size w3 w') := fun w3 hb => by
      rw [hout]
      exact sum_any ks ps vs A len c w3 HKS.out (HK.out.below hKb hb) (Nat.lt_of_lt_of_le hKb hb.size) ((HA.out.below hb).keep hb.size (fun _ _ => rfl)) HV.out hlc hcm ((HP.out.below hb).up hb.size) (by have := HSM.out; omega)
    have HJ : Hid (∀ w3, Below w.heap.size w w3 → Calls Tryd.prog 9 #[.slice A len c] w3 (GaveB w3 L)) := fun w3 hb => by
      rw [hL]
      exact join_any ps vs A len c w.heap.size w3 hb.size (HA.out.below hb) HV.out (HP.out.below hb) hlen (by have := HSM.out; omega)
    clear hout hL
    go_enter Tryd.func3, Tryd.ntmps3
    go_wp2_with (first
      | (go_at_call 5; refine HKN.out.mono ?_; rintro e w1 ⟨rfl, hb1⟩; have HB1 := Lib.hid hb1; clear hb1)
      | (go_at_call 6; refine (great_any ps vs A len c w.heap.size w1 (HA.out.below HB1.out) HV.out (HP.out.below HB1.out) hlen HPL.out).mono ?_; rintro e w2 ⟨rfl, rfl⟩; rw [HG.out])
      | (go_at_call 7; refine (HSA.out w1 HB1.out).mono ?_; rintro e w3 ⟨rfl, hb3⟩; have HB3 := Lib.hid (HB1.out.trans (hb3.mono HB1.out.size)); clear hb3)
      | (go_at_call 9; refine (HJ.out w3 HB3.out).mono ?_; rintro e w4 ⟨A4, c4, rfl, h4a, h4b, hown4, hb4⟩; have HB4 := Lib.hid (HB3.out.trans (hb4.mono HB3.out.size)); have HS4 := Lib.hid (Sv.of_own hown4); clear hb4 hown4 h4a h4b)
      | (go_at_call 8; refine (rsum_any L L.length c4 w4.heap.size A4 w4 (Nat.le_refl _) rfl HS4.out (by omega)).mono ?_; rintro e w5 ⟨rfl, hb5⟩; rw [HOL.out]; have HB5 := Lib.hid (HB4.out.trans (hb5.mono HB4.out.size)); clear hb5))
    go_ret
    exact ⟨rfl, HB5.out⟩
  · have HG := Deep.mk hg
    clear hg
    go_enter Tryd.func3, Tryd.ntmps3
    go_wp2_with (first
      | (go_at_call 5; refine HKN.out.mono ?_; rintro e w1 ⟨rfl, hb1⟩; have HB1 := Lib.hid hb1; clear hb1)
      | (go_at_call 6; refine (great_any ps vs A len c w.heap.size w1 (HA.out.below HB1.out) HV.out (HP.out.below HB1.out) hlen HPL.out).mono ?_; rintro e w2 ⟨rfl, rfl⟩; rw [HG.out]))
    go_ret
    exact ⟨rfl, HB1.out⟩

end Go.Proofs.YtecfpgkjmlapfaaDoor
