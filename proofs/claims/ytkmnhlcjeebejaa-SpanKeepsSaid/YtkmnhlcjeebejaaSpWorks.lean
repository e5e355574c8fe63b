/-
  The walks through hostlerlaw11.works and SpanKnown: made by tools/gen_spworks.py.
-/
import Derived.Test.YtkmnhlcjeebejaaSpLaw0
namespace Go.Proofs.Ytkmnhlcjeebejaa
open Go.RowKit
set_option linter.unusedVariables false

theorem lit_add : ∀ x, (inB (pairsL [1, 3, 5, 7]) x || inB (pairsL [3, 5]) x) = inB (pairsL [1, 7]) x := by
  intro x
  rw [Bool.eq_iff_iff]
  simp [pairsL, inB]
  omega
theorem lit_cut : ∀ x, (inB (pairsL [1, 9]) x && !inB (pairsL [3, 4, 6, 20]) x) = inB (pairsL [1, 3, 4, 6]) x := by
  intro x
  rw [Bool.eq_iff_iff]
  simp [pairsL, inB]
  omega
theorem lit_same : ∀ x, (inB (pairsL [1, 3, 5, 7]) x || inB (pairsL [9, 9]) x) = inB (pairsL [1, 3, 5, 7]) x := by
  intro x
  rw [Bool.eq_iff_iff]
  simp [pairsL, inB]
  omega
theorem lit_both : ∀ x, (inB (pairsL [1, 4, 6, 9]) x && inB (pairsL [3, 7]) x) = inB (pairsL [3, 4, 6, 7]) x := by
  intro x
  rw [Bool.eq_iff_iff]
  simp [pairsL, inB]
  omega
theorem neat_17 : NeatL (pairsL [1, 7]) := by unfold NeatL; decide
theorem neat_1346 : NeatL (pairsL [1, 3, 4, 6]) := by unfold NeatL; decide
theorem neat_1357 : NeatL (pairsL [1, 3, 5, 7]) := by unfold NeatL; decide
theorem neat_3467 : NeatL (pairsL [3, 4, 6, 7]) := by unfold NeatL; decide
theorem neat_13 : NeatL (pairsL [1, 3]) := by unfold NeatL; decide
theorem neat_1223 : ¬ NeatL (pairsL [1, 2, 2, 3]) := by unfold NeatL; decide

set_option maxRecDepth 10000 in
set_option maxHeartbeats 2000000 in
theorem works_any (w : World) : Calls Try.prog 8 #[] w (Says true w) := by
  have HB := Lib.hid (Below.refl w.heap.size w)
  go_enter Try.func8, Try.ntmps8
  go_wp2_with fail
  refine (of_lit w [1, 3, 5, 7] (by decide) (by unfold FitL; decide)).mono ?_
  rintro e w1 ⟨Aa, na, ca, rfl, hl, hna, hb⟩
  have La := Lib.hid hl
  clear hl
  replace HB := Lib.hid (HB.out.trans (hb.mono HB.out.size))
  clear hb
  go_wp2_with fail
  refine (of_lit w1 [3, 5] (by decide) (by unfold FitL; decide)).mono ?_
  rintro e w2 ⟨Ab, nb, cb, rfl, hl, hnb, hb⟩
  have Lb := Lib.hid hl
  clear hl
  replace La := Lib.hid (La.out.on hb)
  replace HB := Lib.hid (HB.out.trans (hb.mono HB.out.size))
  clear hb
  go_wp2_with fail
  refine (add_h La.out Lb.out (by omega) (by omega)).mono ?_
  rintro e w3 ⟨As, ns, cs, ls, rfl, hl, hq, hi, hns, hb⟩
  have Ls := Lib.hid hl
  have Ns := Lib.hid hq
  have Is := Lib.hid hi
  clear hl hq hi
  replace La := Lib.hid (La.out.on hb)
  replace Lb := Lib.hid (Lb.out.on hb)
  replace HB := Lib.hid (HB.out.trans (hb.mono HB.out.size))
  clear hb
  go_wp2_with fail
  refine (of_lit w3 [1, 7] (by decide) (by unfold FitL; decide)).mono ?_
  rintro e w4 ⟨At, nt, ct, rfl, hl, hnt, hb⟩
  have Lt := Lib.hid hl
  clear hl
  replace La := Lib.hid (La.out.on hb)
  replace Lb := Lib.hid (Lb.out.on hb)
  replace Ls := Lib.hid (Ls.out.on hb)
  replace HB := Lib.hid (HB.out.trans (hb.mono HB.out.size))
  clear hb
  go_wp2_with fail
  refine (same_yes Ls.out Lt.out (neat_unique Ns.out neat_17 fun x => (Is.out x).trans (lit_add x))).mono ?_
  rintro e w5 ⟨rfl, hb⟩
  replace La := Lib.hid (La.out.on hb)
  replace Lb := Lib.hid (Lb.out.on hb)
  replace Ls := Lib.hid (Ls.out.on hb)
  replace Lt := Lib.hid (Lt.out.on hb)
  replace HB := Lib.hid (HB.out.trans (hb.mono HB.out.size))
  clear hb
  clear La Lb Ls Lt
  go_wp2_with fail
  refine (of_lit w5 [1, 9] (by decide) (by unfold FitL; decide)).mono ?_
  rintro e w6 ⟨Ad, nd, cd, rfl, hl, hnd, hb⟩
  have Ld := Lib.hid hl
  clear hl
  replace HB := Lib.hid (HB.out.trans (hb.mono HB.out.size))
  clear hb
  go_wp2_with fail
  refine (of_lit w6 [3, 4, 6, 20] (by decide) (by unfold FitL; decide)).mono ?_
  rintro e w7 ⟨Af, nf, cf, rfl, hl, hnf, hb⟩
  have Lf := Lib.hid hl
  clear hl
  replace Ld := Lib.hid (Ld.out.on hb)
  replace HB := Lib.hid (HB.out.trans (hb.mono HB.out.size))
  clear hb
  go_wp2_with fail
  refine (cut_h Ld.out Lf.out (by omega) (by omega)).mono ?_
  rintro e w8 ⟨Ag, ng, cg, lg, rfl, hl, hq, hi, hng, hb⟩
  have Lg := Lib.hid hl
  have Ng := Lib.hid hq
  have Ig := Lib.hid hi
  clear hl hq hi
  replace Ld := Lib.hid (Ld.out.on hb)
  replace Lf := Lib.hid (Lf.out.on hb)
  replace HB := Lib.hid (HB.out.trans (hb.mono HB.out.size))
  clear hb
  go_wp2_with fail
  refine (of_lit w8 [1, 3, 4, 6] (by decide) (by unfold FitL; decide)).mono ?_
  rintro e w9 ⟨Ah, nh, ch, rfl, hl, hnh, hb⟩
  have Lh := Lib.hid hl
  clear hl
  replace Ld := Lib.hid (Ld.out.on hb)
  replace Lf := Lib.hid (Lf.out.on hb)
  replace Lg := Lib.hid (Lg.out.on hb)
  replace HB := Lib.hid (HB.out.trans (hb.mono HB.out.size))
  clear hb
  go_wp2_with fail
  refine (same_yes Lg.out Lh.out (neat_unique Ng.out neat_1346 fun x => (Ig.out x).trans (lit_cut x))).mono ?_
  rintro e w10 ⟨rfl, hb⟩
  replace Ld := Lib.hid (Ld.out.on hb)
  replace Lf := Lib.hid (Lf.out.on hb)
  replace Lg := Lib.hid (Lg.out.on hb)
  replace Lh := Lib.hid (Lh.out.on hb)
  replace HB := Lib.hid (HB.out.trans (hb.mono HB.out.size))
  clear hb
  clear Ld Lf Lg Lh
  go_wp2_with fail
  refine (of_lit w10 [1, 3] (by decide) (by unfold FitL; decide)).mono ?_
  rintro e w11 ⟨Ai, ni, ci, rfl, hl, hni, hb⟩
  have Li := Lib.hid hl
  clear hl
  replace HB := Lib.hid (HB.out.trans (hb.mono HB.out.size))
  clear hb
  have hcn := count_h Li.out neat_13 (fun x => rfl)
  rw [show totalL (pairsL [1, 3]) = 2 from rfl] at hcn
  go_wp2_with fail
  refine (hcn).mono ?_
  rintro e w12 ⟨rfl, hb⟩
  replace Li := Lib.hid (Li.out.on hb)
  replace HB := Lib.hid (HB.out.trans (hb.mono HB.out.size))
  clear hb
  clear hcn
  go_wp2
  go_ret
  exact ⟨rfl, HB.out⟩

theorem gap_lit1 : GapOf (pairsL [1, 3]) 1 3 := ⟨by omega, by decide, fun n h1 h2 => by
  rw [inB_iff]
  exact ⟨(1, 3), by simp [pairsL], h1, h2⟩⟩
theorem gap_lit7 : GapOf (pairsL [1, 3]) 7 7 := ⟨by omega, by decide, fun n h1 h2 => by omega⟩

set_option maxRecDepth 10000 in
set_option maxHeartbeats 4000000 in
theorem known_any (w : World) : Calls Try.prog 3 #[] w (Says true w) := by
  have HB := Lib.hid (Below.refl w.heap.size w)
  go_enter Try.func3, Try.ntmps3
  go_wp2_with fail
  refine (works_any _).mono ?_
  rintro e w1 ⟨rfl, hb⟩
  replace HB := Lib.hid (HB.out.trans (hb.mono HB.out.size))
  clear hb
  go_wp2_with fail
  refine (of_lit w1 [1, 3, 5, 7] (by decide) (by unfold FitL; decide)).mono ?_
  rintro e w2 ⟨Aa, na, ca, rfl, hl, hna, hb⟩
  have La := Lib.hid hl
  clear hl
  replace HB := Lib.hid (HB.out.trans (hb.mono HB.out.size))
  clear hb
  go_wp2_with fail
  refine (of_lit w2 [9, 9] (by decide) (by unfold FitL; decide)).mono ?_
  rintro e w3 ⟨Ab, nb, cb, rfl, hl, hnb, hb⟩
  have Lb := Lib.hid hl
  clear hl
  replace La := Lib.hid (La.out.on hb)
  replace HB := Lib.hid (HB.out.trans (hb.mono HB.out.size))
  clear hb
  go_wp2_with fail
  refine (add_h La.out Lb.out (by omega) (by omega)).mono ?_
  rintro e w4 ⟨As, ns, cs, ls, rfl, hl, hq, hi, hns, hb⟩
  have Ls := Lib.hid hl
  have Ns := Lib.hid hq
  have Is := Lib.hid hi
  clear hl hq hi
  replace La := Lib.hid (La.out.on hb)
  replace Lb := Lib.hid (Lb.out.on hb)
  replace HB := Lib.hid (HB.out.trans (hb.mono HB.out.size))
  clear hb
  go_wp2_with fail
  refine (of_lit w4 [1, 3, 5, 7] (by decide) (by unfold FitL; decide)).mono ?_
  rintro e w5 ⟨At, nt, ct, rfl, hl, hnt, hb⟩
  have Lt := Lib.hid hl
  clear hl
  replace La := Lib.hid (La.out.on hb)
  replace Lb := Lib.hid (Lb.out.on hb)
  replace Ls := Lib.hid (Ls.out.on hb)
  replace HB := Lib.hid (HB.out.trans (hb.mono HB.out.size))
  clear hb
  go_wp2_with fail
  refine (same_yes Ls.out Lt.out (neat_unique Ns.out neat_1357 fun x => (Is.out x).trans (lit_same x))).mono ?_
  rintro e w6 ⟨rfl, hb⟩
  replace La := Lib.hid (La.out.on hb)
  replace Lb := Lib.hid (Lb.out.on hb)
  replace Ls := Lib.hid (Ls.out.on hb)
  replace Lt := Lib.hid (Lt.out.on hb)
  replace HB := Lib.hid (HB.out.trans (hb.mono HB.out.size))
  clear hb
  clear La Lb Ls Lt
  go_wp2_with fail
  refine (of_lit w6 [1, 4, 6, 9] (by decide) (by unfold FitL; decide)).mono ?_
  rintro e w7 ⟨Ad, nd, cd, rfl, hl, hnd, hb⟩
  have Ld := Lib.hid hl
  clear hl
  replace HB := Lib.hid (HB.out.trans (hb.mono HB.out.size))
  clear hb
  go_wp2_with fail
  refine (of_lit w7 [3, 7] (by decide) (by unfold FitL; decide)).mono ?_
  rintro e w8 ⟨Af, nf, cf, rfl, hl, hnf, hb⟩
  have Lf := Lib.hid hl
  clear hl
  replace Ld := Lib.hid (Ld.out.on hb)
  replace HB := Lib.hid (HB.out.trans (hb.mono HB.out.size))
  clear hb
  go_wp2_with fail
  refine (both_h Ld.out Lf.out (by omega) (by omega)).mono ?_
  rintro e w9 ⟨Ag, ng, cg, lg, rfl, hl, hq, hi, hng, hb⟩
  have Lg := Lib.hid hl
  have Ng := Lib.hid hq
  have Ig := Lib.hid hi
  clear hl hq hi
  replace Ld := Lib.hid (Ld.out.on hb)
  replace Lf := Lib.hid (Lf.out.on hb)
  replace HB := Lib.hid (HB.out.trans (hb.mono HB.out.size))
  clear hb
  go_wp2_with fail
  refine (of_lit w9 [3, 4, 6, 7] (by decide) (by unfold FitL; decide)).mono ?_
  rintro e w10 ⟨Ah, nh, ch, rfl, hl, hnh, hb⟩
  have Lh := Lib.hid hl
  clear hl
  replace Ld := Lib.hid (Ld.out.on hb)
  replace Lf := Lib.hid (Lf.out.on hb)
  replace Lg := Lib.hid (Lg.out.on hb)
  replace HB := Lib.hid (HB.out.trans (hb.mono HB.out.size))
  clear hb
  go_wp2_with fail
  refine (same_yes Lg.out Lh.out (neat_unique Ng.out neat_3467 fun x => (Ig.out x).trans (lit_both x))).mono ?_
  rintro e w11 ⟨rfl, hb⟩
  replace Ld := Lib.hid (Ld.out.on hb)
  replace Lf := Lib.hid (Lf.out.on hb)
  replace Lg := Lib.hid (Lg.out.on hb)
  replace Lh := Lib.hid (Lh.out.on hb)
  replace HB := Lib.hid (HB.out.trans (hb.mono HB.out.size))
  clear hb
  clear Ld Lf Lg Lh
  go_wp2_with fail
  refine (of_lit w11 [1, 3] (by decide) (by unfold FitL; decide)).mono ?_
  rintro e w12 ⟨Ai, ni, ci, rfl, hl, hni, hb⟩
  have Li := Lib.hid hl
  clear hl
  replace HB := Lib.hid (HB.out.trans (hb.mono HB.out.size))
  clear hb
  go_wp2_with fail
  refine (has_lit Li.out [1, 2] (by decide) (b := true) (by decide)).mono ?_
  rintro e w13 ⟨rfl, hb⟩
  replace Li := Lib.hid (Li.out.on hb)
  replace HB := Lib.hid (HB.out.trans (hb.mono HB.out.size))
  clear hb
  clear Li
  go_wp2_with fail
  refine (of_lit w13 [1, 3] (by decide) (by unfold FitL; decide)).mono ?_
  rintro e w14 ⟨Aj, nj, cj, rfl, hl, hnj, hb⟩
  have Lj := Lib.hid hl
  clear hl
  replace HB := Lib.hid (HB.out.trans (hb.mono HB.out.size))
  clear hb
  go_wp2_with fail
  refine (has_lit Lj.out [3] (by decide) (b := false) (by decide)).mono ?_
  rintro e w15 ⟨rfl, hb⟩
  replace Lj := Lib.hid (Lj.out.on hb)
  replace HB := Lib.hid (HB.out.trans (hb.mono HB.out.size))
  clear hb
  clear Lj
  go_wp2_with fail
  refine (of_lit w15 [1, 3] (by decide) (by unfold FitL; decide)).mono ?_
  rintro e w16 ⟨Ak, nk, ck, rfl, hl, hnk, hb⟩
  have Lk := Lib.hid hl
  clear hl
  replace HB := Lib.hid (HB.out.trans (hb.mono HB.out.size))
  clear hb
  go_wp2_with fail
  refine (gap_h Lk.out gap_lit1).mono ?_
  rintro e w17 ⟨rfl, hb⟩
  replace Lk := Lib.hid (Lk.out.on hb)
  replace HB := Lib.hid (HB.out.trans (hb.mono HB.out.size))
  clear hb
  clear Lk
  go_wp2_with fail
  refine (of_lit w17 [1, 3] (by decide) (by unfold FitL; decide)).mono ?_
  rintro e w18 ⟨Am, nm, cm, rfl, hl, hnm, hb⟩
  have Lm := Lib.hid hl
  clear hl
  replace HB := Lib.hid (HB.out.trans (hb.mono HB.out.size))
  clear hb
  go_wp2_with fail
  refine (gap_h Lm.out gap_lit7).mono ?_
  rintro e w19 ⟨rfl, hb⟩
  replace Lm := Lib.hid (Lm.out.on hb)
  replace HB := Lib.hid (HB.out.trans (hb.mono HB.out.size))
  clear hb
  clear Lm
  go_wp2_with fail
  refine (neat_yes (Live.nil _) neat_nil).mono ?_
  rintro e w20 ⟨rfl, hb⟩
  replace HB := Lib.hid (HB.out.trans (hb.mono HB.out.size))
  clear hb
  go_wp2_with fail
  refine (of_lit w20 [1, 2, 2, 3] (by decide) (by unfold FitL; decide)).mono ?_
  rintro e w21 ⟨Ap, np, cp, rfl, hl, hnp, hb⟩
  have Lp := Lib.hid hl
  clear hl
  replace HB := Lib.hid (HB.out.trans (hb.mono HB.out.size))
  clear hb
  go_wp2_with fail
  refine (neat_not Lp.out neat_1223).mono ?_
  rintro e w22 ⟨rfl, hb⟩
  replace Lp := Lib.hid (Lp.out.on hb)
  replace HB := Lib.hid (HB.out.trans (hb.mono HB.out.size))
  clear hb
  clear Lp
  go_wp2_with fail
  refine (has_none (Live.nil _)).mono ?_
  rintro e w23 ⟨rfl, hb⟩
  replace HB := Lib.hid (HB.out.trans (hb.mono HB.out.size))
  clear hb
  go_wp2
  go_ret
  exact ⟨rfl, HB.out⟩

end Go.Proofs.Ytkmnhlcjeebejaa
