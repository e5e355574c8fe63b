/-
  The walk through hostlerlaw11.SpanMakes: made by tools/gen_splaws.py.
-/
import Derived.Test.YtkmnhlcjeebejaaSpWorks
namespace Go.Proofs.Ytkmnhlcjeebejaa
open Go.RowKit
set_option linter.unusedVariables false

theorem sel0 (p q : Bool) : selB 0 p q = (p || q) := by simp [selB]
theorem sel1 (p q : Bool) : selB 1 p q = (p && !q) := by simp [selB]
theorem sel2 (p q : Bool) : selB 2 p q = (p && q) := by simp [selB]

set_option maxRecDepth 10000 in
set_option maxHeartbeats 8000000 in
theorem makes_any (A1 A2 : Option Addr) (n1 c1 n2 c2 : Nat) (a b : List (Nat × Nat)) (w : World) (ha : a.length = n1) (hb : b.length = n2) (hr1 : Rs w w.heap.size A1 a) (hr2 : Rs w w.heap.size A2 b)
    (hc1 : a.length ≤ c1) (hc2 : b.length ≤ c2) (hm1 : c1 ≤ maxLen) (hm2 : c2 ≤ maxLen) (hf1 : FitL a) (hf2 : FitL b) :
    Calls Try.prog 4 #[.slice A1 n1 c1, .slice A2 n2 c2] w (Says true w) := by
  have hnm1 : n1 ≤ 9223372036854775807 := by unfold maxLen at hm1; omega
  have hnm2 : n2 ≤ 9223372036854775807 := by unfold maxLen at hm2; omega
  by_cases h1 : n1 ≤ 60
  rotate_left
  · have d1 : decide ((n1 : Int) > 60) = true := decide_eq_true (by omega)
    clear ha hb hr1 hr2 hc1 hc2 hm1 hm2 hf1 hf2
    go_enter Try.func4, Try.ntmps4
    go_wp2_with (go_at_call 8; refine (works_any _).mono ?_; rintro e w1 ⟨rfl, hb1⟩)
    go_ret
    exact ⟨rfl, hb1⟩
  have d1 : decide ((n1 : Int) > 60) = false := decide_eq_false (by omega)
  by_cases h2 : n2 ≤ 60
  rotate_left
  · have d2 : decide ((n2 : Int) > 60) = true := decide_eq_true (by omega)
    clear ha hb hr1 hr2 hc1 hc2 hm1 hm2 hf1 hf2
    go_enter Try.func4, Try.ntmps4
    go_wp2_with (go_at_call 8; refine (works_any _).mono ?_; rintro e w1 ⟨rfl, hb1⟩)
    go_ret
    exact ⟨rfl, hb1⟩
  have d2 : decide ((n2 : Int) > 60) = false := decide_eq_false (by omega)
  have La : Hid (Live w A1 n1 c1 a) := Lib.hid ⟨ha, by omega, hr1, by omega, hm1, hf1⟩
  have Lb : Hid (Live w A2 n2 c2 b) := Lib.hid ⟨hb, by omega, hr2, by omega, hm2, hf2⟩
  clear ha hb hr1 hr2 hc1 hc2 hm1 hm2 hf1 hf2
  have HB := Lib.hid (Below.refl w.heap.size w)
  go_enter Try.func4, Try.ntmps4
  go_wp2_with fail
  refine (add_h La.out Lb.out (by omega) (by omega)).mono ?_
  rintro e w1 ⟨As0, ns0, cs0, ls0, rfl, hl, hq, hi, hns0, hb⟩
  have Ls0 := Lib.hid hl
  have Ns0 := Lib.hid hq
  have Is0 := Lib.hid hi
  clear hl hq hi
  replace La := Lib.hid (La.out.on hb)
  replace Lb := Lib.hid (Lb.out.on hb)
  replace HB := Lib.hid (HB.out.trans (hb.mono HB.out.size))
  clear hb
  go_wp2_with fail
  refine (make_h 0 (.inl rfl) La.out Lb.out (by omega) (by omega)).mono ?_
  rintro e w2 ⟨At0, nt0, ct0, lt0, rfl, hl, hq, hi, hnt0, hb⟩
  have Lt0 := Lib.hid hl
  have Nt0 := Lib.hid hq
  have It0 := Lib.hid hi
  clear hl hq hi
  replace La := Lib.hid (La.out.on hb)
  replace Lb := Lib.hid (Lb.out.on hb)
  replace Ls0 := Lib.hid (Ls0.out.on hb)
  replace HB := Lib.hid (HB.out.trans (hb.mono HB.out.size))
  clear hb
  go_wp2_with fail
  refine (same_yes Ls0.out Lt0.out (neat_unique Ns0.out Nt0.out fun x => (Is0.out x).trans ((It0.out x).trans (sel0 _ _)).symm)).mono ?_
  rintro e w3 ⟨rfl, hb⟩
  replace La := Lib.hid (La.out.on hb)
  replace Lb := Lib.hid (Lb.out.on hb)
  replace Ls0 := Lib.hid (Ls0.out.on hb)
  replace Lt0 := Lib.hid (Lt0.out.on hb)
  replace HB := Lib.hid (HB.out.trans (hb.mono HB.out.size))
  clear hb
  clear Ls0 Lt0
  clear Ns0 Nt0 Is0 It0
  go_wp2_with fail
  refine (cut_h La.out Lb.out (by omega) (by omega)).mono ?_
  rintro e w4 ⟨As1, ns1, cs1, ls1, rfl, hl, hq, hi, hns1, hb⟩
  have Ls1 := Lib.hid hl
  have Ns1 := Lib.hid hq
  have Is1 := Lib.hid hi
  clear hl hq hi
  replace La := Lib.hid (La.out.on hb)
  replace Lb := Lib.hid (Lb.out.on hb)
  replace HB := Lib.hid (HB.out.trans (hb.mono HB.out.size))
  clear hb
  go_wp2_with fail
  refine (make_h 1 (.inr (.inl rfl)) La.out Lb.out (by omega) (by omega)).mono ?_
  rintro e w5 ⟨At1, nt1, ct1, lt1, rfl, hl, hq, hi, hnt1, hb⟩
  have Lt1 := Lib.hid hl
  have Nt1 := Lib.hid hq
  have It1 := Lib.hid hi
  clear hl hq hi
  replace La := Lib.hid (La.out.on hb)
  replace Lb := Lib.hid (Lb.out.on hb)
  replace Ls1 := Lib.hid (Ls1.out.on hb)
  replace HB := Lib.hid (HB.out.trans (hb.mono HB.out.size))
  clear hb
  go_wp2_with fail
  refine (same_yes Ls1.out Lt1.out (neat_unique Ns1.out Nt1.out fun x => (Is1.out x).trans ((It1.out x).trans (sel1 _ _)).symm)).mono ?_
  rintro e w6 ⟨rfl, hb⟩
  replace La := Lib.hid (La.out.on hb)
  replace Lb := Lib.hid (Lb.out.on hb)
  replace Ls1 := Lib.hid (Ls1.out.on hb)
  replace Lt1 := Lib.hid (Lt1.out.on hb)
  replace HB := Lib.hid (HB.out.trans (hb.mono HB.out.size))
  clear hb
  clear Ls1 Lt1
  clear Ns1 Nt1 Is1 It1
  go_wp2_with fail
  refine (both_h La.out Lb.out (by omega) (by omega)).mono ?_
  rintro e w7 ⟨As2, ns2, cs2, ls2, rfl, hl, hq, hi, hns2, hb⟩
  have Ls2 := Lib.hid hl
  have Ns2 := Lib.hid hq
  have Is2 := Lib.hid hi
  clear hl hq hi
  replace La := Lib.hid (La.out.on hb)
  replace Lb := Lib.hid (Lb.out.on hb)
  replace HB := Lib.hid (HB.out.trans (hb.mono HB.out.size))
  clear hb
  go_wp2_with fail
  refine (make_h 2 (.inr (.inr rfl)) La.out Lb.out (by omega) (by omega)).mono ?_
  rintro e w8 ⟨At2, nt2, ct2, lt2, rfl, hl, hq, hi, hnt2, hb⟩
  have Lt2 := Lib.hid hl
  have Nt2 := Lib.hid hq
  have It2 := Lib.hid hi
  clear hl hq hi
  replace La := Lib.hid (La.out.on hb)
  replace Lb := Lib.hid (Lb.out.on hb)
  replace Ls2 := Lib.hid (Ls2.out.on hb)
  replace HB := Lib.hid (HB.out.trans (hb.mono HB.out.size))
  clear hb
  go_wp2_with fail
  refine (same_yes Ls2.out Lt2.out (neat_unique Ns2.out Nt2.out fun x => (Is2.out x).trans ((It2.out x).trans (sel2 _ _)).symm)).mono ?_
  rintro e w9 ⟨rfl, hb⟩
  replace La := Lib.hid (La.out.on hb)
  replace Lb := Lib.hid (Lb.out.on hb)
  replace Ls2 := Lib.hid (Ls2.out.on hb)
  replace Lt2 := Lib.hid (Lt2.out.on hb)
  replace HB := Lib.hid (HB.out.trans (hb.mono HB.out.size))
  clear hb
  clear Ls2 Lt2
  clear Ns2 Nt2 Is2 It2
  go_wp2_with fail
  refine (neat_b La.out).mono ?_
  rintro e w10 ⟨q, rfl, hq, hb⟩
  replace La := Lib.hid (La.out.on hb)
  replace Lb := Lib.hid (Lb.out.on hb)
  replace HB := Lib.hid (HB.out.trans (hb.mono HB.out.size))
  clear hb
  have HQ := Lib.hid hq
  clear hq
  go_wp2_with fail
  refine (rneat_b La.out (by omega)).mono ?_
  rintro e w11 ⟨q2, rfl, hq2, hb⟩
  replace La := Lib.hid (La.out.on hb)
  replace Lb := Lib.hid (Lb.out.on hb)
  replace HB := Lib.hid (HB.out.trans (hb.mono HB.out.size))
  clear hb
  obtain rfl : q2 = q := by rw [Bool.eq_iff_iff, hq2, HQ.out]
  clear hq2 HQ
  go_wp2_with fail
  refine (count_any _ _ A1 n1 c1 a La.out (Nat.le_refl _)).mono ?_
  rintro e w12 ⟨m1, rfl, hn1', _, hi1, hb⟩
  replace La := Lib.hid (La.out.on hb)
  replace Lb := Lib.hid (Lb.out.on hb)
  replace HB := Lib.hid (HB.out.trans (hb.mono HB.out.size))
  clear hb
  have HN1 := Lib.hid hn1'
  have HI1 := Lib.hid hi1
  clear hn1' hi1
  go_wp2_with fail
  refine (rcount_any A1 n1 c1 a _ La.out.len (by omega) La.out.reads La.out.fit).mono ?_
  rintro e w13 ⟨m2, rfl, hn2', _, hi2, hb⟩
  replace La := Lib.hid (La.out.on hb)
  replace Lb := Lib.hid (Lb.out.on hb)
  replace HB := Lib.hid (HB.out.trans (hb.mono HB.out.size))
  clear hb
  obtain rfl : m2 = m1 := neat_unique hn2' HN1.out fun x => (hi2 x).trans (HI1.out x).symm
  clear hn2' hi2 HN1 HI1
  generalize totalL m2 = tt
  go_wp2_with fail
  refine (works_any _).mono ?_
  rintro e w14 ⟨rfl, hb⟩
  replace La := Lib.hid (La.out.on hb)
  replace Lb := Lib.hid (Lb.out.on hb)
  replace HB := Lib.hid (HB.out.trans (hb.mono HB.out.size))
  clear hb
  go_wp2
  go_ret
  exact ⟨rfl, HB.out⟩

end Go.Proofs.Ytkmnhlcjeebejaa
