/-
  The walk through hostlerlaw11.SpanAsks: made by tools/gen_spasks.py.
-/
import Derived.Test.YtkmnhlcjeebejaaSpWorks
namespace Go.Proofs.Ytkmnhlcjeebejaa
open Go.RowKit
set_option linter.unusedVariables false

theorem all_next {f : Nat → Bool} {ns : List Nat} {k x : Nat} (hx : ns[k]? = some x) : (ns.take (k + 1)).all f = ((ns.take k).all f && f x) := by
  rw [List.take_add_one, hx, List.all_append]
  simp

set_option maxRecDepth 10000 in
set_option maxHeartbeats 8000000 in
theorem asks_any (A1 A2 : Option Addr) (n1 c1 n2 c2 z : Nat) (a : List (Nat × Nat)) (ns : List Nat) (w : World) (ha : a.length = n1) (hb : ns.length = n2) (hr1 : Rs w w.heap.size A1 a) (hr2 : Sv w w.heap.size A2 (ns.map cell64))
    (hc1 : a.length ≤ c1) (hc2 : ns.length ≤ c2) (hm1 : c1 ≤ maxLen) (hm2 : c2 ≤ maxLen) (hf1 : FitL a) :
    Calls Try.prog 5 #[.slice A1 n1 c1, .slice A2 n2 c2, .int .u64 (z : Int)] w (Says true w) := by
  have hnm1 : n1 ≤ 9223372036854775807 := by unfold maxLen at hm1; omega
  have hnm2 : n2 ≤ 9223372036854775807 := by unfold maxLen at hm2; omega
  by_cases h1 : n1 ≤ 60
  rotate_left
  · have d1 : decide ((n1 : Int) > 60) = true := decide_eq_true (by omega)
    clear ha hb hr1 hr2 hc1 hc2 hm1 hm2 hf1
    go_enter Try.func5, Try.ntmps5
    go_wp2_with (go_at_call 8; refine (works_any _).mono ?_; rintro e w1 ⟨rfl, hb1⟩)
    go_ret
    exact ⟨rfl, hb1⟩
  have d1 : decide ((n1 : Int) > 60) = false := decide_eq_false (by omega)
  by_cases h2 : n2 ≤ 100
  rotate_left
  · have d2 : decide ((n2 : Int) > 100) = true := decide_eq_true (by omega)
    clear ha hb hr1 hr2 hc1 hc2 hm1 hm2 hf1
    go_enter Try.func5, Try.ntmps5
    go_wp2_with (go_at_call 8; refine (works_any _).mono ?_; rintro e w1 ⟨rfl, hb1⟩)
    go_ret
    exact ⟨rfl, hb1⟩
  have d2 : decide ((n2 : Int) > 100) = false := decide_eq_false (by omega)
  have La : Hid (Live w A1 n1 c1 a) := Lib.hid ⟨ha, by omega, hr1, by omega, hm1, hf1⟩
  have HS := Lib.hid hr2
  have HN := Lib.hid hb
  clear ha hb hr1 hr2 hc1 hc2 hm1 hm2 hf1
  go_enter Try.func5, Try.ntmps5
  go_wp2
  go_loopw [7, 21] (fun s7 s21 wr => ∃ (ok : Bool) (k : Nat), k ≤ n2 ∧ s7 = .bool ok ∧ s21 = .int .i64 k ∧ Hid (ok = (ns.take k).all (inB a)) ∧ Hid (Below w.heap.size w wr)) (fun _ s21 _ => n2 - (intOf s21).toNat)
  case atStart => exact ⟨true, 0, Nat.zero_le _, rfl, rfl, Lib.hid (by simp), Lib.hid (Below.refl _ _)⟩
  case round =>
    obtain ⟨ok, k, hk, rfl, rfl, hok, hbw⟩ := hrel
    have Lr := Lib.hid (La.out.on hbw.out)
    by_cases hlt : k < n2
    · obtain ⟨x, hx⟩ : ∃ x, ns[k]? = some x := ⟨_, List.getElem?_eq_getElem (by rw [HN.out]; exact hlt)⟩
      obtain ⟨g, off, rfl, hg, hcc⟩ := HS.out.at_ (by rw [List.length_map, HN.out]; omega)
      have hc0 : wr.cell? ⟨g, off + k, none⟩ = some (.int .u64 (x : Int)) := (hbw.out.cell (p := ⟨g, off + k, none⟩) hg).trans (hcc k (cell64 x) (by rw [List.getElem?_map, hx]; rfl))
      have HAN := Lib.hid (all_next (f := inB a) hx)
      have hin := in_any A1 n1 c1 x _ a wr Lr.out.len (by omega) Lr.out.reads
      have hin2 := fun w' (hb : Below wr.heap.size wr w') => in_any A1 n1 c1 x _ a w' Lr.out.len (by omega) (Lr.out.on hb).reads
      have hhas := fun b (h : [x].all (inB a) = b) => has_lit Lr.out [x] (by simp) h
      have hqq : [x].all (inB a) = inB a x := by simp
      have d3 : decide (k < n2) = true := decide_eq_true hlt
      clear hcc hx
      generalize hq : inB a x = q at *
      have HH := Lib.hid (hhas q hqq)
      have HI2 := Lib.hid hin2
      have HI := Lib.hid hin
      clear hhas hqq hin hin2 hq
      cases ok
      · have HOK : Hid (false = (ns.take (k + 1)).all (inB a)) := Lib.hid (by rw [HAN.out, ← hok.out]; rfl)
        go_wp2_with fail
        refine HH.out.mono ?_
        rintro e w2 ⟨rfl, hb2⟩
        have HB2 := Lib.hid hb2
        clear hb2
        go_wp2_with fail
        refine (HI2.out w2 HB2.out).mono ?_
        rintro e w3 ⟨rfl, rfl⟩
        go_wp2
        go_roundw
        case rel => exact ⟨false, k + 1, by omega, rfl, by go_num, HOK, Lib.hid (hbw.out.trans (HB2.out.mono hbw.out.size))⟩
        case measure => simp [intOf]; omega
      · have HOK : Hid (q = (ns.take (k + 1)).all (inB a)) := Lib.hid (by rw [HAN.out, ← hok.out]; rfl)
        go_wp2_with fail
        refine HI.out.mono ?_
        rintro e w1 ⟨rfl, rfl⟩
        go_wp2_with fail
        refine HH.out.mono ?_
        rintro e w2 ⟨rfl, hb2⟩
        have HB2 := Lib.hid hb2
        clear hb2
        go_wp2_with fail
        refine (HI2.out w2 HB2.out).mono ?_
        rintro e w3 ⟨rfl, rfl⟩
        go_wp2
        go_roundw
        case rel => exact ⟨q, k + 1, by omega, rfl, by go_num, HOK, Lib.hid (hbw.out.trans (HB2.out.mono hbw.out.size))⟩
        case measure => simp [intOf]; omega
    · obtain rfl : n2 = k := by omega
      have d3 : decide (n2 < n2) = false := decide_eq_false (by omega)
      have HOK : Hid (ok = ns.all (inB a)) := Lib.hid (by rw [hok.out, List.take_of_length_le (by rw [HN.out]; exact Nat.le_refl _)])
      have HSR := Lib.hid (HS.out.keep (B' := wr.heap.size) hbw.out.size fun p hp => hbw.out.cell hp)
      have HB := hbw
      clear hok La HS
      go_wp2_with fail
      refine (has_any wr _ A1 A2 n1 c1 n2 c2 a ns Lr.out (Nat.le_refl _) HSR.out HN.out (by omega)).mono ?_
      rintro e w21 ⟨rfl, hb⟩
      replace Lr := Lib.hid (Lr.out.on hb)
      replace HB := Lib.hid (HB.out.trans (hb.mono HB.out.size))
      clear hb
      rw [← HOK.out]
      clear HOK HSR
      go_wp2_with fail
      refine (gap_any _ _ A1 n1 c1 a z Lr.out (Nat.le_refl _)).mono ?_
      rintro e w22 ⟨y1, rfl, hg1, _, hb⟩
      replace Lr := Lib.hid (Lr.out.on hb)
      replace HB := Lib.hid (HB.out.trans (hb.mono HB.out.size))
      clear hb
      have HG1 := Lib.hid hg1
      clear hg1
      go_wp2_with fail
      refine (rgap_any A1 n1 c1 a z _ Lr.out.len (by omega) Lr.out.reads Lr.out.fit).mono ?_
      rintro e w23 ⟨y2, rfl, hg2, _, hb⟩
      replace Lr := Lib.hid (Lr.out.on hb)
      replace HB := Lib.hid (HB.out.trans (hb.mono HB.out.size))
      clear hb
      obtain rfl : y2 = y1 := gap_unique hg2 HG1.out
      clear hg2 HG1
      go_wp2_with fail
      refine (works_any _).mono ?_
      rintro e w24 ⟨rfl, hb⟩
      replace Lr := Lib.hid (Lr.out.on hb)
      replace HB := Lib.hid (HB.out.trans (hb.mono HB.out.size))
      clear hb
      go_wp2
      go_ret
      exact ⟨rfl, HB.out⟩

end Go.Proofs.Ytkmnhlcjeebejaa
