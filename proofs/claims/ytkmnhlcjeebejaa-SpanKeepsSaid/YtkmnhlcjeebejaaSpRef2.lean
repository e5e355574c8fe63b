/-
  The walks through hostlerref11.Neat, Count and Gap.
-/
import Derived.Test.YtkmnhlcjeebejaaSpMake
import Derived.Test.YtkmnhlcjeebejaaSpCount
namespace Go.Proofs.Ytkmnhlcjeebejaa
open Go.RowKit
set_option linter.unusedVariables false

theorem sel_zero (a : List (Nat × Nat)) (n : Nat) : selB 0 (inB a n) (inB [] n) = inB a n := by
  simp [selB]

/-- What is made of a list alone. -/
theorem make_one (A1 : Option Addr) (n1 c1 : Nat) (a : List (Nat × Nat)) (w : World) (ha : a.length = n1) (hl1 : n1 ≤ 10000) (hr1 : Rs w w.heap.size A1 a) (hf1 : FitL a) :
    Calls Try.prog 16 #[.int .i64 0, .slice A1 n1 c1, .slice none 0 0] w (Makes 40000 (inB a) w) := by
  have h := make_any 0 (.inl rfl) A1 none n1 c1 0 0 a [] w ha rfl hl1 (Nat.zero_le _) hr1 (Rs.nil _ _ _) hf1 (fun _ h => (by cases h))
  rwa [show (fun n => selB 0 (inB a n) (inB [] n)) = inB a from funext (sel_zero a)] at h

/-- A list is neat just if it is the neat list of its numbers. -/
theorem neat_eq {a m : List (Nat × Nat)} (hm : NeatL m) (hi : ∀ n, inB m n = inB a n) : a = m ↔ NeatL a := by
  constructor
  · intro e
    rw [e]
    exact hm
  · intro h
    exact neat_unique h hm fun n => (hi n).symm

set_option maxRecDepth 10000 in
set_option maxHeartbeats 1000000 in
theorem rneat_any (A1 : Option Addr) (n1 c1 : Nat) (a : List (Nat × Nat)) (w : World) (ha : a.length = n1) (hl1 : n1 ≤ 10000) (hr1 : Rs w w.heap.size A1 a) (hf1 : FitL a) :
    Calls Try.prog 18 #[.slice A1 n1 c1] w fun e w' => ∃ q : Bool, e = .returned (.bool q) ∧ (q = true ↔ NeatL a) ∧ Below w.heap.size w w' := by
  have HM := Lib.hid (make_one A1 n1 c1 a w ha hl1 hr1 hf1)
  have HA := Lib.hid ha
  have HR := Lib.hid hr1
  clear ha hr1 hf1
  go_enter Try.func18, Try.ntmps18
  go_wp2_with fail
  refine HM.out.mono ?_
  rintro e w1 ⟨v, m, rfl, ho, hn, hf, hi, hlb, hb⟩
  obtain ⟨A, c, rfl, _, _⟩ := ho.form
  have HN := Lib.hid hn
  have HI := Lib.hid hi
  have HB := Lib.hid hb
  have HO := Lib.hid ho
  have HS := Lib.hid (same_any A1 A n1 c1 m.length c w1.heap.size a m w1 HA.out rfl (by omega) (by omega) ((HR.out.below hb).mono hb.size) ho.rs (Nat.le_refl _))
  clear hn hi hb ho hf HM
  go_wp2_with (go_at_call 9; refine HS.out.mono ?_; rintro e w2 ⟨rfl, hb2⟩; have HB2 := Lib.hid hb2; clear hb2)
  go_ret
  refine ⟨decide (a = m), rfl, ?_, HB.out.trans (HB2.out.mono HB.out.size)⟩
  rw [decide_eq_true_iff, neat_eq HN.out HI.out]

set_option maxRecDepth 10000 in
set_option maxHeartbeats 2000000 in
theorem rcount_any (A1 : Option Addr) (n1 c1 : Nat) (a : List (Nat × Nat)) (w : World) (ha : a.length = n1) (hl1 : n1 ≤ 10000) (hr1 : Rs w w.heap.size A1 a) (hf1 : FitL a) :
    Calls Try.prog 20 #[.slice A1 n1 c1] w (CountTold a w) := by
  have HM := Lib.hid (make_one A1 n1 c1 a w ha hl1 hr1 hf1)
  clear ha hr1 hf1
  go_enter Try.func20, Try.ntmps20
  go_wp2_with fail
  refine HM.out.mono ?_
  rintro e w1 ⟨v, nl, rfl, ho, hnl, hfl, hin, hlb, hb1⟩
  obtain ⟨A, c, rfl, _, _⟩ := ho.form
  have HNL := Lib.hid hnl
  have HFL := Lib.hid hfl
  have HI := Lib.hid hin
  have HB1 := Lib.hid hb1
  have HS := Lib.hid ho.rs
  have hb1s := hb1.size
  obtain ⟨len, hln⟩ : ∃ len, len = nl.length := ⟨_, rfl⟩
  rw [← hln] at hlb ⊢
  have HLN := Lib.hid hln
  clear hnl hfl hin hb1 hln HM ho
  go_wp2
  go_loopw [4, 5] (fun s4 s5 wr => ∃ (k t : Nat), k ≤ len ∧ s5 = .int .i64 k ∧ s4 = .int .u64 t ∧ Hid (t = totalL (nl.take k)) ∧ Hid (Below w1.heap.size w1 wr)) (fun _ s5 _ => len - (intOf s5).toNat)
  case atStart => exact ⟨0, 0, Nat.zero_le _, rfl, rfl, Lib.hid (by simp [totalL]), Lib.hid (Below.refl _ _)⟩
  case round =>
    obtain ⟨k, t, hk, rfl, rfl, ht, hbk⟩ := hrel
    by_cases hlt : k < len
    · obtain ⟨r, hr⟩ : ∃ r, nl[k]? = some r := ⟨_, List.getElem?_eq_getElem (by rw [← HLN.out]; exact hlt)⟩
      obtain ⟨b, off, rfl, hbl, hcc⟩ := HS.out.at_ (by rw [← HLN.out]; omega)
      have hc1 := (hbk.out.cell (p := ⟨b, off + k * 2, none⟩) hbl).trans (hcc k r hr).1
      have hc2 := (hbk.out.cell (p := ⟨b, off + k * 2 + 1, none⟩) hbl).trans (hcc k r hr).2
      have hr1 : r.1 < r.2 := HNL.out.1 r (List.mem_of_getElem? hr)
      have hst := total_step hr
      have hle : totalL (nl.take (k + 1)) ≤ topN := Nat.le_trans (total_take _ _) (total_le HNL.out HFL.out)
      have hs1 : t + (r.2 - r.1) ≤ topN := by rw [ht.out]; omega
      have HT2 : Hid (t + (r.2 - r.1) = totalL (nl.take (k + 1))) := Lib.hid (by rw [ht.out]; omega)
      have w2' : IntKind.u64.wrap (IntKind.u64.wrap ((t : Int) + (r.2 : Int)) - (r.1 : Int)) = (t : Int) + ((r.2 : Int) - (r.1 : Int)) := by rw [IntKind.wrap_u64, IntKind.wrap_u64]; unfold topN at *; omega
      have d1 : decide (k < len) = true := decide_eq_true hlt
      clear hcc hst hle hs1 hr
      go_wp2
      go_quiet (fail)
      go_wp2
      go_roundw
      case rel => exact ⟨k + 1, t + (r.2 - r.1), by omega, by go_num, by rw [show ((t + (r.2 - r.1) : Nat) : Int) = (t : Int) + ((r.2 : Int) - (r.1 : Int)) by omega], HT2, Lib.hid (below_drewN hbk.out _)⟩
      case measure => simp [intOf]; omega
    · obtain rfl : k = len := by omega
      have d1 : decide (k < k) = false := decide_eq_false (by omega)
      have HT : Hid (t = totalL nl) := Lib.hid (by rw [ht.out, List.take_of_length_le (by rw [← HLN.out]; exact Nat.le_refl _)])
      clear ht
      go_wp2
      go_ret
      refine ⟨nl, ?_, HNL.out, HFL.out, HI.out, HB1.out.trans (hbk.out.mono hb1s)⟩
      rw [← HT.out]
      rfl

/-- Where Gap's inner loop has come to. -/
def fAt (m : List (Nat × Nat)) (x k : Nat) : Nat := if inB (m.take k) x = true then (lookL m x).2 else x

theorem look_at : ∀ {m : List (Nat × Nat)}, NeatL m → ∀ {r : Nat × Nat} {x : Nat}, r ∈ m → r.1 ≤ x → x < r.2 → (lookL m x).2 = r.2
  | s :: m, h, r, x, hr, h1, h2 => by
    obtain ⟨a, b, c⟩ := neat_cons.1 h
    unfold lookL
    rcases List.mem_cons.1 hr with rfl | hr
    · rw [if_neg (by omega), if_neg (by omega)]
    · have := b r hr
      rw [if_pos (by omega)]
      exact look_at c hr h1 h2

theorem fAt_step {m : List (Nat × Nat)} (h : NeatL m) {x k : Nat} {r : Nat × Nat} (hr : m[k]? = some r) :
    ((r.1 ≤ fAt m x k ∧ fAt m x k < r.2) → fAt m x (k + 1) = r.2) ∧ (¬ (r.1 ≤ fAt m x k ∧ fAt m x k < r.2) → fAt m x (k + 1) = fAt m x k) := by
  have hst : inB (m.take (k + 1)) x = (inB (m.take k) x || (decide (r.1 ≤ x) && decide (x < r.2))) := by
    rw [List.take_add_one, hr, Option.toList_some, inB_append, inB_one]
  unfold fAt
  rw [hst]
  cases hc : inB (m.take k) x with
  | true =>
    obtain ⟨s, hs, s1, s2⟩ := inB_iff.1 hc
    obtain ⟨i, hi⟩ := List.mem_iff_getElem?.1 hs
    have hik : i < k := by have := (List.getElem?_eq_some_iff.1 hi).1; simp at this; omega
    rw [List.getElem?_take_of_lt hik] at hi
    have hlt := neat_lt h hi hr hik
    have hlk := look_at h (List.mem_of_getElem? hi) s1 s2
    simp only [if_true, Bool.true_or]
    rw [hlk]
    exact ⟨fun h => by omega, fun _ => trivial⟩
  | false =>
    simp only [Bool.false_or]
    by_cases hx : r.1 ≤ x ∧ x < r.2
    · rw [decide_eq_true hx.1, decide_eq_true hx.2]
      refine ⟨fun _ => ?_, fun hn => absurd (by simpa using hx) hn⟩
      simpa using look_at h (List.mem_of_getElem? hr) hx.1 hx.2
    · have : (decide (r.1 ≤ x) && decide (x < r.2)) = false := by simp; omega
      rw [this]
      exact ⟨fun hy => absurd (by simpa using hy) hx, fun _ => rfl⟩

set_option maxRecDepth 10000 in
set_option maxHeartbeats 4000000 in
theorem rgap_any (A1 : Option Addr) (n1 c1 : Nat) (a : List (Nat × Nat)) (x : Nat) (w : World) (ha : a.length = n1) (hl1 : n1 ≤ 10000) (hr1 : Rs w w.heap.size A1 a) (hf1 : FitL a) :
    Calls Try.prog 22 #[.slice A1 n1 c1, .int .u64 (x : Int)] w (GapTold a x w) := by
  have HM := Lib.hid (make_one A1 n1 c1 a w ha hl1 hr1 hf1)
  have HI1 := Lib.hid (fun (y : Nat) (w' : World) (hb : Below w.heap.size w w') => in_any A1 n1 c1 y w.heap.size a w' ha (by omega) (hr1.below hb))
  clear ha hr1 hf1
  rcases hq : inB a x with _ | _
  · have HQ := Lib.hid hq
    have h1 := HI1.out x w (Below.refl _ _)
    rw [hq] at h1
    clear hq
    go_enter Try.func22, Try.ntmps22
    go_wp2
    refine wp_loop_rounds 1 ?_
    rw [rounds_succ]
    go_wp2_with (go_at_call 21; refine h1.mono ?_; rintro e w' ⟨rfl, rfl⟩)
    go_ret
    exact ⟨x, rfl, ⟨Nat.le_refl _, HQ.out, fun n h1 h2 => by omega⟩, by omega, Below.refl _ _⟩
  · have HQ := Lib.hid hq
    have h1 := HI1.out x w (Below.refl _ _)
    rw [hq] at h1
    clear hq
    go_enter Try.func22, Try.ntmps22
    go_wp2
    refine wp_loop_rounds 2 ?_
    rw [rounds_succ]
    go_wp2_with fail
    refine h1.mono ?_
    rintro e w' ⟨rfl, rfl⟩
    clear h1
    go_wp2_with fail
    refine HM.out.mono ?_
    rintro e w1 ⟨v, m, rfl, ho, hnl, hfl, hin, hlb, hb1⟩
    obtain ⟨A, c, rfl, _, _⟩ := ho.form
    have HNL := Lib.hid hnl
    have HFL := Lib.hid hfl
    have HI := Lib.hid hin
    have HB1 := Lib.hid hb1
    have HS := Lib.hid ho.rs
    have hb1s := hb1.size
    obtain ⟨len, hln⟩ : ∃ len, len = m.length := ⟨_, rfl⟩
    rw [← hln] at hlb ⊢
    have HLN := Lib.hid hln
    clear hnl hfl hin hb1 hln HM ho
    go_wp2
    go_loopw [1, 6] (fun s1 s6 wr => ∃ (k y : Nat), k ≤ len ∧ s6 = .int .i64 k ∧ s1 = .int .u64 y ∧ Hid (y = fAt m x k) ∧ wr = w1) (fun _ s6 _ => len - (intOf s6).toNat)
    case atStart => exact ⟨0, x, Nat.zero_le _, rfl, rfl, Lib.hid (by simp [fAt]), rfl⟩
    case round =>
      obtain ⟨k, y, hk, rfl, rfl, hy, rfl⟩ := hrel
      by_cases hlt : k < len
      · obtain ⟨r, hr⟩ : ∃ r, m[k]? = some r := ⟨_, List.getElem?_eq_getElem (by rw [← HLN.out]; exact hlt)⟩
        obtain ⟨b, off, rfl, hbl, hcc⟩ := HS.out.at_ (by rw [← HLN.out]; omega)
        have hc1 := (hcc k r hr).1
        have hc2 := (hcc k r hr).2
        have hst := fAt_step HNL.out (x := x) hr
        rw [← hy.out] at hst
        have HST := Lib.hid hst
        have d1 : decide (k < len) = true := decide_eq_true hlt
        clear hcc hst hr
        by_cases h1 : r.1 ≤ y
        · have t1 : decide (r.1 ≤ y) = true := decide_eq_true h1
          by_cases h2 : y < r.2
          · have t2 : decide (y < r.2) = true := decide_eq_true h2
            go_wp2
            go_roundw
            case rel => exact ⟨k + 1, r.2, by omega, by go_num, rfl, Lib.hid (HST.out.1 ⟨h1, h2⟩).symm, trivial⟩
            case measure => simp [intOf]; omega
          · have t2 : decide (y < r.2) = false := decide_eq_false h2
            go_wp2
            go_roundw
            case rel => exact ⟨k + 1, y, by omega, by go_num, rfl, Lib.hid (HST.out.2 (fun h => h2 h.2)).symm, trivial⟩
            case measure => simp [intOf]; omega
        · have t1 : decide (r.1 ≤ y) = false := decide_eq_false h1
          go_wp2
          go_roundw
          case rel => exact ⟨k + 1, y, by omega, by go_num, rfl, Lib.hid (HST.out.2 (fun h => h1 h.1)).symm, trivial⟩
          case measure => simp [intOf]; omega
      · obtain rfl : k = len := by omega
        have d1 : decide (k < k) = false := decide_eq_false (by omega)
        have HX : Hid (inB m x = true) := Lib.hid (by rw [HI.out]; exact HQ.out)
        have hyl : y = (lookL m x).2 := by
          rw [hy.out]
          unfold fAt
          rw [List.take_of_length_le (by rw [← HLN.out]; exact Nat.le_refl _), HX.out]
          rfl
        have hg := gap_of_look HNL.out HFL.out HX.out
        rw [← hyl] at hg
        have hyt : y ≤ topN := by rw [hyl]; exact (lookL_end HNL.out HFL.out x (fit_in HFL.out HX.out)).2.1
        have HG : Hid (GapOf a x y) := Lib.hid ⟨hg.1, by rw [← HI.out]; exact hg.2.1, fun n n1 n2 => by rw [← HI.out]; exact hg.2.2 n n1 n2⟩
        have h2 := HI1.out y wr HB1.out
        rw [HG.out.2.1] at h2
        clear hy hyl hg
        go_wp2
        rw [rounds_succ]
        go_wp2_with (go_at_call 21; refine h2.mono ?_; rintro e w' ⟨rfl, rfl⟩)
        go_ret
        exact ⟨y, rfl, HG.out, by omega, HB1.out⟩

end Go.Proofs.Ytkmnhlcjeebejaa
