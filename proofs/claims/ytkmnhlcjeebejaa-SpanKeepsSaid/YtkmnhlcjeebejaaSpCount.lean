/-
  The walks through span.Count, slices.BinarySearchFunc at ranges, span.Has.
-/
import Derived.Test.YtkmnhlcjeebejaaSpCalls
namespace Go.Proofs.Ytkmnhlcjeebejaa
open Go.RowKit
set_option linter.unusedVariables false

/-- What Count tells. -/
def CountTold (l : List (Nat × Nat)) (w : World) (e : Ending) (w' : World) : Prop := ∃ nl, e = .returned (.int .u64 ((totalL nl : Nat) : Int)) ∧ NeatL nl ∧ FitL nl ∧ (∀ n, inB nl n = inB l n) ∧ Below w.heap.size w w'

theorem total_step {l : List (Nat × Nat)} {k : Nat} {r : Nat × Nat} (h : l[k]? = some r) : totalL (l.take (k + 1)) = totalL (l.take k) + (r.2 - r.1) := by
  rw [List.take_add_one, h]
  exact total_snoc _ _

set_option maxRecDepth 10000 in
set_option maxHeartbeats 1000000 in
theorem count_any (w : World) (B : Nat) (A : Option Addr) (n c : Nat) (l : List (Nat × Nat)) (h : Hands w B A n c l) (hB : B ≤ w.heap.size) :
    Calls Try.prog 19 #[.slice A n c] w (CountTold l w) := by
  have HN := Lib.hid (neatOf_any A n c l w B h.len (by have := h.few; omega) h.reads hB h.cap h.top h.fit)
  have hfew : l.length ≤ 1000000 := by rw [h.len]; exact h.few
  clear h
  go_enter Try.func19, Try.ntmps19
  go_wp2_with fail
  refine HN.out.mono ?_
  rintro e w1 ⟨A', c', nl, rfl, hc', hm', hs, hnl, hfl, hin, hlen, hb1⟩
  have HNL := Lib.hid hnl
  have HFL := Lib.hid hfl
  have HI := Lib.hid hin
  have HB1 := Lib.hid hb1
  have HS := Lib.hid hs
  have hb1s := hb1.size
  obtain ⟨len, hln⟩ : ∃ len, len = nl.length := ⟨_, rfl⟩
  rw [← hln] at hc' hlen ⊢
  have HLN := Lib.hid hln
  clear hnl hfl hin hb1 hs hln HN hm'
  go_wp2
  go_loopw [3, 9] (fun s3 s9 wr => ∃ (k t : Nat), k ≤ len ∧ s9 = .int .i64 k ∧ s3 = .int .u64 t ∧ Hid (t = totalL (nl.take k)) ∧ Hid (Below w1.heap.size w1 wr)) (fun _ s9 _ => len - (intOf s9).toNat)
  case atStart => exact ⟨0, 0, Nat.zero_le _, rfl, rfl, Lib.hid (by simp [totalL]), Lib.hid (Below.refl _ _)⟩
  case round =>
    obtain ⟨k, t, hk, rfl, rfl, ht, hbk⟩ := hrel
    by_cases hlt : k < len
    · obtain ⟨r, hr⟩ : ∃ r, nl[k]? = some r := ⟨_, List.getElem?_eq_getElem (by rw [← HLN.out]; exact hlt)⟩
      obtain ⟨b, off, rfl, _, hbl, hcc⟩ := HS.out.at_ (by rw [← HLN.out]; omega)
      have hc1 := (hbk.out.cell (p := ⟨b, off + k * 2, none⟩) hbl).trans (hcc k r hr).1
      have hc2 := (hbk.out.cell (p := ⟨b, off + k * 2 + 1, none⟩) hbl).trans (hcc k r hr).2
      have hr1 : r.1 < r.2 := HNL.out.1 r (List.mem_of_getElem? hr)
      have hst := total_step hr
      have hle : totalL (nl.take (k + 1)) ≤ topN := Nat.le_trans (total_take _ _) (total_le HNL.out HFL.out)
      have hr2 : r.2 ≤ topN := (HFL.out r (List.mem_of_getElem? hr)).2
      have hs1 : t + (r.2 - r.1) ≤ topN := by rw [ht.out]; omega
      have HT2 : Hid (t + (r.2 - r.1) = totalL (nl.take (k + 1))) := Lib.hid (by rw [ht.out]; omega)
      have w1' : IntKind.u64.wrap ((r.2 : Int) - (r.1 : Int)) = (r.2 : Int) - (r.1 : Int) := by rw [IntKind.wrap_u64]; unfold topN at *; omega
      have w2' : IntKind.u64.wrap ((t : Int) + ((r.2 : Int) - (r.1 : Int))) = (t : Int) + ((r.2 : Int) - (r.1 : Int)) := by rw [IntKind.wrap_u64]; unfold topN at *; omega
      have d1 : decide (k < len) = true := decide_eq_true hlt
      clear hcc hst hle hr2 hs1 hr
      go_wp2
      go_roundw
      case rel => exact ⟨k + 1, t + (r.2 - r.1), by omega, by go_num, by rw [show ((t + (r.2 - r.1) : Nat) : Int) = (t : Int) + ((r.2 : Int) - (r.1 : Int)) by omega], HT2, Lib.hid (hbk.out.alloc hbk.out.size _)⟩
      case measure => simp [intOf]; omega
    · obtain rfl : k = len := by omega
      have d1 : decide (k < k) = false := decide_eq_false (by omega)
      have HT : Hid (t = totalL nl) := Lib.hid (by rw [ht.out, List.take_of_length_le (by rw [← HLN.out]; exact Nat.le_refl _)])
      clear ht
      go_wp2
      go_ret
      refine ⟨nl, ?_, HNL.out, HFL.out, HI.out, HB1.out.trans (hbk.out.mono hb1s)⟩
      rw [← HT.out]
      rfl

/-- A number looked for in a neat list: those below it on one side, those above on the other. -/
theorem neat_lt {nl : List (Nat × Nat)} (hn : NeatL nl) {i j : Nat} {r s : Nat × Nat} (hi : nl[i]? = some r) (hj : nl[j]? = some s) (hij : i < j) : r.2 < s.1 := by
  have h1 := List.getElem?_eq_some_iff.1 hi
  have h2 := List.getElem?_eq_some_iff.1 hj
  have := List.pairwise_iff_getElem.1 hn.2 i j h1.1 h2.1 hij
  rw [h1.2, h2.2] at this
  exact this

/-- The search's state. -/
def Between (nl : List (Nat × Nat)) (x i j : Nat) : Prop := i ≤ j ∧ j ≤ nl.length ∧ (∀ k r, k < i → nl[k]? = some r → r.2 ≤ x) ∧ (∀ k r, j ≤ k → nl[k]? = some r → x < r.2)

theorem Between.up {nl : List (Nat × Nat)} (hn : NeatL nl) {x i j h : Nat} {r : Nat × Nat} (hb : Between nl x i j) (hih : i ≤ h) (hhj : h < j) (hr : nl[h]? = some r) (hx : r.2 ≤ x) : Between nl x (h + 1) j := by
  refine ⟨hhj, hb.2.1, fun k s hk hs => ?_, hb.2.2.2⟩
  rcases Nat.lt_or_ge k h with hlt | hge
  · have := neat_lt hn hs hr hlt
    have := hn.1 r (List.mem_of_getElem? hr)
    omega
  · obtain rfl : k = h := by omega
    rw [hr] at hs
    obtain rfl := Option.some.inj hs
    exact hx
theorem Between.down {nl : List (Nat × Nat)} (hn : NeatL nl) {x i j h : Nat} {r : Nat × Nat} (hb : Between nl x i j) (hih : i ≤ h) (hhj : h < j) (hr : nl[h]? = some r) (hx : x < r.2) : Between nl x i h := by
  refine ⟨hih, by have := hb.2.1; omega, hb.2.2.1, fun k s hk hs => ?_⟩
  rcases Nat.lt_or_ge h k with hlt | hge
  · have := neat_lt hn hr hs hlt
    have := hn.1 s (List.mem_of_getElem? hs)
    omega
  · obtain rfl : k = h := by omega
    rw [hr] at hs
    obtain rfl := Option.some.inj hs
    exact hx
theorem Between.found {nl : List (Nat × Nat)} (hn : NeatL nl) {x i : Nat} {r : Nat × Nat} (hb : Between nl x i i) (hr : nl[i]? = some r) : inB nl x = decide (r.1 ≤ x) := by
  have hx := hb.2.2.2 i r (Nat.le_refl _) hr
  by_cases h : r.1 ≤ x
  · rw [decide_eq_true h, inB_iff]
    exact ⟨r, List.mem_of_getElem? hr, h, hx⟩
  · rw [decide_eq_false h]
    cases hc : inB nl x with
    | false => rfl
    | true =>
      obtain ⟨s, hs, s1, s2⟩ := inB_iff.1 hc
      obtain ⟨k, hk⟩ := List.mem_iff_getElem?.1 hs
      rcases Nat.lt_trichotomy k i with h1 | h1 | h1
      · have := hb.2.2.1 k s h1 hk
        omega
      · subst h1
        rw [hr] at hk
        obtain rfl := Option.some.inj hk
        omega
      · have := neat_lt hn hr hk h1
        have := hn.1 r (List.mem_of_getElem? hr)
        omega
theorem Between.none {nl : List (Nat × Nat)} {x i : Nat} (hb : Between nl x i i) (hi : nl.length ≤ i) : inB nl x = false := by
  cases hc : inB nl x with
  | false => rfl
  | true =>
    obtain ⟨s, hs, s1, s2⟩ := inB_iff.1 hc
    obtain ⟨k, hk⟩ := List.mem_iff_getElem?.1 hs
    have := hb.2.2.1 k s (by have := (List.getElem?_eq_some_iff.1 hk).1; omega) hk
    omega

/-- What a search tells. -/
def SeekTold (nl : List (Nat × Nat)) (x : Nat) (w : World) (e : Ending) (w' : World) : Prop := ∃ i : Nat, e = .returned (.tuple #[.int .i64 (i : Int), .bool (inB nl x)]) ∧ Below w.heap.size w w'

set_option maxRecDepth 10000 in
set_option maxHeartbeats 2000000 in
theorem seek_any (w : World) (A : Option Addr) (len c x : Nat) (nl : List (Nat × Nat)) (hr : Rs w w.heap.size A nl) (hl : nl.length = len) (hlen : len ≤ 16777216) (hn : NeatL nl) :
    Calls Try.prog 27 #[.slice A len c, .int .u64 (x : Int), .func (.func 28) #[] #[]] w (SeekTold nl x w) := by
  have HS := Lib.hid hr
  have HL := Lib.hid hl
  have HN := Lib.hid hn
  have HBT : Hid (Between nl x 0 len) := Lib.hid ⟨Nat.zero_le _, by omega, fun k r hk => by omega, fun k r hk hr => by have := (List.getElem?_eq_some_iff.1 hr).1; omega⟩
  clear hr hl hn
  go_enter Try.func27, Try.ntmps27
  go_wp2
  go_loopw [9, 10] (fun s9 s10 wr => ∃ (i j : Nat), s9 = .int .i64 i ∧ s10 = .int .i64 j ∧ i ≤ j ∧ j ≤ len ∧ Hid (Between nl x i j) ∧ Hid (Below w.heap.size w wr)) (fun s9 s10 _ => (intOf s10).toNat - (intOf s9).toNat)
  case atStart => exact ⟨0, len, rfl, rfl, Nat.zero_le _, Nat.le_refl _, HBT, Lib.hid (Below.refl _ _)⟩
  case round =>
    obtain ⟨i, j, rfl, rfl, hij, hjl, hbt, hbw⟩ := hrel
    by_cases hlt : i < j
    · have d1 : decide (i < j) = true := decide_eq_true hlt
      obtain ⟨h, hh⟩ : ∃ h : Nat, h = (i + j) / 2 := ⟨_, rfl⟩
      have hhi : ((i : Int) + (j : Int)) / 2 = (h : Int) := by omega
      have hih : i ≤ h := by omega
      have hhj : h < j := by omega
      have hhl : h < len := by omega
      obtain ⟨r, hr⟩ : ∃ r, nl[h]? = some r := ⟨_, List.getElem?_eq_getElem (by rw [HL.out]; exact hhl)⟩
      obtain ⟨b, off, rfl, hbl, hcc⟩ := HS.out.at_ (by rw [HL.out]; omega)
      have hc1 := (hbw.out.cell (p := ⟨b, off + h * 2, none⟩) hbl).trans (hcc h r hr).1
      have hc2 := (hbw.out.cell (p := ⟨b, off + h * 2 + 1, none⟩) hbl).trans (hcc h r hr).2
      have HR := Lib.hid hr
      have hsd := fun W' => side_any r.1 r.2 x W'
      have HBS := hbw.out.size
      clear hcc hr hh
      by_cases hx : r.2 ≤ x
      · have hs : sideS r.1 r.2 x = -1 := by simp [sideS, hx]
        rw [hs] at hsd
        clear hs
        go_wp2_with (go_at_call 28; refine (hsd _).mono ?_; rintro e w2 ⟨rfl, hb2⟩)
        go_roundw
        case rel => exact ⟨h + 1, j, by go_num, rfl, by omega, hjl, Lib.hid (hbt.out.up HN.out hih hhj HR.out hx), Lib.hid (hbw.out.trans (hb2.mono HBS))⟩
        case measure => simp [intOf]; omega
      · have hs : ∃ z : Int, sideS r.1 r.2 x = z ∧ 0 ≤ z := by
          unfold sideS
          rw [if_neg hx]
          split
          · exact ⟨1, rfl, by omega⟩
          · exact ⟨0, rfl, by omega⟩
        obtain ⟨z, hz, hz0⟩ := hs
        rw [hz] at hsd
        have hz1 : decide (z < 0) = false := decide_eq_false (by omega)
        clear hz
        go_wp2_with (go_at_call 28; refine (hsd _).mono ?_; rintro e w2 ⟨rfl, hb2⟩)
        go_roundw
        case rel => exact ⟨i, h, rfl, rfl, hih, by omega, Lib.hid (hbt.out.down HN.out hih hhj HR.out (by omega)), Lib.hid (hbw.out.trans (hb2.mono HBS))⟩
        case measure => simp [intOf]; omega
    · obtain rfl : i = j := by omega
      have d1 : decide (i < i) = false := decide_eq_false (by omega)
      by_cases hil : i < len
      · have d2 : decide (i < len) = true := decide_eq_true hil
        obtain ⟨r, hr⟩ : ∃ r, nl[i]? = some r := ⟨_, List.getElem?_eq_getElem (by rw [HL.out]; exact hil)⟩
        obtain ⟨b, off, rfl, hbl, hcc⟩ := HS.out.at_ (by rw [HL.out]; omega)
        have hc1 := (hbw.out.cell (p := ⟨b, off + i * 2, none⟩) hbl).trans (hcc i r hr).1
        have hc2 := (hbw.out.cell (p := ⟨b, off + i * 2 + 1, none⟩) hbl).trans (hcc i r hr).2
        have hfd := hbt.out.found HN.out hr
        have hx := hbt.out.2.2.2 i r (Nat.le_refl _) hr
        have hsd := fun W' => side_any r.1 r.2 x W'
        have HBS := hbw.out.size
        have HFD := Lib.hid hfd
        clear hcc hr hfd hbt
        by_cases hx1 : r.1 ≤ x
        · have hs : sideS r.1 r.2 x = 0 := by unfold sideS; rw [if_neg (by omega), if_neg (by omega)]
          rw [hs] at hsd
          clear hs
          have HFT : Hid (inB nl x = true) := Lib.hid (by rw [HFD.out]; exact decide_eq_true hx1)
          go_wp2_with (go_at_call 28; refine (hsd _).mono ?_; rintro e w2 ⟨rfl, hb2⟩)
          go_ret2
          refine ⟨i, ?_, hbw.out.trans (hb2.mono HBS)⟩
          rw [HFT.out]
          rfl
        · have hs : sideS r.1 r.2 x = 1 := by unfold sideS; rw [if_neg (by omega), if_pos (by omega)]
          rw [hs] at hsd
          clear hs
          have HFT : Hid (inB nl x = false) := Lib.hid (by rw [HFD.out]; exact decide_eq_false hx1)
          go_wp2_with (go_at_call 28; refine (hsd _).mono ?_; rintro e w2 ⟨rfl, hb2⟩)
          go_ret2
          refine ⟨i, ?_, hbw.out.trans (hb2.mono HBS)⟩
          rw [HFT.out]
          rfl
      · have d2 : decide (i < len) = false := decide_eq_false hil
        have HFT : Hid (inB nl x = false) := Lib.hid (hbt.out.none (by rw [HL.out]; omega))
        go_wp2
        go_ret2
        refine ⟨i, ?_, hbw.out⟩
        rw [HFT.out]
        rfl

end Go.Proofs.Ytkmnhlcjeebejaa
