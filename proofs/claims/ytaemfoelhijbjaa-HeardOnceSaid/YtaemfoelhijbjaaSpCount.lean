/-
  The walks through span.Count, slices.BinarySearchFunc at ranges, span.Has.
-/
import Derived.Test.YtaemfoelhijbjaaSpCalls
namespace Go.Proofs.Ytaemfoelhijbjaa
open Go.RowKit
set_option linter.unusedVariables false

/-- What Count tells. -/
def CountTold (l : List (Nat × Nat)) (w : World) (e : Ending) (w' : World) : Prop := ∃ nl, e = .returned (.int .u64 ((totalL nl : Nat) : Int)) ∧ NeatL nl ∧ FitL nl ∧ (∀ n, inB nl n = inB l n) ∧ Below w.heap.size w w'

theorem total_step {l : List (Nat × Nat)} {k : Nat} {r : Nat × Nat} (h : l[k]? = some r) : totalL (l.take (k + 1)) = totalL (l.take k) + (r.2 - r.1) := by
  rw [List.take_add_one, h]
  exact total_snoc _ _


/-- A number looked for in a neat list: those below it on one side, those above on the other. -/
theorem neat_lt {nl : List (Nat × Nat)} (hn : NeatL nl) {i j : Nat} {r s : Nat × Nat} (hi : nl[i]? = some r) (hj : nl[j]? = some s) (hij : i < j) : r.2 < s.1 := by
  have h1 := List.getElem?_eq_some_iff.1 hi
  have h2 := List.getElem?_eq_some_iff.1 hj
  have := List.pairwise_iff_getElem.1 hn.2 i j h1.1 h2.1 hij
  rw [h1.2, h2.2] at this
  exact this

/-- The search's state. -/
def Between (nl : List (Nat × Nat)) (x i j : Nat) : Prop := i ≤ j ∧ j ≤ nl.length ∧ (∀ k r, k < i → nl[k]? = some r → r.2 ≤ x) ∧ (∀ k r, j ≤ k → nl[k]? = some r → x < r.2)

theorem Between.up {nl : List (Nat × Nat)} (hn : NeatL nl) {x i j h : Nat} {r : Nat × Nat} (hb : Between nl x i j) (hih : i ≤ h) (hhj : h < j) (hr : nl[h]? = some r) (hx : r.2 ≤ x) : Between nl x (h + 1) j := by
  refine ⟨hhj, hb.2.1, fun k s hk hs => ?_, hb.2.2.2⟩
  rcases Nat.lt_or_ge k h with hlt | hge
  · have := neat_lt hn hs hr hlt
    have := hn.1 r (List.mem_of_getElem? hr)
    omega
  · obtain rfl : k = h := by omega
    rw [hr] at hs
    obtain rfl := Option.some.inj hs
    exact hx
theorem Between.down {nl : List (Nat × Nat)} (hn : NeatL nl) {x i j h : Nat} {r : Nat × Nat} (hb : Between nl x i j) (hih : i ≤ h) (hhj : h < j) (hr : nl[h]? = some r) (hx : x < r.2) : Between nl x i h := by
  refine ⟨hih, by have := hb.2.1; omega, hb.2.2.1, fun k s hk hs => ?_⟩
  rcases Nat.lt_or_ge h k with hlt | hge
  · have := neat_lt hn hr hs hlt
    have := hn.1 s (List.mem_of_getElem? hs)
    omega
  · obtain rfl : k = h := by omega
    rw [hr] at hs
    obtain rfl := Option.some.inj hs
    exact hx
theorem Between.found {nl : List (Nat × Nat)} (hn : NeatL nl) {x i : Nat} {r : Nat × Nat} (hb : Between nl x i i) (hr : nl[i]? = some r) : inB nl x = decide (r.1 ≤ x) := by
  have hx := hb.2.2.2 i r (Nat.le_refl _) hr
  by_cases h : r.1 ≤ x
  · rw [decide_eq_true h, inB_iff]
    exact ⟨r, List.mem_of_getElem? hr, h, hx⟩
  · rw [decide_eq_false h]
    cases hc : inB nl x with
    | false => rfl
    | true =>
      obtain ⟨s, hs, s1, s2⟩ := inB_iff.1 hc
      obtain ⟨k, hk⟩ := List.mem_iff_getElem?.1 hs
      rcases Nat.lt_trichotomy k i with h1 | h1 | h1
      · have := hb.2.2.1 k s h1 hk
        omega
      · subst h1
        rw [hr] at hk
        obtain rfl := Option.some.inj hk
        omega
      · have := neat_lt hn hr hk h1
        have := hn.1 r (List.mem_of_getElem? hr)
        omega
theorem Between.none {nl : List (Nat × Nat)} {x i : Nat} (hb : Between nl x i i) (hi : nl.length ≤ i) : inB nl x = false := by
  cases hc : inB nl x with
  | false => rfl
  | true =>
    obtain ⟨s, hs, s1, s2⟩ := inB_iff.1 hc
    obtain ⟨k, hk⟩ := List.mem_iff_getElem?.1 hs
    have := hb.2.2.1 k s (by have := (List.getElem?_eq_some_iff.1 hk).1; omega) hk
    omega

/-- What a search tells. -/
def SeekTold (nl : List (Nat × Nat)) (x : Nat) (w : World) (e : Ending) (w' : World) : Prop := ∃ i : Nat, e = .returned (.tuple #[.int .i64 (i : Int), .bool (inB nl x)]) ∧ Below w.heap.size w w'

set_option maxRecDepth 10000 in
set_option maxHeartbeats 2000000 in
theorem seek_any (w : World) (A : Option Addr) (len c x : Nat) (nl : List (Nat × Nat)) (hr : Rs w w.heap.size A nl) (hl : nl.length = len) (hlen : len ≤ 16777216) (hn : NeatL nl) :
    Calls Try.prog 22 #[.slice A len c, .int .u64 (x : Int), .func (.func 23) #[] #[]] w (SeekTold nl x w) := by
  have HS := Lib.hid hr
  have HL := Lib.hid hl
  have HN := Lib.hid hn
  have HBT : Hid (Between nl x 0 len) := Lib.hid ⟨Nat.zero_le _, by omega, fun k r hk => by omega, fun k r hk hr => by have := (List.getElem?_eq_some_iff.1 hr).1; omega⟩
  clear hr hl hn
  go_enter Try.func22, Try.ntmps22
  go_wp2
  go_loopw [9, 10] (fun s9 s10 wr => ∃ (i j : Nat), s9 = .int .i64 i ∧ s10 = .int .i64 j ∧ i ≤ j ∧ j ≤ len ∧ Hid (Between nl x i j) ∧ Hid (Below w.heap.size w wr)) (fun s9 s10 _ => (intOf s10).toNat - (intOf s9).toNat)
  case atStart => exact ⟨0, len, rfl, rfl, Nat.zero_le _, Nat.le_refl _, HBT, Lib.hid (Below.refl _ _)⟩
  case round =>
    obtain ⟨i, j, rfl, rfl, hij, hjl, hbt, hbw⟩ := hrel
    by_cases hlt : i < j
    · have d1 : decide (i < j) = true := decide_eq_true hlt
      obtain ⟨h, hh⟩ : ∃ h : Nat, h = (i + j) / 2 := ⟨_, rfl⟩
      have hhi : ((i : Int) + (j : Int)) / 2 = (h : Int) := by omega
      have hih : i ≤ h := by omega
      have hhj : h < j := by omega
      have hhl : h < len := by omega
      obtain ⟨r, hr⟩ : ∃ r, nl[h]? = some r := ⟨_, List.getElem?_eq_getElem (by rw [HL.out]; exact hhl)⟩
      obtain ⟨b, off, rfl, hbl, hcc⟩ := HS.out.at_ (by rw [HL.out]; omega)
      have hc1 := (hbw.out.cell (p := ⟨b, off + h * 2, none⟩) hbl).trans (hcc h r hr).1
      have hc2 := (hbw.out.cell (p := ⟨b, off + h * 2 + 1, none⟩) hbl).trans (hcc h r hr).2
      have HR := Lib.hid hr
      have hsd := fun W' => side_any r.1 r.2 x W'
      have HBS := hbw.out.size
      clear hcc hr hh
      by_cases hx : r.2 ≤ x
      · have hs : sideS r.1 r.2 x = -1 := by simp [sideS, hx]
        rw [hs] at hsd
        clear hs
        go_wp2_with (go_at_call 23; refine (hsd _).mono ?_; rintro e w2 ⟨rfl, hb2⟩)
        go_roundw
        case rel => exact ⟨h + 1, j, by go_num, rfl, by omega, hjl, Lib.hid (hbt.out.up HN.out hih hhj HR.out hx), Lib.hid (hbw.out.trans (hb2.mono HBS))⟩
        case measure => simp [intOf]; omega
      · have hs : ∃ z : Int, sideS r.1 r.2 x = z ∧ 0 ≤ z := by
          unfold sideS
          rw [if_neg hx]
          split
          · exact ⟨1, rfl, by omega⟩
          · exact ⟨0, rfl, by omega⟩
        obtain ⟨z, hz, hz0⟩ := hs
        rw [hz] at hsd
        have hz1 : decide (z < 0) = false := decide_eq_false (by omega)
        clear hz
        go_wp2_with (go_at_call 23; refine (hsd _).mono ?_; rintro e w2 ⟨rfl, hb2⟩)
        go_roundw
        case rel => exact ⟨i, h, rfl, rfl, hih, by omega, Lib.hid (hbt.out.down HN.out hih hhj HR.out (by omega)), Lib.hid (hbw.out.trans (hb2.mono HBS))⟩
        case measure => simp [intOf]; omega
    · obtain rfl : i = j := by omega
      have d1 : decide (i < i) = false := decide_eq_false (by omega)
      by_cases hil : i < len
      · have d2 : decide (i < len) = true := decide_eq_true hil
        obtain ⟨r, hr⟩ : ∃ r, nl[i]? = some r := ⟨_, List.getElem?_eq_getElem (by rw [HL.out]; exact hil)⟩
        obtain ⟨b, off, rfl, hbl, hcc⟩ := HS.out.at_ (by rw [HL.out]; omega)
        have hc1 := (hbw.out.cell (p := ⟨b, off + i * 2, none⟩) hbl).trans (hcc i r hr).1
        have hc2 := (hbw.out.cell (p := ⟨b, off + i * 2 + 1, none⟩) hbl).trans (hcc i r hr).2
        have hfd := hbt.out.found HN.out hr
        have hx := hbt.out.2.2.2 i r (Nat.le_refl _) hr
        have hsd := fun W' => side_any r.1 r.2 x W'
        have HBS := hbw.out.size
        have HFD := Lib.hid hfd
        clear hcc hr hfd hbt
        by_cases hx1 : r.1 ≤ x
        · have hs : sideS r.1 r.2 x = 0 := by unfold sideS; rw [if_neg (by omega), if_neg (by omega)]
          rw [hs] at hsd
          clear hs
          have HFT : Hid (inB nl x = true) := Lib.hid (by rw [HFD.out]; exact decide_eq_true hx1)
          go_wp2_with (go_at_call 23; refine (hsd _).mono ?_; rintro e w2 ⟨rfl, hb2⟩)
          go_ret2
          refine ⟨i, ?_, hbw.out.trans (hb2.mono HBS)⟩
          rw [HFT.out]
          rfl
        · have hs : sideS r.1 r.2 x = 1 := by unfold sideS; rw [if_neg (by omega), if_pos (by omega)]
          rw [hs] at hsd
          clear hs
          have HFT : Hid (inB nl x = false) := Lib.hid (by rw [HFD.out]; exact decide_eq_false hx1)
          go_wp2_with (go_at_call 23; refine (hsd _).mono ?_; rintro e w2 ⟨rfl, hb2⟩)
          go_ret2
          refine ⟨i, ?_, hbw.out.trans (hb2.mono HBS)⟩
          rw [HFT.out]
          rfl
      · have d2 : decide (i < len) = false := decide_eq_false hil
        have HFT : Hid (inB nl x = false) := Lib.hid (hbt.out.none (by rw [HL.out]; omega))
        go_wp2
        go_ret2
        refine ⟨i, ?_, hbw.out⟩
        rw [HFT.out]
        rfl

end Go.Proofs.Ytaemfoelhijbjaa
