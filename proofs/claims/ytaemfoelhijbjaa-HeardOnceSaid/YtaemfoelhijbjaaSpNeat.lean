/-
  The walk through span.Neat.
-/
import Derived.Test.YtaemfoelhijbjaaSpSmall
import Derived.Shelf.SlSortCmp.QuietGrown
import Derived.BigQuiet
namespace Go.Proofs.Ytaemfoelhijbjaa
open Go.RowKit
set_option linter.unusedVariables false

/-- A range out of a slice, laid in a box of its own. -/
theorem grown_cells {w : World} {b off : Nat} {v u : Value} (hb : b < w.heap.size) (h1 : w.cell? ⟨b, off, none⟩ = some v) (h2 : w.cell? ⟨b, off + 1, none⟩ = some u) :
    ∀ n os, (Go.Sort.grow (w.drewN n) os).cell? ⟨b, off, none⟩ = some v ∧ (Go.Sort.grow (w.drewN n) os).cell? ⟨b, off + 1, none⟩ = some u :=
  fun n os => ⟨cell_grown hb h1 n os, cell_grown hb h2 n os⟩

/-- What Neat tells. -/
def NeatTold (l : List (Nat × Nat)) (w : World) (e : Ending) (w' : World) : Prop := (NeatL l → e = .returned (.bool true)) ∧ (¬ NeatL l → e = .returned (.bool false)) ∧ Below w.heap.size w w'

set_option maxRecDepth 10000 in
set_option maxHeartbeats 2000000 in
theorem neat_in (b off len c : Nat) (l : List (Nat × Nat)) (w : World) (hb : b < w.heap.size) (hl : l.length = len) (h0 : 0 < len) (hlen : len ≤ 140737488355328)
    (hc : ∀ i x, l[i]? = some x → w.cell? ⟨b, off + i * 2, none⟩ = some (.int .u64 (x.1 : Int)) ∧ w.cell? ⟨b, off + i * 2 + 1, none⟩ = some (.int .u64 (x.2 : Int))) :
    Calls Try.prog 14 #[.slice (some ⟨b, off, none⟩) len c] w (NeatTold l w) := by
  have HL := Lib.hid hl
  have HC := Lib.hid hc
  have mixed : Try.prog.follows .mixedOrders = true := by kernel_rfl
  clear hl hc
  go_enter Try.func14, Try.ntmps14
  go_wp2
  go_loopw [7] (fun i wr => ∃ k : Nat, k ≤ len ∧ i = .int .i64 k ∧ Hid (NeatL (l.take k)) ∧ Below w.heap.size w wr) (fun i _ => len - (intOf i).toNat)
  case atStart => exact ⟨0, Nat.zero_le _, rfl, Lib.hid (by simpa using neat_nil), Below.refl _ _⟩
  case round =>
    obtain ⟨k, hk, rfl, hnk, hbk⟩ := hrel
    by_cases hlt : k < len
    · obtain ⟨x, hx⟩ : ∃ x, l[k]? = some x := ⟨_, List.getElem?_eq_getElem (by rw [HL.out]; exact hlt)⟩
      have hc1 := (hbk.cell (p := ⟨b, off + k * 2, none⟩) hb).trans (HC.out k x hx).1
      have hc2 := (hbk.cell (p := ⟨b, off + k * 2 + 1, none⟩) hb).trans (HC.out k x hx).2
      have HX := Lib.hid hx
      clear hx
      have d1 : decide (k < len) = true := decide_eq_true hlt
      have hB0 : Below w.heap.size w (wr.alloc (.cells #[.int .u64 (x.1 : Int), .int .u64 (x.2 : Int)] 42)) := hbk.alloc hbk.size _
      have hbr := (World.block_lt_of_cell? wr _ hc1)
      have hW0 := Wh.new wr 42 #[.int .u64 (x.1 : Int), .int .u64 (x.2 : Int)]
      go_wp2
      generalize wr.alloc (.cells #[.int .u64 (x.1 : Int), .int .u64 (x.2 : Int)] 42) = W at *
      generalize wr.heap.size = bx at *
      have g0 : W.cell? ⟨bx, 0, none⟩ = some (.int .u64 (x.1 : Int)) := (hW0.cell 0).trans rfl
      have g1 : W.cell? ⟨bx, 1, none⟩ = some (.int .u64 (x.2 : Int)) := (hW0.cell 1).trans rfl
      have hg0 := fun n os => cell_grown hW0.lt g0 n os
      have hg1 := fun n os => cell_grown hW0.lt g1 n os
      clear g0 g1
      have hbW : b < W.heap.size := Nat.lt_of_lt_of_le hb hB0.size
      have hbeh : ∀ n os, Below w.heap.size w (Go.Sort.grow (W.drewN n) os) := fun n os => hB0.trans ((below_of_grow ⟨n, os, rfl⟩).mono hB0.size)
      have HBE := Lib.hid hbeh
      have HWC := Lib.hid hbW
      clear hB0 hW0 hc1 hc2 hbk hbr hbeh hbW
      by_cases h1 : x.2 ≤ x.1
      · have hem := fun W' => empty_any x.1 x.2 W'
        rw [decide_eq_true h1] at hem
        have HNO : Hid (¬ NeatL l) := fun h => by have := (neat_no HX.out h).1; omega
        refine wp_region_quiet_grown mixed (by kernel_rfl) ?_
        repeat (go_big_quiet_step ((go_at_call 26; exact Calls.grown_of (hem _))))
        refine wpQuiet_nil ?_
        intro _ hw'
        obtain ⟨⟨nq, osq⟩, hw''⟩ := hw'
        subst hw''
        go_wp2
        go_ret
        exact ⟨fun h => absurd h HNO.out, fun _ => rfl, HBE.out _ _⟩
      · have hem := fun W' => empty_any x.1 x.2 W'
        rw [decide_eq_false h1] at hem
        rcases Nat.eq_zero_or_pos k with h00 | h00
        · subst h00
          refine wp_region_quiet_grown mixed (by kernel_rfl) ?_
          repeat (go_big_quiet_step ((go_at_call 26; exact Calls.grown_of (hem _))))
          refine wpQuiet_nil ?_
          intro _ hw'
          obtain ⟨⟨nq, osq⟩, hw''⟩ := hw'
          subst hw''
          go_wp2
          go_roundw
          case rel => exact ⟨1, by omega, rfl, Lib.hid (neat_step HX.out hnk.out (by omega) (fun j z hj => by omega)), HBE.out _ _⟩
          case measure => simp [intOf]; omega
        · obtain ⟨j, rfl⟩ : ∃ j, k = j + 1 := ⟨k - 1, by omega⟩
          obtain ⟨y, hy⟩ : ∃ y, l[j]? = some y := ⟨_, List.getElem?_eq_getElem (by rw [HL.out]; omega)⟩
          have hy2 := fun n os => ((HBE.out n os).cell (p := ⟨b, off + j * 2 + 1, none⟩) hb).trans (HC.out j y hy).2
          have HY := Lib.hid hy
          have hj : j < len := by omega
          have w1 : IntKind.i64.wrap (j : Int) = (j : Int) := IntWalk.i64_in _ (by omega)
          clear hy h00
          by_cases h3 : x.1 ≤ y.2
          · have t3 : decide (x.1 ≤ y.2) = true := decide_eq_true h3
            have HNO : Hid (¬ NeatL l) := fun h => by have := (neat_no HX.out h).2 j y rfl HY.out; omega
            refine wp_region_quiet_grown mixed (by kernel_rfl) ?_
            repeat (go_big_quiet_step ((go_at_call 26; exact Calls.grown_of (hem _))))
            refine wpQuiet_nil ?_
            intro _ hw'
            obtain ⟨⟨nq, osq⟩, hw''⟩ := hw'
            subst hw''
            go_wp2
            go_ret
            exact ⟨fun h => absurd h HNO.out, fun _ => rfl, HBE.out _ _⟩
          · have t3 : decide (x.1 ≤ y.2) = false := decide_eq_false h3
            refine wp_region_quiet_grown mixed (by kernel_rfl) ?_
            repeat (go_big_quiet_step ((go_at_call 26; exact Calls.grown_of (hem _))))
            refine wpQuiet_nil ?_
            intro _ hw'
            obtain ⟨⟨nq, osq⟩, hw''⟩ := hw'
            subst hw''
            go_wp2
            go_roundw
            case rel => exact ⟨j + 1 + 1, by omega, by go_num, Lib.hid (neat_step HX.out hnk.out (by omega) (fun j' z hj' hz => by
              obtain rfl : j' = j := by omega
              rw [HY.out] at hz
              obtain rfl := Option.some.inj hz
              omega)), HBE.out _ _⟩
            case measure => simp [intOf]; omega
    · obtain rfl : k = len := by omega
      have d1 : decide (k < k) = false := decide_eq_false (by omega)
      have HA : Hid (NeatL l) := by
        have := hnk.out
        rw [List.take_of_length_le (by rw [HL.out]; exact Nat.le_refl _)] at this
        exact this
      clear hnk
      go_wp2
      go_ret
      exact ⟨fun _ => rfl, fun h => absurd HA.out h, hbk⟩

theorem neat_zero (A : Option Addr) (c : Nat) (w : World) : Calls Try.prog 14 #[.slice A 0 c] w fun e w' => e = .returned (.bool true) ∧ w = w' := by
  go_enter Try.func14, Try.ntmps14
  go_wp2
  refine wp_loop_rounds 1 ?_
  rw [rounds_succ]
  go_wp2
  go_ret
  exact ⟨rfl, rfl⟩

theorem neat_any (A : Option Addr) (len c : Nat) (l : List (Nat × Nat)) (w : World) (B : Nat) (hl : l.length = len) (hlen : len ≤ 140737488355328) (hr : Rs w B A l) (hB : B ≤ w.heap.size) :
    Calls Try.prog 14 #[.slice A len c] w (NeatTold l w) := by
  by_cases h0 : l = []
  · subst h0
    simp only [List.length_nil] at hl
    subst hl
    refine (neat_zero A c w).mono ?_
    rintro e w' ⟨rfl, rfl⟩
    exact ⟨fun _ => rfl, fun h => absurd neat_nil h, Below.refl _ _⟩
  · obtain ⟨b, off, rfl, hb, hc⟩ := hr h0
    exact neat_in b off len c l w (by omega) hl (by rw [← hl]; exact List.length_pos_iff.2 h0) hlen hc

end Go.Proofs.Ytaemfoelhijbjaa
