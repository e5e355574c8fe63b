/-
  The walks through hostlerref11.In and Same.
-/
import Derived.Test.YtkmnhlcjeebejaaSpHas
import Derived.Shelf.SlicesE.Kit
import Derived.Laws.StructEq
namespace Go.Proofs.Ytkmnhlcjeebejaa
open Go.RowKit
set_option linter.unusedVariables false

/-- '==' of two ranges. -/
theorem eq_rg : EqlAt Try.prog 37 (fun x : Nat × Nat => .agg (rcS x).toArray) (fun x y => x.1 == y.1 && x.2 == y.2) := by
  refine ⟨fun x y w => ?_, GuardAt.agg _ (by kernel_rfl)⟩
  have u3 := Try.underlying27
  have a3 := Try.isAgg27
  have z3 := Try.sizeOf27
  have hS : Try.prog.underlying 37 = some (.struct (Try.prog.fieldsOf 37)) := by kernel_rfl
  have hp : Try.prog.stoodInHeld 37 = false := by kernel_rfl
  simp only [rcS]
  rw [run_eql_struct, show (10000 : Nat) = 9999 + 1 from rfl, run_equalIn_agg w 9999 37 _ _ hS hp]
  simp only [Program.fieldsOf, Try.underlying37]
  go_simp
  by_cases h1 : x.1 = y.1
  · by_cases h2 : x.2 = y.2
    · simp [h1, h2]
    · have h2' : ¬ (x.2 : Int) = (y.2 : Int) := by omega
      simp [h1, h2, h2']
  · have h1' : ¬ (x.1 : Int) = (y.1 : Int) := by omega
    simp [h1, h1']

theorem eq_rg' (x y : Nat × Nat) : (x.1 == y.1 && x.2 == y.2) = decide (x = y) := by
  rw [Bool.eq_iff_iff]
  simp [Prod.ext_iff]

set_option maxRecDepth 10000 in
set_option maxHeartbeats 1000000 in
theorem in_some (b off len c x : Nat) (l : List (Nat × Nat)) (w : World) (hl : l.length = len) (hlen : len ≤ 16777216)
    (hc : ∀ i r, l[i]? = some r → w.cell? ⟨b, off + i * 2, none⟩ = some (.int .u64 (r.1 : Int)) ∧ w.cell? ⟨b, off + i * 2 + 1, none⟩ = some (.int .u64 (r.2 : Int))) :
    Calls Try.prog 21 #[.slice (some ⟨b, off, none⟩) len c, .int .u64 (x : Int)] w fun e w' => e = .returned (.bool (inB l x)) ∧ w = w' := by
  have HL := Lib.hid hl
  have HC := Lib.hid hc
  clear hl hc
  go_enter Try.func21, Try.ntmps21
  go_wp2
  go_loop [5] (fun s5 => ∃ k : Nat, k ≤ len ∧ s5 = .int .i64 k ∧ Hid (inB (l.take k) x = false)) (fun s5 => len - (intOf s5).toNat)
  case atStart => exact ⟨0, Nat.zero_le _, rfl, Lib.hid (by simp)⟩
  case round =>
    obtain ⟨k, hk, rfl, hn⟩ := hrel
    by_cases hlt : k < len
    · obtain ⟨r, hr⟩ : ∃ r, l[k]? = some r := ⟨_, List.getElem?_eq_getElem (by rw [HL.out]; exact hlt)⟩
      obtain ⟨hc1, hc2⟩ := HC.out k r hr
      have d1 : decide (k < len) = true := decide_eq_true hlt
      have hst : inB (l.take (k + 1)) x = (decide (r.1 ≤ x) && decide (x < r.2)) := by
        rw [List.take_add_one, hr, Option.toList_some, inB_append, hn.out, inB_one]
        simp
      have HST := Lib.hid hst
      have HR := Lib.hid (List.mem_of_getElem? hr)
      clear hst hr
      by_cases h1 : r.1 ≤ x
      · have t1 : decide (r.1 ≤ x) = true := decide_eq_true h1
        by_cases h2 : x < r.2
        · have t2 : decide (x < r.2) = true := decide_eq_true h2
          have HIN : Hid (inB l x = true) := Lib.hid (inB_iff.2 ⟨r, HR.out, h1, h2⟩)
          go_wp2
          go_ret
          exact ⟨by rw [HIN.out]; rfl, rfl⟩
        · have t2 : decide (x < r.2) = false := decide_eq_false h2
          go_wp2
          go_round
          case rel => exact ⟨k + 1, by omega, by go_num, Lib.hid (by rw [HST.out, t1, t2]; rfl)⟩
          case measure => simp [intOf]; omega
      · have t1 : decide (r.1 ≤ x) = false := decide_eq_false h1
        go_wp2
        go_round
        case rel => exact ⟨k + 1, by omega, by go_num, Lib.hid (by rw [HST.out, t1]; rfl)⟩
        case measure => simp [intOf]; omega
    · obtain rfl : k = len := by omega
      have d1 : decide (k < k) = false := decide_eq_false (by omega)
      have HIN : Hid (inB l x = false) := Lib.hid (by have := hn.out; rwa [List.take_of_length_le (by rw [HL.out]; exact Nat.le_refl _)] at this)
      clear hn
      go_wp2
      go_ret
      exact ⟨by rw [HIN.out]; rfl, rfl⟩

theorem in_zero (A : Option Addr) (c x : Nat) (w : World) : Calls Try.prog 21 #[.slice A 0 c, .int .u64 (x : Int)] w fun e w' => e = .returned (.bool false) ∧ w = w' := by
  go_enter Try.func21, Try.ntmps21
  go_wp2
  refine wp_loop_rounds 1 ?_
  rw [rounds_succ]
  go_wp2
  go_ret
  exact ⟨rfl, rfl⟩

theorem in_any (A : Option Addr) (len c x B : Nat) (l : List (Nat × Nat)) (w : World) (hl : l.length = len) (hlen : len ≤ 16777216) (hr : Rs w B A l) :
    Calls Try.prog 21 #[.slice A len c, .int .u64 (x : Int)] w fun e w' => e = .returned (.bool (inB l x)) ∧ w = w' := by
  by_cases h0 : l = []
  · subst h0
    simp only [List.length_nil] at hl
    subst hl
    exact in_zero A c x w
  · obtain ⟨b, off, rfl, _, hc⟩ := hr h0
    exact in_some b off len c x l w hl hlen hc

theorem take_eq_step {a b : List (Nat × Nat)} {k : Nat} {x y : Nat × Nat} (hx : a[k]? = some x) (hy : b[k]? = some y) (h : a.take k = b.take k) : decide (a.take (k + 1) = b.take (k + 1)) = decide (x = y) := by
  rw [List.take_add_one, List.take_add_one, hx, hy, h]
  rw [Bool.eq_iff_iff]
  simp

set_option maxRecDepth 10000 in
set_option maxHeartbeats 2000000 in
theorem same_any (A1 A2 : Option Addr) (n1 c1 n2 c2 B : Nat) (a b : List (Nat × Nat)) (w : World) (ha : a.length = n1) (hb : b.length = n2) (hl1 : n1 ≤ 16777216) (hl2 : n2 ≤ 16777216) (hr1 : Rs w B A1 a) (hr2 : Rs w B A2 b) (hB : B ≤ w.heap.size) :
    Calls Try.prog 9 #[.slice A1 n1 c1, .slice A2 n2 c2] w (Says (decide (a = b)) w) := by
  have HA := Lib.hid ha
  have HB := Lib.hid hb
  have HR1 := Lib.hid hr1
  have HR2 := Lib.hid hr2
  clear ha hb hr1 hr2
  by_cases hn : n1 = n2
  · subst hn
    go_enter Try.func9, Try.ntmps9
    go_wp2
    go_loopw [5, 6] (fun s5 s6 wr => ∃ (ok : Bool) (k : Nat), k ≤ n1 ∧ s5 = .bool ok ∧ s6 = .int .i64 k ∧ Hid (ok = decide (a.take k = b.take k)) ∧ Hid (Below w.heap.size w wr)) (fun _ s6 _ => n1 - (intOf s6).toNat)
    case atStart => exact ⟨true, 0, Nat.zero_le _, by simp, rfl, Lib.hid (by simp), Lib.hid (Below.refl _ _)⟩
    case round =>
      obtain ⟨ok, k, hk, rfl, rfl, hok, hbk⟩ := hrel
      by_cases hlt : k < n1
      · have d1 : decide (k < n1) = true := decide_eq_true hlt
        cases ok
        · have HNE : Hid (decide (a = b) = false) := Lib.hid (by
            have h1 := hok.out
            rw [decide_eq_false]
            intro e
            rw [e] at h1
            simp at h1)
          go_wp2
          go_ret
          exact ⟨by rw [HNE.out]; rfl, hbk.out⟩
        · obtain ⟨x, hx⟩ : ∃ x, a[k]? = some x := ⟨_, List.getElem?_eq_getElem (by rw [HA.out]; exact hlt)⟩
          obtain ⟨y, hy⟩ : ∃ y, b[k]? = some y := ⟨_, List.getElem?_eq_getElem (by rw [HB.out]; exact hlt)⟩
          obtain ⟨g1, o1, rfl, hg1, hc1⟩ := HR1.out.at_ (by rw [HA.out]; omega)
          obtain ⟨g2, o2, rfl, hg2, hc2⟩ := HR2.out.at_ (by rw [HB.out]; omega)
          have hx1 := (hbk.out.cell (p := ⟨g1, o1 + k * 2, none⟩) (by simp; omega)).trans (hc1 k x hx).1
          have hx2 := (hbk.out.cell (p := ⟨g1, o1 + k * 2 + 1, none⟩) (by simp; omega)).trans (hc1 k x hx).2
          have hy1 := (hbk.out.cell (p := ⟨g2, o2 + k * 2, none⟩) (by simp; omega)).trans (hc2 k y hy).1
          have hy2 := (hbk.out.cell (p := ⟨g2, o2 + k * 2 + 1, none⟩) (by simp; omega)).trans (hc2 k y hy).2
          have hte : a.take k = b.take k := by have := hok.out; simpa using this.symm
          have HST := Lib.hid (take_eq_step hx hy hte)
          have heq := eq_rg.1 x y
          have hgd := fun p q w => eq_rg.2 .eql p q x y w
          simp only [rcS] at heq hgd
          rw [eq_rg'] at heq
          clear hc1 hc2 hx hy hte
          generalize decide (x = y) = q at *
          clear hok
          go_wp2
          go_quiet (fail)
          go_wp2
          go_roundw
          case rel => exact ⟨q, k + 1, by omega, rfl, by go_num, Lib.hid HST.out.symm, Lib.hid (below_drewN hbk.out _)⟩
          case measure => simp [intOf]; omega
      · obtain rfl : k = n1 := by omega
        have d1 : decide (k < k) = false := decide_eq_false (by omega)
        have HOK : Hid (ok = decide (a = b)) := Lib.hid (by rw [hok.out, List.take_of_length_le (by rw [HA.out]; exact Nat.le_refl _), List.take_of_length_le (by rw [HB.out]; exact Nat.le_refl _)])
        clear hok
        go_wp2
        go_ret
        exact ⟨by rw [← HOK.out]; rfl, hbk.out⟩
  · have HNE : Hid (decide (a = b) = false) := Lib.hid (by
      rw [decide_eq_false]
      intro e
      rw [e, HB.out] at HA
      exact hn HA.out.symm)
    have t1 : ((n1 : Int) == (n2 : Int)) = false := by rw [beq_eq_false_iff_ne]; omega
    go_enter Try.func9, Try.ntmps9
    go_wp2
    refine wp_loop_rounds 1 ?_
    rw [rounds_succ]
    by_cases h0 : 0 < n1
    · have d1 : decide (0 < n1) = true := decide_eq_true h0
      go_wp2
      go_ret
      exact ⟨by rw [HNE.out]; rfl, Below.refl _ _⟩
    · have d1 : decide (0 < n1) = false := decide_eq_false h0
      go_wp2
      go_ret
      exact ⟨by rw [HNE.out]; rfl, Below.refl _ _⟩

end Go.Proofs.Ytkmnhlcjeebejaa
