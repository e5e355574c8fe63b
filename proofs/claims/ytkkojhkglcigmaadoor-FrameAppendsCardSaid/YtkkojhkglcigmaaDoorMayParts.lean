/-
  The walks through frame.mayNumbers, mayAcks and mayKind.
-/
import Derived.Test.YtkkojhkglcigmaaDoorFrm
import Derived.BigQuiet
namespace Go.Proofs.YtkkojhkglcigmaaDoor
open Go.RowKit
set_option linter.unusedVariables false

/-- The greatest of a frame's numbers. -/
def topN (f : PF) : Nat := Max.max (Max.max (Max.max (Max.max (Max.max (Max.max (Max.max f.id f.off) f.code) f.max) f.delay) f.e0) f.e1) f.e2

def numsB (f : PF) : Bool := decide (topN f ≤ 4611686018427387903) && decide (f.off + f.data.length ≤ 4611686018427387903)

set_option maxRecDepth 10000 in
set_option maxHeartbeats 1000000 in
theorem nums_any (R : Array Value) (f : PF) (a : SA) (w : World) (hR : RowIs R f a) (hd : f.data.length ≤ 140737488355328) :
    Calls Tryd.prog 28 #[.agg R] w fun e w' => e = .returned (.bool (numsB f)) ∧ Below w.heap.size w w' := by
  have h1 := hR.id
  have h2 := hR.off
  have h3 := hR.max
  have h4 := hR.code
  have h7 := hR.data
  have h26 := hR.delay
  have h27 := hR.e0
  have h28 := hR.e1
  have h29 := hR.e2
  have hm : ∀ (ts : Array TypeId) (t : TypeId) (w : World), (Builtin.max_ ts t #[.int .u64 (f.id : Int), .int .u64 (f.off : Int), .int .u64 (f.code : Int), .int .u64 (f.max : Int), .int .u64 (f.delay : Int), .int .u64 (f.e0 : Int), .int .u64 (f.e1 : Int), .int .u64 (f.e2 : Int)]).run Tryd.prog w = .ok (.int .u64 (topN f : Int)) w := by
    intro ts t w
    rw [run_max8]
    simp only [mxI_nat]
    rfl
  clear hR
  have hoff : f.off ≤ topN f := by unfold topN; omega
  have HNB : Hid (numsB f = (decide (topN f ≤ 4611686018427387903) && decide (f.off + f.data.length ≤ 4611686018427387903))) := rfl
  generalize topN f = M at *
  generalize numsB f = nb at *
  by_cases hM : M ≤ 4611686018427387903
  · have HM : Hid (M ≤ 4611686018427387903) := hM
    by_cases hO : f.off + f.data.length ≤ 4611686018427387903
    · have HO : Hid (f.off + f.data.length ≤ 4611686018427387903) := hO
      have t1 : (M : Int) ≤ 4611686018427387903 := by omega
      have t2 : (f.off : Int) + (f.data.length : Int) ≤ 4611686018427387903 := by omega
      have t3 : (f.data.length : Int) ≤ 140737488355328 := by omega
      have t4 : (f.off : Int) ≤ 4611686018427387903 := by omega
      clear hM hO hd hoff
      go_enter Tryd.func28, Tryd.ntmps28
      go_wp2
      go_ret
      exact ⟨by rw [HNB.out, decide_eq_true HM.out, decide_eq_true HO.out]; rfl, (Below.refl _ _).alloc (Nat.le_refl _) _⟩
    · have HO : Hid (¬ f.off + f.data.length ≤ 4611686018427387903) := hO
      have t1 : (M : Int) ≤ 4611686018427387903 := by omega
      have t2 : decide ((f.off : Int) + (f.data.length : Int) ≤ 4611686018427387903) = false := decide_eq_false (by omega)
      have t3 : (f.data.length : Int) ≤ 140737488355328 := by omega
      have t4 : (f.off : Int) ≤ 4611686018427387903 := by omega
      clear hM hO hd hoff
      go_enter Tryd.func28, Tryd.ntmps28
      go_wp2
      go_ret
      exact ⟨by rw [HNB.out, decide_eq_true HM.out, decide_eq_false HO.out]; rfl, (Below.refl _ _).alloc (Nat.le_refl _) _⟩
  · have HM : Hid (¬ M ≤ 4611686018427387903) := hM
    have t1 : decide ((M : Int) ≤ 4611686018427387903) = false := decide_eq_false (by omega)
    clear hM hd hoff
    go_enter Tryd.func28, Tryd.ntmps28
    go_wp2
    go_ret
    exact ⟨by rw [HNB.out, decide_eq_false HM.out]; rfl, (Below.refl _ _).alloc (Nat.le_refl _) _⟩

theorem below_drewN {B : Nat} {a w : World} (h : Below B a w) (n : Nat) : Below B a (w.drewN n) := by
  induction n with
  | zero => exact h
  | succ n ih => exact ih.drew

/-- The ranges are such: each has a number, and is below the bound; between two lies at least one number. -/
def okR (l : List (Nat × Nat)) (i : Nat) : Prop := ∀ x, l[i]? = some x → x.1 < x.2 ∧ x.2 ≤ 4611686018427387904 ∧ ∀ y, 0 < i → l[i - 1]? = some y → y.2 < x.1
def OkR (l : List (Nat × Nat)) : Prop := ∀ i, okR l i

def AcksTold (l : List (Nat × Nat)) (w : World) (e : Ending) (w' : World) : Prop :=
  (OkR l ∧ l ≠ [] → e = .returned (.bool true)) ∧ (¬ (OkR l ∧ l ≠ []) → e = .returned (.bool false)) ∧ Below w.heap.size w w'

set_option maxRecDepth 10000 in
set_option maxHeartbeats 1000000 in
theorem acks_in (b off len c : Nat) (l : List (Nat × Nat)) (w : World) (hb : b < w.heap.size) (hl : l.length = len) (hlen : len ≤ 140737488355328)
    (hc : ∀ i x, l[i]? = some x → w.cell? ⟨b, off + i * 2, none⟩ = some (.int .u64 (x.1 : Int)) ∧ w.cell? ⟨b, off + i * 2 + 1, none⟩ = some (.int .u64 (x.2 : Int))) :
    Calls Tryd.prog 38 #[.slice (some ⟨b, off, none⟩) len c] w (AcksTold l w) := by
  have HL := Lib.hid hl
  have HC := Lib.hid hc
  clear hl hc
  go_enter Tryd.func38, Tryd.ntmps38
  go_wp2
  go_loopw [7] (fun i wr => ∃ k : Nat, k ≤ len ∧ i = .int .i64 k ∧ Hid (∀ j, j < k → okR l j) ∧ Below w.heap.size w wr) (fun i _ => len - (intOf i).toNat)
  case atStart => exact ⟨0, Nat.zero_le _, rfl, Lib.hid (fun j hj => by omega), Below.refl _ _⟩
  case round =>
    obtain ⟨k, hk, rfl, hok, hbk⟩ := hrel
    by_cases hlt : k < len
    · obtain ⟨x, hx⟩ : ∃ x, l[k]? = some x := ⟨_, List.getElem?_eq_getElem (by rw [HL.out]; exact hlt)⟩
      have hc1 := (hbk.cell (p := ⟨b, off + k * 2, none⟩) hb).trans (HC.out k x hx).1
      have hc2 := (hbk.cell (p := ⟨b, off + k * 2 + 1, none⟩) hb).trans (HC.out k x hx).2
      have HX := Lib.hid hx
      clear hx
      by_cases h1 : x.1 < x.2
      · by_cases h2 : x.2 ≤ 4611686018427387904
        · have t1 : decide ((x.2 : Int) ≤ (x.1 : Int)) = false := decide_eq_false (by omega)
          have t2 : decide ((4611686018427387904 : Int) < (x.2 : Int)) = false := decide_eq_false (by omega)
          rcases Nat.eq_zero_or_pos k with h0 | h0
          · subst h0
            simp only [Nat.zero_mul, Nat.add_zero] at hc1 hc2
            go_wp2
            go_quiet (fail)
            go_wp2
            go_roundw
            case rel => exact ⟨1, by omega, rfl, Lib.hid (fun i hi z hz => by
              obtain rfl : i = 0 := by omega
              rw [HX.out] at hz
              obtain rfl := Option.some.inj hz
              exact ⟨h1, h2, fun y h0 => absurd h0 (by omega)⟩), below_drewN (hbk.alloc hbk.size _) _⟩
            case measure => simp [intOf]; omega
          · obtain ⟨j, rfl⟩ : ∃ j, k = j + 1 := ⟨k - 1, by omega⟩
            obtain ⟨y, hy⟩ : ∃ y, l[j]? = some y := ⟨_, List.getElem?_eq_getElem (by rw [HL.out]; omega)⟩
            have hy2 := (hbk.cell (p := ⟨b, off + j * 2 + 1, none⟩) hb).trans (HC.out j y hy).2
            have hbs : b < wr.heap.size := Nat.lt_of_lt_of_le hb hbk.size
            have hy3 : ∀ o : Obj, (wr.alloc o).cell? ⟨b, off + j * 2 + 1, none⟩ = some (.int .u64 (y.2 : Int)) := fun o => (World.cell?_alloc_lt wr o ⟨b, off + j * 2 + 1, none⟩ hbs).trans hy2
            clear hy2
            have HY := Lib.hid hy
            have hj : j < len := by omega
            have w1 : IntKind.i64.wrap (j : Int) = (j : Int) := IntWalk.i64_in _ (by omega)
            clear hy h0
            by_cases h3 : y.2 < x.1
            · have t3 : decide ((x.1 : Int) ≤ (y.2 : Int)) = false := decide_eq_false (by omega)
              go_wp2
              go_quiet (fail)
              go_wp2
              go_roundw
              case rel => exact ⟨j + 1 + 1, by omega, by go_num, Lib.hid (fun i hi => by
                rcases Nat.lt_or_ge i (j + 1) with hlt' | hge
                · exact hok.out i hlt'
                · obtain rfl : i = j + 1 := by omega
                  exact fun z hz => by
                    rw [HX.out] at hz
                    obtain rfl := Option.some.inj hz
                    exact ⟨h1, h2, fun y' _ hy' => by
                      rw [show j + 1 - 1 = j by omega, HY.out] at hy'
                      obtain rfl := Option.some.inj hy'
                      exact h3⟩), below_drewN (hbk.alloc hbk.size _) _⟩
              case measure => simp [intOf]; omega
            · have t3 : decide ((x.1 : Int) ≤ (y.2 : Int)) = true := decide_eq_true (by omega)
              go_wp2
              go_quiet (fail)
              go_wp2
              go_ret
              exact ⟨fun h => absurd ((h.1 (j + 1) x HX.out).2.2 y (by omega) (by rw [show j + 1 - 1 = j by omega]; exact HY.out)) h3, fun _ => rfl, below_drewN (hbk.alloc hbk.size _) _⟩
        · have t1 : decide ((x.2 : Int) ≤ (x.1 : Int)) = false := decide_eq_false (by omega)
          have t2 : decide ((4611686018427387904 : Int) < (x.2 : Int)) = true := decide_eq_true (by omega)
          go_wp2
          go_ret
          exact ⟨fun h => absurd (h.1 k x HX.out).2.1 h2, fun _ => rfl, hbk.alloc hbk.size _⟩
      · have t1 : decide ((x.2 : Int) ≤ (x.1 : Int)) = true := decide_eq_true (by omega)
        go_wp2
        go_ret
        exact ⟨fun h => absurd (h.1 k x HX.out).1 h1, fun _ => rfl, hbk.alloc hbk.size _⟩
    · obtain rfl : k = len := by omega
      have hall : OkR l := fun i x hx => hok.out i (by have := (List.getElem?_eq_some_iff.1 hx).1; have := HL.out; omega) x hx
      have HA := Lib.hid hall
      clear hall
      by_cases h0 : 0 < k
      · go_wp2
        go_ret
        exact ⟨fun _ => rfl, fun h => absurd ⟨HA.out, fun e => by have := HL.out; rw [e] at this; simp at this; omega⟩ h, hbk⟩
      · obtain rfl : k = 0 := by omega
        go_wp2
        go_ret
        exact ⟨fun h => absurd (List.eq_nil_of_length_eq_zero HL.out) h.2, fun _ => rfl, hbk⟩

set_option maxRecDepth 10000 in
set_option maxHeartbeats 400000 in
theorem acks_empty (A : Option Addr) (c : Nat) (w : World) : Calls Tryd.prog 38 #[.slice A 0 c] w fun e w' => e = .returned (.bool false) ∧ w = w' := by
  go_enter Tryd.func38, Tryd.ntmps38
  go_wp2
  refine wp_loop_rounds 1 ?_
  rw [rounds_succ]
  go_wp2
  go_ret
  exact ⟨rfl, rfl⟩

theorem mayAcks_any (A : Option Addr) (len c : Nat) (l : List (Nat × Nat)) (w : World) (B : Nat) (hl : l.length = len) (hlen : len ≤ 140737488355328) (hr : Sr w B A l) (hB : B ≤ w.heap.size) :
    Calls Tryd.prog 38 #[.slice A len c] w (AcksTold l w) := by
  by_cases h0 : l = []
  · subst h0
    simp only [List.length_nil] at hl
    subst hl
    refine (acks_empty A c w).mono ?_
    rintro e w' ⟨rfl, rfl⟩
    exact ⟨fun h => absurd rfl h.2, fun _ => rfl, Below.refl _ _⟩
  · obtain ⟨b, off, rfl, hb, hc⟩ := hr h0
    exact acks_in b off len c l w (by omega) hl hlen hc

end Go.Proofs.YtkkojhkglcigmaaDoor
