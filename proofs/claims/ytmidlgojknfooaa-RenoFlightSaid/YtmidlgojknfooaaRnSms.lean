/-
  Calls that came in, in memory; the walks through hostlerlaw14.Do.size and Heavy.
-/
import Derived.Test.YtmidlgojknfooaaRnWorks
import Derived.Test.YtmidlgojknfooaaAlloc
import Derived.Deep.MidRow
import Derived.Laws.Tables
import Derived.Deep.WholeRow
import Derived.Deep.Cut
namespace Go.Proofs.Ytmidlgojknfooaa
open Go.RowKit
set_option linter.unusedVariables false

/-- A call: its kind, its sizes (where they lie, what they are, how many fit), its two ticks. -/
structure DN where
  kd : Nat
  sa : Option Addr
  sl : List Nat
  sc : Nat
  tk : Nat
  mo : Nat

def dnCells (d : DN) : List Value := [.int .u8 (d.kd : Int), .slice d.sa d.sl.length d.sc, .int .u64 (d.tk : Int), .int .u64 (d.mo : Int)]
theorem dnCells_one (d : DN) : (dnCells d).toArray.all (·.oneCell') = true := by simp [dnCells, Value.oneCell']

/-- The call's sizes lie below block B, and all is of 64 bits. -/
structure DN.In (d : DN) (w : World) (B : Nat) : Prop where
  sizes : Sv w B d.sa (d.sl.map cell64)
  cap : d.sl.length ≤ d.sc
  top : d.sc ≤ maxLen
  each : ∀ n ∈ d.sl, n ≤ mU
  tk : d.tk ≤ mU
  mo : d.mo ≤ mU
theorem DN.In.below {d : DN} {w w' : World} {B : Nat} (h : d.In w B) (hb : Below B w w') : d.In w' B := ⟨h.sizes.below hb, h.cap, h.top, h.each, h.tk, h.mo⟩
theorem DN.In.first {d : DN} {w : World} {B : Nat} (h : d.In w B) : d.sl.headD 0 ≤ mU := by
  cases hl : d.sl with
  | nil => exact Nat.zero_le _
  | cons x l => exact h.each x (by rw [hl]; exact List.mem_cons_self ..)

/-- The slice at A reads as the calls, and lies below block B. -/
def Dns (w : World) (B : Nat) (A : Option Addr) (l : List DN) : Prop :=
  (l ≠ [] → ∃ b off, A = some ⟨b, off, none⟩ ∧ b < B ∧ ∀ i d, l[i]? = some d → w.rangeAt b (off + i * 4) (dnCells d)) ∧ ∀ d ∈ l, d.In w B
theorem Dns.below {w w' : World} {B : Nat} {A : Option Addr} {l : List DN} (h : Dns w B A l) (hb : Below B w w') : Dns w' B A l := by
  refine ⟨fun hn => ?_, fun d hd => (h.2 d hd).below hb⟩
  obtain ⟨b, off, rfl, hlt, hc⟩ := h.1 hn
  exact ⟨b, off, rfl, hlt, fun i d hd j v hv => (hb.cell (p := ⟨b, off + i * 4 + j, none⟩) hlt).trans (hc i d hd j v hv)⟩
theorem DN.In.mono {d : DN} {w : World} {B B' : Nat} (h : d.In w B) (hB : B ≤ B') : d.In w B' := ⟨h.sizes.keep hB fun _ _ => rfl, h.cap, h.top, h.each, h.tk, h.mo⟩
theorem Dns.mono {w : World} {B B' : Nat} {A : Option Addr} {l : List DN} (h : Dns w B A l) (hB : B ≤ B') : Dns w B' A l := by
  refine ⟨fun hn => ?_, fun d hd => (h.2 d hd).mono hB⟩
  obtain ⟨b, off, rfl, hlt, hc⟩ := h.1 hn
  exact ⟨b, off, rfl, by omega, hc⟩
theorem Dns.at_ {w : World} {B : Nat} {A : Option Addr} {l : List DN} (h : Dns w B A l) (hn : 0 < l.length) :
    ∃ b off, A = some ⟨b, off, none⟩ ∧ b < B ∧ ∀ i d, l[i]? = some d → w.rangeAt b (off + i * 4) (dnCells d) :=
  h.1 (by rintro rfl; simp at hn)

theorem info_dn : (Try.prog.info? 30).map (·.size) = some 4 := by kernel_rfl

/-- A call's copy. -/
theorem copyN (w : World) (d : DN) : Wh (w.alloc (.cells (dnCells d).toArray 30)) w.heap.size 30 (dnCells d).toArray := Wh.new w _ _

/-- A law's test that may go either way. -/
def EitherN (w : World) (e : Ending) (w' : World) : Prop := ∃ b : Bool, e = .returned (.bool b) ∧ Below w.heap.size w w'

set_option maxRecDepth 10000 in
theorem size_any (w : World) (d : DN) (B : Nat) (h : d.In w B) (hB : B ≤ w.heap.size) :
    Calls Try.prog 11 #[.agg (dnCells d).toArray] w fun e w' => e = .returned (.int .u64 (d.sl.headD 0 : Int)) ∧ Below w.heap.size w w' := by
  have hW := copyN w d
  have hb := (Below.refl w.heap.size w).alloc (Nat.le_refl _) (.cells (dnCells d).toArray 30)
  have h2 : d.In (w.alloc (.cells (dnCells d).toArray 30)) B := h.below (hb.mono hB)
  have HB := Lib.hid hb
  have HX : Hid (∀ x l, d.sl = x :: l → ∃ b off, d.sa = some ⟨b, off, none⟩ ∧ (w.alloc (.cells (dnCells d).toArray 30)).cell? ⟨b, off, none⟩ = some (.int .u64 (x : Int))) := Lib.hid (by
    intro x l hl
    obtain ⟨b, off, e, _, hc⟩ := Sv.at_ h2.sizes (by rw [hl]; simp)
    exact ⟨b, off, e, hc 0 _ (by rw [hl]; rfl)⟩)
  have hk1 : (w.alloc (.cells (dnCells d).toArray 30)).cell? ⟨w.heap.size, 1, none⟩ = some (.slice d.sa d.sl.length d.sc) := (hW.cell 1).trans rfl
  clear hW hb h h2 hB
  go_enter Try.func11, Try.ntmps11
  go_upto_region 1 with (fail)
  generalize w.alloc (.cells (dnCells d).toArray 30) = w2 at *
  generalize hq : w.heap.size = q at hk1 HB ⊢
  rcases hl : d.sl with _ | ⟨x, l⟩
  · rw [hl] at hk1
    have HL := Lib.hid hl
    have HQ := Lib.hid hq
    clear HX hq hl
    simp only [List.length_nil] at hk1
    go_wp2
    go_ret
    exact ⟨by rw [HL.out]; rfl, by rw [HQ.out]; exact HB.out⟩
  · obtain ⟨b, off, hsa, hx⟩ := HX.out x l hl
    rw [hl, hsa] at hk1
    obtain ⟨k, hk⟩ : ∃ k, k = (x :: l).length := ⟨_, rfl⟩
    rw [← hk] at hk1
    have hk0 : (0 : Int) < (k : Int) := by rw [hk, List.length_cons]; omega
    have e0 : ((k : Int) == 0) = false := by simp; omega
    have HL := Lib.hid hl
    have HQ := Lib.hid hq
    clear HX hk hsa hl hq
    go_wp2
    go_ret
    exact ⟨by rw [HL.out]; rfl, by rw [HQ.out]; exact HB.out⟩

set_option maxRecDepth 10000 in
set_option maxHeartbeats 1000000 in
theorem heavyN_any (A : Option Addr) (n c : Nat) (l : List DN) (w : World) (hl : l.length = n) (hr : Dns w w.heap.size A l) (hnc : n ≤ c) (hcm : c ≤ maxLen) :
    Calls Try.prog 6 #[.slice A n c] w (EitherN w) := by
  have hnm : n ≤ 9223372036854775807 := by unfold maxLen at hcm; omega
  have HL := Lib.hid hl
  have HR := Lib.hid hr
  clear hl hr hnc hcm
  go_enter Try.func6, Try.ntmps6
  go_wp2
  go_loopw [3, 10] (fun s3 s10 wr => ∃ (k : Nat) (z : Int), k ≤ n ∧ s10 = .int .i64 k ∧ s3 = .int .i64 z ∧ Hid (Below w.heap.size w wr)) (fun _ s10 _ => n - (intOf s10).toNat)
  case atStart => exact ⟨0, _, Nat.zero_le _, rfl, rfl, Lib.hid (Below.refl _ _)⟩
  case round =>
    obtain ⟨k, z, hk, rfl, rfl, hbk⟩ := hrel
    by_cases hlt : k < n
    · obtain ⟨d, hd⟩ : ∃ d, l[k]? = some d := ⟨_, List.getElem?_eq_getElem (by rw [HL.out]; exact hlt)⟩
      obtain ⟨b, off, rfl, hbl, hcc⟩ := (HR.out.below hbk.out).at_ (by rw [HL.out]; omega)
      have HC := Lib.hid (hcc k d hd)
      have HD := Lib.hid ((HR.out.below hbk.out).2 d (List.mem_of_getElem? hd))
      have d0 : decide (k < n) = true := decide_eq_true hlt
      clear hcc hd
      go_upto_region 5 with (first
        | (refine wpList_load_mid rfl 30 (.tmp 12) rfl b (off + k * 4) rfl (dnCells d) _ HC.out Try.underlying30 rfl info_dn ?_)
        | (refine wpList_store_row rfl 30 (.tmp 5) (.tmp 13) rfl wr.heap.size (dnCells d).toArray rfl rfl _ _ (heap_alloc_new wr _) info_dn rfl (dnCells_one d) ?_; rw [World.setRow_alloc_new]))
      have hW := copyN wr d
      have HB1 := Lib.hid (hbk.out.alloc hbk.out.size (.cells (dnCells d).toArray 30))
      have HD1 := Lib.hid (HD.out.below ((Below.refl _ _).alloc hbk.out.size (.cells (dnCells d).toArray 30)))
      generalize wr.alloc (.cells (dnCells d).toArray 30) = w1 at *
      generalize wr.heap.size = q at *
      have hc0 : w1.cell? ⟨q, 0, none⟩ = some (.int .u8 (d.kd : Int)) := (hW.cell 0).trans rfl
      have hc1 : w1.cell? ⟨q, 1, none⟩ = some (.slice d.sa d.sl.length d.sc) := (hW.cell 1).trans rfl
      have hc2 : w1.cell? ⟨q, 2, none⟩ = some (.int .u64 (d.tk : Int)) := (hW.cell 2).trans rfl
      have hc3 : w1.cell? ⟨q, 3, none⟩ = some (.int .u64 (d.mo : Int)) := (hW.cell 3).trans rfl
      obtain ⟨m, hm⟩ : ∃ m, m = d.sl.length := ⟨_, rfl⟩
      rw [← hm] at hc1
      have HM := Lib.hid hm
      have hmm : m ≤ 9223372036854775807 := by have := HD1.out.cap; have := HD1.out.top; unfold maxLen at this; omega
      have HX : Hid (∀ j, j < m → ∃ (b' off' x : Nat), d.sa = some ⟨b', off', none⟩ ∧ w1.cell? ⟨b', off' + j, none⟩ = some (.int .u64 (x : Int))) := Lib.hid (fun j hj => by
        obtain ⟨b', off', e, _, hc⟩ := Sv.at_ HD1.out.sizes (by rw [List.length_map, ← hm]; omega)
        obtain ⟨x, hx⟩ : ∃ x, d.sl[j]? = some x := ⟨_, List.getElem?_eq_getElem (by omega)⟩
        exact ⟨b', off', x, e, hc j _ (by rw [List.getElem?_map, hx]; rfl)⟩)
      clear hW HC HD hm
      generalize (d.kd : Int) = kd at *
      generalize (d.tk : Int) = x at *
      generalize (d.mo : Int) = y at *
      go_upto_region 6 with (fail)
      generalize wrap64 (z + wrap64 (1 + (m : Int))) = z2 at *
      generalize d.sa = sa at *
      rcases hz : decide (z2 > 1000) with _ | _
      rotate_left
      · go_wp2
        go_ret
        exact ⟨true, rfl, HB1.out⟩
      rcases hx : decide (x > 2305843009213693952) with _ | _
      rotate_left
      · go_wp2
        go_ret
        exact ⟨true, rfl, HB1.out⟩
      rcases hy : decide (y > 2305843009213693952) with _ | _
      rotate_left
      · go_wp2
        go_ret
        exact ⟨true, rfl, HB1.out⟩
      go_wp2
      go_loopw [35] (fun s35 wx => ∃ j : Nat, j ≤ m ∧ s35 = .int .i64 j ∧ wx = w1) (fun s35 _ => m - (intOf s35).toNat)
      case atStart => exact ⟨0, Nat.zero_le _, rfl, rfl⟩
      case round =>
        obtain ⟨j, hj, rfl, rfl⟩ := hrel
        by_cases hjm : j < m
        · obtain ⟨b', off', v, rfl, hc⟩ := HX.out j hjm
          have d1 : decide (j < m) = true := decide_eq_true hjm
          rcases h2 : (kd == (2 : Int)) with _ | _
          · go_wp2
            go_roundw
            case rel => exact ⟨j + 1, by omega, by go_num, trivial⟩
            case measure => simp [intOf]; omega
          · generalize (v : Int) = v at *
            rcases h3 : decide (v > 16777216) with _ | _
            · go_wp2
              go_roundw
              case rel => exact ⟨j + 1, by omega, by go_num, trivial⟩
              case measure => simp [intOf]; omega
            · go_wp2
              go_ret
              exact ⟨true, rfl, HB1.out⟩
        · obtain rfl : j = m := by omega
          have d1 : decide (j < j) = false := decide_eq_false (by omega)
          go_wp2
          go_roundw
          case rel => exact ⟨k + 1, _, by omega, by go_num, rfl, HB1⟩
          case measure => simp [intOf]; omega
    · obtain rfl : k = n := by omega
      have d0 : decide (k < k) = false := decide_eq_false (by omega)
      go_wp2
      go_ret
      exact ⟨false, rfl, hbk.out⟩

end Go.Proofs.Ytmidlgojknfooaa
