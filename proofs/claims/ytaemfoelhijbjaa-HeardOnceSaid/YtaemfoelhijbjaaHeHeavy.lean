/-
  Calls that came in, in memory; the walk through hostlerlaw12.Heavy.
-/
import Derived.Test.YtaemfoelhijbjaaHeKit0
import Derived.Test.YtaemfoelhijbjaaAlloc
import Derived.Deep.MidRow
import Derived.Laws.Tables
import Derived.Deep.WholeRow
import Derived.Deep.Cut
namespace Go.Proofs.Ytaemfoelhijbjaa
open Go.RowKit
set_option linter.unusedVariables false

/-- A call. -/
structure DC where
  kd : Nat
  pn : Nat
  wt : Bool
  nw : Nat
  dl : Nat

def dCells (d : DC) : List Value := [.int .u8 (d.kd : Int), .int .u64 (d.pn : Int), .bool d.wt, .int .u64 (d.nw : Int), .int .u64 (d.dl : Int)]
theorem dCells_one (d : DC) : (dCells d).toArray.all (·.oneCell') = true := by simp [dCells, Value.oneCell']

/-- The slice at A reads as the calls, and lies below block B. -/
def Ds (w : World) (B : Nat) (A : Option Addr) (l : List DC) : Prop :=
  l ≠ [] → ∃ b off, A = some ⟨b, off, none⟩ ∧ b < B ∧ ∀ i d, l[i]? = some d → w.rangeAt b (off + i * 5) (dCells d)
theorem Ds.nil (w : World) (B : Nat) (A : Option Addr) : Ds w B A [] := fun h => absurd rfl h
theorem Ds.below {w w' : World} {B : Nat} {A : Option Addr} {l : List DC} (h : Ds w B A l) (hb : Below B w w') : Ds w' B A l := by
  intro hn
  obtain ⟨b, off, rfl, hlt, hc⟩ := h hn
  exact ⟨b, off, rfl, hlt, fun i d hd j v hv => (hb.cell (p := ⟨b, off + i * 5 + j, none⟩) hlt).trans (hc i d hd j v hv)⟩
theorem Ds.at_ {w : World} {B : Nat} {A : Option Addr} {l : List DC} (h : Ds w B A l) (hn : 0 < l.length) :
    ∃ b off, A = some ⟨b, off, none⟩ ∧ b < B ∧ ∀ i d, l[i]? = some d → w.rangeAt b (off + i * 5) (dCells d) :=
  h (by rintro rfl; simp at hn)

theorem info_do : (Try.prog.info? 46).map (·.size) = some 5 := by kernel_rfl

/-- A number too great. -/
def heavyD (d : DC) : Bool := decide (4611686018427387903 < d.pn) || decide (4611686018427387904 < d.nw) || decide (4611686018427387904 < d.dl)
def heavyL (l : List DC) : Bool := l.any heavyD || decide (300 < l.length)

theorem heavy_yes {l : List DC} {k : Nat} {d : DC} (h : l[k]? = some d) (hd : heavyD d = true) : heavyL l = true := by
  unfold heavyL
  rw [Bool.or_eq_true]
  exact .inl (List.any_eq_true.2 ⟨d, List.mem_of_getElem? h, hd⟩)
theorem heavy_step {l : List DC} {k : Nat} {d : DC} (h : l[k]? = some d) (ht : (l.take k).any heavyD = false) (hd : heavyD d = false) : (l.take (k + 1)).any heavyD = false := by
  rw [List.take_add_one, h, List.any_append, ht]
  simp [hd]

/-- A call's copy. -/
theorem copyD (w : World) (d : DC) : Wh (w.alloc (.cells (dCells d).toArray 46)) w.heap.size 46 (dCells d).toArray := Wh.new w _ _

set_option maxRecDepth 10000 in
set_option maxHeartbeats 1000000 in
theorem heavy_any (A : Option Addr) (n c : Nat) (l : List DC) (w : World) (hl : l.length = n) (hr : Ds w w.heap.size A l) (hnc : n ≤ c) (hcm : c ≤ maxLen) :
    Calls Try.prog 11 #[.slice A n c] w fun e w' => e = .returned (.bool (heavyL l)) ∧ Below w.heap.size w w' := by
  have hnm : n ≤ 9223372036854775807 := by unfold maxLen at hcm; omega
  have HL := Lib.hid hl
  have HR := Lib.hid hr
  clear hl hr hnc hcm
  go_enter Try.func11, Try.ntmps11
  go_wp2
  go_loopw [7] (fun s7 wr => ∃ k : Nat, k ≤ n ∧ s7 = .int .i64 k ∧ Hid ((l.take k).any heavyD = false) ∧ Hid (Below w.heap.size w wr)) (fun s7 _ => n - (intOf s7).toNat)
  case atStart => exact ⟨0, Nat.zero_le _, rfl, Lib.hid (by simp), Lib.hid (Below.refl _ _)⟩
  case round =>
    obtain ⟨k, hk, rfl, hall, hbk⟩ := hrel
    by_cases hlt : k < n
    · obtain ⟨d, hd⟩ : ∃ d, l[k]? = some d := ⟨_, List.getElem?_eq_getElem (by rw [HL.out]; exact hlt)⟩
      obtain ⟨b, off, rfl, hbl, hcc⟩ := (HR.out.below hbk.out).at_ (by rw [HL.out]; omega)
      have HC := Lib.hid (hcc k d hd)
      have HD := Lib.hid hd
      have d0 : decide (k < n) = true := decide_eq_true hlt
      clear hcc hd
      go_upto_region 4 with (first
        | (refine wpList_load_mid rfl 46 (.tmp 9) rfl b (off + k * 5) rfl (dCells d) _ HC.out Try.underlying46 rfl info_do ?_)
        | (refine wpList_store_row rfl 46 (.tmp 4) (.tmp 10) rfl wr.heap.size (dCells d).toArray rfl rfl _ _ (heap_alloc_new wr _) info_do rfl (dCells_one d) ?_; rw [World.setRow_alloc_new]))
      have hW := copyD wr d
      have HB1 := Lib.hid (hbk.out.alloc hbk.out.size (.cells (dCells d).toArray 46))
      generalize wr.alloc (.cells (dCells d).toArray 46) = w1 at *
      generalize wr.heap.size = q at *
      have hc1 : w1.cell? ⟨q, 1, none⟩ = some (.int .u64 (d.pn : Int)) := (hW.cell 1).trans rfl
      have hc3 : w1.cell? ⟨q, 3, none⟩ = some (.int .u64 (d.nw : Int)) := (hW.cell 3).trans rfl
      have hc4 : w1.cell? ⟨q, 4, none⟩ = some (.int .u64 (d.dl : Int)) := (hW.cell 4).trans rfl
      have HY : Hid (heavyD d = (decide ((d.pn : Int) > 4611686018427387903) || decide ((d.nw : Int) > 4611686018427387904) || decide ((d.dl : Int) > 4611686018427387904))) :=
        Lib.hid (by unfold heavyD; congr 1; congr 1; all_goals (rw [decide_eq_decide]; omega))
      clear hW HC
      generalize (d.pn : Int) = x at *
      generalize (d.nw : Int) = y at *
      generalize (d.dl : Int) = z at *
      rcases hx : decide (x > 4611686018427387903) with _ | _
      · rcases hy : decide (y > 4611686018427387904) with _ | _
        · rcases hz : decide (z > 4611686018427387904) with _ | _
          · have HH : Hid (heavyD d = false) := Lib.hid (by rw [HY.out, hx, hy, hz]; rfl)
            clear HY
            go_wp2
            go_roundw
            case rel => exact ⟨k + 1, by omega, by go_num, Lib.hid (heavy_step HD.out hall.out HH.out), HB1⟩
            case measure => simp [intOf]; omega
          · have HH : Hid (heavyD d = true) := Lib.hid (by rw [HY.out, hx, hy, hz]; rfl)
            clear HY
            go_wp2
            go_ret
            exact ⟨by rw [heavy_yes HD.out HH.out]; rfl, HB1.out⟩
        · have HH : Hid (heavyD d = true) := Lib.hid (by rw [HY.out, hx, hy]; rfl)
          clear HY
          go_wp2
          go_ret
          exact ⟨by rw [heavy_yes HD.out HH.out]; rfl, HB1.out⟩
      · have HH : Hid (heavyD d = true) := Lib.hid (by rw [HY.out, hx]; rfl)
        clear HY
        go_wp2
        go_ret
        exact ⟨by rw [heavy_yes HD.out HH.out]; rfl, HB1.out⟩
    · obtain rfl : k = n := by omega
      have d0 : decide (k < k) = false := decide_eq_false (by omega)
      have HA : Hid (l.any heavyD = false) := Lib.hid (by have := hall.out; rwa [List.take_of_length_le (by rw [HL.out]; exact Nat.le_refl _)] at this)
      have HE : Hid (heavyL l = decide ((k : Int) > 300)) := Lib.hid (by unfold heavyL; rw [HA.out, HL.out, Bool.false_or, decide_eq_decide]; omega)
      clear hall
      generalize hb : decide ((k : Int) > 300) = r at HE
      cases r
      all_goals
        go_wp2
        go_ret
        exact ⟨by rw [HE.out]; rfl, hbk.out⟩

end Go.Proofs.Ytaemfoelhijbjaa
