/-
  The walk through frame.May.
-/
import Derived.Test.YtkkojhkglcigmaaDoorOnly
import Derived.Test.YtkkojhkglcigmaaDoorKind
import Derived.Test.YtkkojhkglcigmaaDoorLoad
namespace Go.Proofs.YtkkojhkglcigmaaDoor
open Go.RowKit
set_option linter.unusedVariables false

/-- Whether a frame may be. -/
def MayF (f : PF) : Prop := bt (partsN f.kind) 1 = true ∧ onlyB f (partsN f.kind) = true ∧ numsB f = true ∧ KindP f

set_option maxRecDepth 10000 in
set_option maxHeartbeats 2000000 in
theorem may_any (R : Array Value) (f : PF) (a : SA) (w : World) (B : Nat) (hR : RowIs R f a) (hf : FrAt w B f a) (hB : B ≤ w.heap.size) (hT : PT w) :
    Calls Tryd.prog 10 #[.agg R] w (Told (MayF f) w) := by
  have h0 := hR.kind
  have hsz := hR.size
  have hw0 : Wh (w.alloc (.cells R 32)) w.heap.size 32 R := Wh.new w _ R
  have hb0 : Below w.heap.size w (w.alloc (.cells R 32)) := (Below.refl _ _).alloc (Nat.le_refl _) _
  have HI : Hid ((Tryd.prog.info? 32).map (·.size) = some R.size) := by rw [hsz]; exact info_frame
  have hbt : (bits .and .u16 (partsN f.kind : Int) 1 != 0) = bt (partsN f.kind) 1 := rfl
  have HM : Hid (MayF f = (bt (partsN f.kind) 1 = true ∧ onlyB f (partsN f.kind) = true ∧ numsB f = true ∧ KindP f)) := rfl
  have HP := Lib.hid (partsOf_any f.kind)
  have HO := Lib.hid (fun w => only_any R f a (partsN f.kind) w hR hf.tok hf.nums.2.2.2.2.2.2.2.1 hf.nums.2.2.2.2.2.2.2.2.1 hf.nums.2.2.2.2.2.2.2.2.2)
  have HN := Lib.hid (fun w => nums_any R f a w hR hf.dl)
  have HK := Lib.hid (fun (w1 : World) (h : Below w.heap.size w w1) (hz : w.heap.size ≤ w1.heap.size) => mayKind_any R f a w1 B hR (hf.below (h.mono hB)) (Nat.le_trans hB hz))
  have HT := Lib.hid (hT.below hb0 hT.lt)
  have HW := Lib.hid hw0
  have HB := Lib.hid hb0
  generalize partsN f.kind = p at *
  clear hsz hR hf hT hw0 hb0 hB
  go_enter Tryd.func10, Tryd.ntmps10
  go_wp2_with fail
  refine (HP.out _ HT.out).mono ?_
  rintro e w' ⟨rfl, rfl⟩
  cases hb : bt p 1
  all_goals
    rw [hb] at hbt
    have HBT := Lib.hid hb
    clear hb
  · go_wp2
    go_ret
    exact ⟨fun h => by rw [HM.out, HBT.out] at h; exact absurd h.1 (by simp), fun _ => rfl, HB.out⟩
  · go_wp2_with (refine wpList_load_any 32 (.tmp 1) rfl rfl w.heap.size rfl _ R _ HW.out Tryd.underlying32 rfl HI.out ?_)
    refine (HO.out _).mono ?_
    rintro e w1 ⟨rfl, hb1⟩
    have HW1 := Lib.hid (HW.out.below hb1 (by simp))
    have HB1 := Lib.hid (HB.out.trans (hb1.mono (by simp)))
    clear hb1
    cases ho : onlyB f p
    · have HO1 := Lib.hid ho
      clear ho
      go_wp2
      go_ret
      exact ⟨fun h => by rw [HM.out, HO1.out] at h; exact absurd h.2.1 (by simp), fun _ => rfl, HB1.out⟩
    · have HO1 := Lib.hid ho
      clear ho
      go_wp2_with (refine wpList_load_any 32 (.tmp 1) rfl rfl w.heap.size rfl _ R _ HW1.out Tryd.underlying32 rfl HI.out ?_)
      refine (HN.out _).mono ?_
      rintro e w2 ⟨rfl, hb2⟩
      have HW2 := Lib.hid (HW1.out.below hb2 HW1.out.lt)
      have HB2 := Lib.hid (HB1.out.trans (hb2.mono HB1.out.size))
      clear hb2
      cases hn : numsB f
      · have HN1 := Lib.hid hn
        clear hn
        go_wp2
        go_ret
        exact ⟨fun h => by rw [HM.out, HN1.out] at h; exact absurd h.2.2.1 (by simp), fun _ => rfl, HB2.out⟩
      · have HN1 := Lib.hid hn
        clear hn
        go_wp2_with (refine wpList_load_any 32 (.tmp 1) rfl rfl w.heap.size rfl _ R _ HW2.out Tryd.underlying32 rfl HI.out ?_)
        refine (HK.out w2 HB2.out HB2.out.size).mono ?_
        rintro e w3 ⟨hy, hno, hb3⟩
        have HB3 := Lib.hid (HB2.out.trans (hb3.mono HB2.out.size))
        clear hb3
        by_cases hQ : KindP f
        · obtain rfl := hy hQ
          have HQ := Lib.hid hQ
          clear hy hno hQ
          go_wp2
          go_ret
          exact ⟨fun _ => rfl, fun h => absurd (by rw [HM.out]; exact ⟨HBT.out, HO1.out, HN1.out, HQ.out⟩) h, HB3.out⟩
        · obtain rfl := hno hQ
          have HQ := Lib.hid hQ
          clear hy hno hQ
          go_wp2
          go_ret
          exact ⟨fun h => by rw [HM.out] at h; exact absurd h.2.2.2 HQ.out, fun _ => rfl, HB3.out⟩

end Go.Proofs.YtkkojhkglcigmaaDoor
