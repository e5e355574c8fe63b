/-
  The walk through the reader's frame, where no kind is told: made by tools/gen_frame2.py.
-/
import Derived.Test.YtkkojhkglcigmaaDoorFSpec
import Derived.StillTailTactics
import Derived.Laws.CopyOwn
namespace Go.Proofs.YtkkojhkglcigmaaDoor
open Go.RowKit
set_option linter.unusedVariables false

set_option maxRecDepth 100000 in
set_option maxHeartbeats 8000000 in
theorem frame_bad (x : UInt8) (l : List UInt8) (w : World) (B rb : Nat) (hr : Rd w B rb (x :: l)) (hT : PT w) (hgB : 0 < B) (hlen : l.length ≤ 16777216) (hs : ¬ x.toNat / 8 = 1)
    (h1 : bt (partsN x.toNat) 1 = false) :
    Calls Tryd.prog 34 #[.pointer (some ⟨rb, 0, none⟩)] w (FrameGave w B rb (frame_ (x :: l))) := by
  have hxl := x.toNat_lt
  have hrlt := hr.lt
  have hBr : B ≤ rb := by obtain ⟨_, _, _, _, _, _, _, _, h⟩ := hr; exact h
  have hr0 : Rd (w.alloc (.cells (zRow 0) 32)) B rb (x :: l) := hr.grown (World.grownBy_alloc w _ none) (by simp) (by simp)
  have HR0 := Lib.hid hr0
  have HW0 := Lib.hid (Wh.new w 32 (zRow 0))
  have HG0 := Lib.hid (World.grownBy_alloc w (.cells (zRow 0) 32) (some rb))
  have hb1 : (bits .and .u16 (partsN x.toNat : Nat) 1 != 0) = false := h1
  have HQ : Hid (frame_ (x :: l) = none) := by
    show frame_ (x :: l) = _
    unfold frame_ sP
    simp only [hs, h1, if_false, Bool.false_eq_true]
  have HIS := Lib.hid (isStream_any x.toNat)
  have HPO := Lib.hid (partsOf_any x.toNat)
  have HPT := Lib.hid hT
  
  have HS := Lib.hid hs
  
  have hzr : (#[.int .u64 0, .int .u64 0, .int .u64 0, .int .u64 0, .int .u64 0, .int .u64 0, .bool false, .slice none 0 0, .slice none 0 0, .int .u8 0, .int .u8 0, .int .u8 0, .int .u8 0, .int .u8 0, .int .u8 0, .int .u8 0, .int .u8 0, .int .u8 0, .int .u8 0, .int .u8 0, .int .u8 0, .int .u8 0, .int .u8 0, .int .u8 0, .int .u8 0, .slice none 0 0, .int .u64 0, .int .u64 0, .int .u64 0, .int .u64 0] : Array Value) = zRow 0 := rfl
  generalize partsN x.toNat = p at *
  generalize frame_ (x :: l) = q at *
  clear hr0 h1 hT hr hs
  go_enter Tryd.func34, Tryd.ntmps34
  go_wp2_with fail
  refine (octet_cons x l _ B rb HR0.out).mono ?_
  rintro e w1 ⟨rfl, hr1, hg1⟩
  have hws : w.heap.size < w1.heap.size := by have := hg1.size; simp at this; omega
  have hFS0 : FS w (w1.alloc (.cells ((zRow 0).setIfInBounds 0 (.int .u64 (x.toNat : Int))) 32)) B rb w1.heap.size (zP x.toNat) zA l :=
    ⟨Wh.new w1 _ _, hr1.grown (World.grownBy_alloc w1 _ none) (by simp) (by simp), grown_trans (grown_trans HG0.out hg1) (World.grownBy_alloc w1 _ _), (HW0.out.grown hg1 (by simp; omega)).alloc _, hws, hrlt, hBr, zFA _ _ _ hxl⟩
  go_wp2_with (refine wpList_store_row rfl 32 (.tmp 4) (.tmp 11) rfl w1.heap.size ((zRow 0).setIfInBounds 0 (.int .u64 (x.toNat : Int))) rfl rfl _ _ (heap_alloc_new w1 (.cells (zRow 0) 32)) info_frame rfl (rowF_one (zP x.toNat) zA) ?_; rw [World.setRow_alloc_new])
  generalize w1.alloc (.cells ((zRow 0).setIfInBounds 0 (.int .u64 (x.toNat : Int))) 32) = w2 at *
  generalize w1.heap.size = g at *
  have hPT : PT w2 := PT.grown HPT.out hFS0.gr hgB hBr
  have HPT2 := Lib.hid hPT
  clear hPT hr1 hg1 hws
  refine (HPO.out w2 HPT2.out).mono ?_
  rintro e w' ⟨rfl, rfl⟩
  go_wp2_with fail
  refine (HIS.out w2 hxl).mono ?_
  rintro e w' ⟨rfl, rfl⟩
  rw [decide_eq_false HS.out]

  go_wp2_with fail
  refine (need_no _).mono ?_
  rintro e w' ⟨rfl, rfl⟩
  go_wp2
  obtain rfl : q = none := HQ.out
  exact ⟨rfl, rfl, hFS0.gr⟩

set_option maxRecDepth 10000 in
set_option maxHeartbeats 400000 in
theorem frame_nil (w : World) (B rb : Nat) (hr : Rd w B rb []) :
    Calls Tryd.prog 34 #[.pointer (some ⟨rb, 0, none⟩)] w (FrameGave w B rb (frame_ [])) := by
  have hrlt := hr.lt
  have hr0 : Rd (w.alloc (.cells (zRow 0) 32)) B rb [] := hr.grown (World.grownBy_alloc w _ none) (by simp) (by simp)
  have HR0 := Lib.hid hr0
  have HG0 := Lib.hid (World.grownBy_alloc w (.cells (zRow 0) 32) (some rb))
  have hzr : (#[.int .u64 0, .int .u64 0, .int .u64 0, .int .u64 0, .int .u64 0, .int .u64 0, .bool false, .slice none 0 0, .slice none 0 0, .int .u8 0, .int .u8 0, .int .u8 0, .int .u8 0, .int .u8 0, .int .u8 0, .int .u8 0, .int .u8 0, .int .u8 0, .int .u8 0, .int .u8 0, .int .u8 0, .int .u8 0, .int .u8 0, .int .u8 0, .int .u8 0, .slice none 0 0, .int .u64 0, .int .u64 0, .int .u64 0, .int .u64 0] : Array Value) = zRow 0 := rfl
  clear hr0 hr
  go_enter Tryd.func34, Tryd.ntmps34
  go_wp2_with fail
  refine (octet_nil _ B rb HR0.out).mono ?_
  rintro e w1 ⟨rfl, hg1⟩
  go_wp2
  exact ⟨rfl, rfl, grown_trans HG0.out hg1⟩

end Go.Proofs.YtkkojhkglcigmaaDoor
