/-
  The chapter's rows, walked.
-/
import Derived.Test.YtblclinfcdalaaaDoorKyTok
namespace Go.Proofs.YtblclinfcdalaaaDoor
open Go.RowKit
set_option linter.unusedVariables false

theorem ky_sl {w : World} {g : Nat} {o : Nat} {l : List UInt8} (h : w.rangeAt g o (l.map cell8)) (hg : g < w.heap.size) : Sl w w.heap.size (some ⟨g, o, none⟩) l := fun _ => ⟨g, o, rfl, hg, fun i v hv => h i v hv⟩

set_option maxRecDepth 100000 in
theorem ky_str {w : World} {g : Nat} {o : Nat} {l : List UInt8} {n c : Nat} (h : w.rangeAt g o (l.map cell8)) (hg : g < w.heap.size) (hn : l.length = n) : (convert 23 9 (.slice (some ⟨g, o, none⟩) n c)).run Tryd.prog w = .ok (.string (strB l)) w :=
  run_string_sl (P := Tryd.prog) w 23 9 5 Tryd.underlying23 Tryd.underlying5 Tryd.underlying9 w.heap.size _ n c l (ky_sl h hg) hn

set_option maxRecDepth 100000 in
set_option maxHeartbeats 1600000 in
theorem kyknown_any (w : World) (hK : Kt w) :
    Calls Tryd.prog 6 #[] w fun e w' => e = .returned (.bool true) ∧ Below w.heap.size w w' := by
  have HK := Lib.hid hK
  obtain ⟨Z, hZ⟩ : ∃ Z, Z = kyRow kyZ := ⟨_, rfl⟩
  have hz0 := zero_ky
  rw [← hZ] at hz0
  have HZ0 := Deep.mk hz0
  have HZS : Deep (Z.size = 77) := ⟨by rw [hZ, kyZ_ok.size]⟩
  have HC := Deep.mk ex_c
  have HS := Deep.mk ex_s
  have HCO := Deep.mk (initK_ok cIn exCid (by decide))
  have HSO := Deep.mk (initK_ok sIn exCid (by decide))
  have HIN : Hid (∀ w' : World, ∀ A, Kt w' → Sl w' w'.heap.size A exCid → Calls Tryd.prog 8 #[.slice A 8 8] w' fun e w2 => e = .returned (.tuple #[.agg (kyRow (initK cIn exCid)), .agg (kyRow (initK sIn exCid))]) ∧ Below w'.heap.size w' w2) :=
    Lib.hid fun w' A h hs => initial_any exCid A 8 8 w' h rfl (Nat.le_refl _) (by unfold maxLen; omega) hs (by omega)
  generalize initK cIn exCid = C at *
  generalize initK sIn exCid = S at *
  clear hz0 hZ hK
  go_enter Tryd.func6, Tryd.ntmps6
  go_wp2_with fail
  obtain ⟨wt, hwt⟩ : ∃ wt, wt = w.alloc (.cells #[.int .u8 131, .int .u8 148, .int .u8 200, .int .u8 240, .int .u8 62, .int .u8 81, .int .u8 87, .int .u8 8] 5) := ⟨_, rfl⟩
  rw [← hwt]
  have hbt : Below w.heap.size w wt := by rw [hwt]; exact (Below.refl _ _).alloc (Nat.le_refl _) _
  have hsh : Sl wt wt.heap.size (some ⟨w.heap.size, 0, none⟩) exCid := by
    intro _
    refine ⟨w.heap.size, 0, rfl, by rw [hwt]; simp, fun i v hv => ?_⟩
    rw [hwt, Nat.zero_add, (Wh.new w _ _).cell, ← hv]
    rw [show (#[Value.int .u8 131, .int .u8 148, .int .u8 200, .int .u8 240, .int .u8 62, .int .u8 81, .int .u8 87, .int .u8 8] : Array Value) = (exCid.map cell8).toArray by kernel_rfl, List.getElem?_toArray]
  refine (HIN.out wt _ (HK.out.since hbt) hsh).mono ?_
  rintro e w1 ⟨rfl, hb1⟩
  have HB1 := Lib.hid (hbt.trans (hb1.mono hbt.size))
  clear hwt hbt hsh hb1 HIN HK
  obtain ⟨hb2, hz1, hz2, hsz⟩ := made2K w1 Z Z 29 29
  have hx1 := setRow_heap _ w1.heap.size _ (kyRow C) _ _ hz1
  have hx2 := (setRow_other _ w1.heap.size (w1.heap.size + 1) (kyRow C) (by omega)).trans hz2
  have hx3 := setRow_heap _ (w1.heap.size + 1) _ (kyRow S) _ _ hx2
  have hx4 := (setRow_other _ (w1.heap.size + 1) w1.heap.size (kyRow S) (by omega)).trans hx1
  have hb4 := below_setRow (below_setRow hb2 (Nat.le_refl _) (kyRow C)) (Nat.le_succ _) (kyRow S)
  have hb5 := HB1.out.trans (hb4.mono HB1.out.size)
  have HX1 := Lib.hid hz1
  have HX2 := Lib.hid hx2
  have HX3 := Lib.hid hx3
  have HX4 := Lib.hid hx4
  have HB5 := Lib.hid hb5
  clear hb2 hz1 hz2 hsz hx1 hx2 hx3 hx4 hb4 hb5 HB1
  go_upto_region 2 with (first
    | (refine wpList_allocZ rfl 29 rfl Z (HZ0.out _) ?_; rw [show (w1.alloc (.cells Z 29)).heap.size = w1.heap.size + 1 by simp])
    | (refine wpList_allocZ rfl 29 rfl Z (HZ0.out _) ?_)
    | (refine wpList_store_row rfl 29 (.tmp 1) (.tmp 6) rfl w1.heap.size (kyRow C) rfl rfl _ _ HX1.out (info_kyRow HCO.out) (by rw [HZS.out, HCO.out.size]) (kyRow_one _) ?_)
    | (refine wpList_store_row rfl 29 (.tmp 2) (.tmp 7) rfl (w1.heap.size + 1) (kyRow S) rfl rfl _ _ HX2.out (info_kyRow HSO.out) (by rw [HZS.out, HSO.out.size]) (kyRow_one _) ?_))
  obtain ⟨g, hg⟩ : ∃ g, g = w1.heap.size := ⟨_, rfl⟩
  rw [← hg] at HX3 HX4 HB5
  rw [← hg]
  generalize (((w1.alloc (.cells Z 29)).alloc (.cells Z 29)).setRow g (kyRow C)).setRow (g + 1) (kyRow S) = W at *
  have hc : Wh W g 29 (kyRow C) := HX4.out
  have hs : Wh W (g + 1) 29 (kyRow S) := HX3.out
  have e1 := HC.out
  have e2 := HS.out
  have s1 := ky_str (n := 16) (c := 16) (ky_key hc HCO.out) hc.lt HCO.out.key
  have s2 := ky_str (n := 12) (c := 12) (ky_iv hc HCO.out) hc.lt HCO.out.iv
  have s3 := ky_str (n := 16) (c := 16) (ky_hpr hc HCO.out) hc.lt HCO.out.hp
  have s4 := ky_str (n := 16) (c := 16) (ky_key hs HSO.out) hs.lt HSO.out.key
  have s5 := ky_str (n := 12) (c := 12) (ky_iv hs HSO.out) hs.lt HSO.out.iv
  have s6 := ky_str (n := 16) (c := 16) (ky_hpr hs HSO.out) hs.lt HSO.out.hp
  rw [e1] at s1 s2 s3
  rw [e2] at s4 s5 s6
  simp only [strB] at s1 s2 s3 s4 s5 s6
  have HBF := Lib.hid HB5.out
  clear e1 e2 hc hs HX1 HX2 HX3 HX4 hg HC HS HCO HSO HZ0 HZS
  go_wp2
  go_ret
  exact ⟨rfl, HBF.out⟩
end Go.Proofs.YtblclinfcdalaaaDoor
