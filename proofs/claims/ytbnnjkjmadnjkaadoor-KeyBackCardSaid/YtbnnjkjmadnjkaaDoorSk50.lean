/-
  The chapter's rows, walked.
  The walk through the document's own Same (hostlerref03), of two heads that are one.
  What was sealed is opened as it was: plain mathematics over gcm's specification.
-/
import Derived.Test.YtbnnjkjmadnjkaaDoorSk49
import Derived.Test.YtbnnjkjmadnjkaaDoorSk17
import Derived.Test.YtbnnjkjmadnjkaaDoorGcOpen
import Derived.Test.YtbnnjkjmadnjkaaDoorSk39
namespace Go.Proofs.YtbnnjkjmadnjkaaDoor
section
open Go.RowKit
set_option linter.unusedVariables false

theorem ky_sl {w : World} {g : Nat} {o : Nat} {l : List UInt8} (h : w.rangeAt g o (l.map cell8)) (hg : g < w.heap.size) : Sl w w.heap.size (some ⟨g, o, none⟩) l := fun _ => ⟨g, o, rfl, hg, fun i v hv => h i v hv⟩

set_option maxRecDepth 100000 in
theorem ky_str {w : World} {g : Nat} {o : Nat} {l : List UInt8} {n c : Nat} (h : w.rangeAt g o (l.map cell8)) (hg : g < w.heap.size) (hn : l.length = n) : (convert 28 9 (.slice (some ⟨g, o, none⟩) n c)).run Tryd.prog w = .ok (.string (strB l)) w :=
  run_string_sl (P := Tryd.prog) w 28 9 5 Tryd.underlying28 Tryd.underlying5 Tryd.underlying9 w.heap.size _ n c l (ky_sl h hg) hn

set_option maxRecDepth 100000 in
set_option maxHeartbeats 1600000 in
theorem kyknown_any (w : World) (hK : Kt w) :
    Calls Tryd.prog 4 #[] w fun e w' => e = .returned (.bool true) ∧ Below w.heap.size w w' := by
  have HK := Lib.hid hK
  obtain ⟨Z, hZ⟩ : ∃ Z, Z = kyRow kyZ := ⟨_, rfl⟩
  have hz0 := zero_ky
  rw [← hZ] at hz0
  have HZ0 := Deep.mk hz0
  have HZS : Deep (Z.size = 77) := ⟨by rw [hZ, kyZ_ok.size]⟩
  have HC := Deep.mk ex_c
  have HS := Deep.mk ex_s
  have HCO := Deep.mk (initK_ok cIn exCid (by decide))
  have HSO := Deep.mk (initK_ok sIn exCid (by decide))
  have HIN : Hid (∀ w' : World, ∀ A, Kt w' → Sl w' w'.heap.size A exCid → Calls Tryd.prog 14 #[.slice A 8 8] w' fun e w2 => e = .returned (.tuple #[.agg (kyRow (initK cIn exCid)), .agg (kyRow (initK sIn exCid))]) ∧ Below w'.heap.size w' w2) :=
    Lib.hid fun w' A h hs => initial_any exCid A 8 8 w' h rfl (Nat.le_refl _) (by unfold maxLen; omega) hs (by omega)
  generalize initK cIn exCid = C at *
  generalize initK sIn exCid = S at *
  clear hz0 hZ hK
  go_enter Tryd.func4, Tryd.ntmps4
  go_wp2_with fail
  obtain ⟨wt, hwt⟩ : ∃ wt, wt = w.alloc (.cells #[.int .u8 131, .int .u8 148, .int .u8 200, .int .u8 240, .int .u8 62, .int .u8 81, .int .u8 87, .int .u8 8] 5) := ⟨_, rfl⟩
  rw [← hwt]
  have hbt : Below w.heap.size w wt := by rw [hwt]; exact (Below.refl _ _).alloc (Nat.le_refl _) _
  have hsh : Sl wt wt.heap.size (some ⟨w.heap.size, 0, none⟩) exCid := by
    intro _
    refine ⟨w.heap.size, 0, rfl, by rw [hwt]; simp, fun i v hv => ?_⟩
    rw [hwt, Nat.zero_add, (Wh.new w _ _).cell, ← hv]
    rw [show (#[Value.int .u8 131, .int .u8 148, .int .u8 200, .int .u8 240, .int .u8 62, .int .u8 81, .int .u8 87, .int .u8 8] : Array Value) = (exCid.map cell8).toArray by kernel_rfl, List.getElem?_toArray]
  refine (HIN.out wt _ (HK.out.since hbt) hsh).mono ?_
  rintro e w1 ⟨rfl, hb1⟩
  have HB1 := Lib.hid (hbt.trans (hb1.mono hbt.size))
  clear hwt hbt hsh hb1 HIN HK
  obtain ⟨hb2, hz1, hz2, hsz⟩ := made2K w1 Z Z 27 27
  have hx1 := setRow_heap _ w1.heap.size _ (kyRow C) _ _ hz1
  have hx2 := (setRow_other _ w1.heap.size (w1.heap.size + 1) (kyRow C) (by omega)).trans hz2
  have hx3 := setRow_heap _ (w1.heap.size + 1) _ (kyRow S) _ _ hx2
  have hx4 := (setRow_other _ (w1.heap.size + 1) w1.heap.size (kyRow S) (by omega)).trans hx1
  have hb4 := below_setRow (below_setRow hb2 (Nat.le_refl _) (kyRow C)) (Nat.le_succ _) (kyRow S)
  have hb5 := HB1.out.trans (hb4.mono HB1.out.size)
  have HX1 := Lib.hid hz1
  have HX2 := Lib.hid hx2
  have HX3 := Lib.hid hx3
  have HX4 := Lib.hid hx4
  have HB5 := Lib.hid hb5
  clear hb2 hz1 hz2 hsz hx1 hx2 hx3 hx4 hb4 hb5 HB1
  go_upto_region 2 with (first
    | (refine wpList_allocZ rfl 27 rfl Z (HZ0.out _) ?_; rw [show (w1.alloc (.cells Z 27)).heap.size = w1.heap.size + 1 by simp])
    | (refine wpList_allocZ rfl 27 rfl Z (HZ0.out _) ?_)
    | (refine wpList_store_row rfl 27 (.tmp 1) (.tmp 6) rfl w1.heap.size (kyRow C) rfl rfl _ _ HX1.out (info_kyRow HCO.out) (by rw [HZS.out, HCO.out.size]) (kyRow_one _) ?_)
    | (refine wpList_store_row rfl 27 (.tmp 2) (.tmp 7) rfl (w1.heap.size + 1) (kyRow S) rfl rfl _ _ HX2.out (info_kyRow HSO.out) (by rw [HZS.out, HSO.out.size]) (kyRow_one _) ?_))
  obtain ⟨g, hg⟩ : ∃ g, g = w1.heap.size := ⟨_, rfl⟩
  rw [← hg] at HX3 HX4 HB5
  rw [← hg]
  generalize (((w1.alloc (.cells Z 27)).alloc (.cells Z 27)).setRow g (kyRow C)).setRow (g + 1) (kyRow S) = W at *
  have hc : Wh W g 27 (kyRow C) := HX4.out
  have hs : Wh W (g + 1) 27 (kyRow S) := HX3.out
  have e1 := HC.out
  have e2 := HS.out
  have s1 := ky_str (n := 16) (c := 16) (ky_key hc HCO.out) hc.lt HCO.out.key
  have s2 := ky_str (n := 12) (c := 12) (ky_iv hc HCO.out) hc.lt HCO.out.iv
  have s3 := ky_str (n := 16) (c := 16) (ky_hpr hc HCO.out) hc.lt HCO.out.hp
  have s4 := ky_str (n := 16) (c := 16) (ky_key hs HSO.out) hs.lt HSO.out.key
  have s5 := ky_str (n := 12) (c := 12) (ky_iv hs HSO.out) hs.lt HSO.out.iv
  have s6 := ky_str (n := 16) (c := 16) (ky_hpr hs HSO.out) hs.lt HSO.out.hp
  rw [e1] at s1 s2 s3
  rw [e2] at s4 s5 s6
  simp only [strB] at s1 s2 s3 s4 s5 s6
  have HBF := Lib.hid HB5.out
  clear e1 e2 hc hs HX1 HX2 HX3 HX4 hg HC HS HCO HSO HZ0 HZS
  go_wp2
  go_ret
  exact ⟨rfl, HBF.out⟩
end

section
open Go.RowKit
set_option linter.unusedVariables false

set_option maxRecDepth 10000 in
set_option maxHeartbeats 1600000 in
theorem same_yes (sp : Nat) (dst src tok : List UInt8) (ph : Bool) (pn pnb : Int) (A1 : Option Addr) (c1 : Nat) (A2 : Option Addr) (c2 : Nat) (A3 : Option Addr) (c3 : Nat) (B1 : Option Addr) (d1 : Nat) (B2 : Option Addr) (d2 : Nat) (B3 : Option Addr) (d3 : Nat) (w : World)
    (h1 : Sl w w.heap.size A1 dst) (h2 : Sl w w.heap.size A2 src) (h3 : Sl w w.heap.size A3 tok) (k1 : Sl w w.heap.size B1 dst) (k2 : Sl w w.heap.size B2 src) (k3 : Sl w w.heap.size B3 tok) :
    Calls Tryd.prog 10 #[.agg (headC sp A1 dst.length c1 A2 src.length c2 A3 tok.length c3 ph pn pnb), .agg (headC sp B1 dst.length d1 B2 src.length d2 B3 tok.length d3 ph pn pnb)] w fun e w' => e = .returned (.bool true) ∧ Below w.heap.size w w' := by
  have hb : Below w.heap.size w ((w.alloc (.cells (headC sp A1 dst.length c1 A2 src.length c2 A3 tok.length c3 ph pn pnb) 30)).alloc (.cells (headC sp B1 dst.length d1 B2 src.length d2 B3 tok.length d3 ph pn pnb) 30)) := ((Below.refl _ _).alloc (Nat.le_refl _) _).alloc (by simp) _
  have hstr1 := run_string_sl (P := Tryd.prog) ((w.alloc (.cells (headC sp A1 dst.length c1 A2 src.length c2 A3 tok.length c3 ph pn pnb) 30)).alloc (.cells (headC sp B1 dst.length d1 B2 src.length d2 B3 tok.length d3 ph pn pnb) 30)) 28 9 5 Tryd.underlying28 Tryd.underlying5 Tryd.underlying9 _ A1 dst.length c1 _ (h1.below hb) rfl
  have hstr2 := run_string_sl (P := Tryd.prog) ((w.alloc (.cells (headC sp A1 dst.length c1 A2 src.length c2 A3 tok.length c3 ph pn pnb) 30)).alloc (.cells (headC sp B1 dst.length d1 B2 src.length d2 B3 tok.length d3 ph pn pnb) 30)) 28 9 5 Tryd.underlying28 Tryd.underlying5 Tryd.underlying9 _ A2 src.length c2 _ (h2.below hb) rfl
  have hstr3 := run_string_sl (P := Tryd.prog) ((w.alloc (.cells (headC sp A1 dst.length c1 A2 src.length c2 A3 tok.length c3 ph pn pnb) 30)).alloc (.cells (headC sp B1 dst.length d1 B2 src.length d2 B3 tok.length d3 ph pn pnb) 30)) 28 9 5 Tryd.underlying28 Tryd.underlying5 Tryd.underlying9 _ A3 tok.length c3 _ (h3.below hb) rfl
  have hstr4 := run_string_sl (P := Tryd.prog) ((w.alloc (.cells (headC sp A1 dst.length c1 A2 src.length c2 A3 tok.length c3 ph pn pnb) 30)).alloc (.cells (headC sp B1 dst.length d1 B2 src.length d2 B3 tok.length d3 ph pn pnb) 30)) 28 9 5 Tryd.underlying28 Tryd.underlying5 Tryd.underlying9 _ B1 dst.length d1 _ (k1.below hb) rfl
  have hstr5 := run_string_sl (P := Tryd.prog) ((w.alloc (.cells (headC sp A1 dst.length c1 A2 src.length c2 A3 tok.length c3 ph pn pnb) 30)).alloc (.cells (headC sp B1 dst.length d1 B2 src.length d2 B3 tok.length d3 ph pn pnb) 30)) 28 9 5 Tryd.underlying28 Tryd.underlying5 Tryd.underlying9 _ B2 src.length d2 _ (k2.below hb) rfl
  have hstr6 := run_string_sl (P := Tryd.prog) ((w.alloc (.cells (headC sp A1 dst.length c1 A2 src.length c2 A3 tok.length c3 ph pn pnb) 30)).alloc (.cells (headC sp B1 dst.length d1 B2 src.length d2 B3 tok.length d3 ph pn pnb) 30)) 28 9 5 Tryd.underlying28 Tryd.underlying5 Tryd.underlying9 _ B3 tok.length d3 _ (k3.below hb) rfl
  have HB := Lib.hid hb
  clear hb h1 h2 h3 k1 k2 k3
  unfold headC at *
  go_enter Tryd.func10, Tryd.ntmps10
  go_wp2
  go_ret
  exact ⟨rfl, HB.out⟩
end

section
open Go.RowKit

/-- Turned twice: nothing. -/
theorem tu_tu (ks : List (List UInt8)) (nn l : List UInt8) : tuL ks nn (tuL ks nn l) = l := by
  apply List.ext_getElem (by rw [tu_len, tu_len])
  intro i h1 h2
  have h3 : i < (tuL ks nn l).length := by rw [tu_len]; exact h2
  have e : (tuL ks nn l).getD i 0 = l.getD i 0 ^^^ (stG ks nn (2 + i / 16)).getD (i % 16) 0 := by
    rw [List.getD_eq_getElem?_getD, tuL, List.getElem?_map, List.getElem?_range h2]
    rfl
  have e2 : (tuL ks nn (tuL ks nn l))[i] = (tuL ks nn l).getD i 0 ^^^ (stG ks nn (2 + i / 16)).getD (i % 16) 0 := by
    rw [← Option.some.injEq, ← List.getElem?_eq_getElem, tuL, List.getElem?_map, List.getElem?_range h3]
    rfl
  rw [e2, e, UInt8.xor_assoc, UInt8.xor_self, UInt8.xor_zero, List.getD_eq_getElem?_getD, List.getElem?_eq_getElem h2]
  rfl
theorem seal_take (key nn l m : List UInt8) : (sealK key nn l m).take ((sealK key nn l m).length - 16) = tuL (ksL key) nn m := by
  rw [sealK_len, sealK, List.take_append_of_le_length (by rw [tu_len]; omega), List.take_of_length_le (by rw [tu_len]; omega)]
theorem seal_drop (key nn l m : List UInt8) : (sealK key nn l m).drop ((sealK key nn l m).length - 16) = tgL (ksL key) nn l (tuL (ksL key) nn m) := by
  rw [sealK_len, sealK, List.drop_append, List.drop_eq_nil_of_le (by rw [tu_len]; omega), tu_len]
  simp
theorem seal_ok (key nn l m : List UInt8) : OkG key nn l (sealK key nn l m) := ⟨by rw [sealK_len]; omega, by rw [seal_take, seal_drop]⟩
theorem seal_tx (key nn l m : List UInt8) : txK key nn (sealK key nn l m) = m := by rw [txK, seal_take, tu_tu]
end
end Go.Proofs.YtbnnjkjmadnjkaaDoor
