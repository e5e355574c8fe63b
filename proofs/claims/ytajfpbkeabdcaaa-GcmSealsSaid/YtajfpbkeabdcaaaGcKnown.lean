/-
  hostlerlaw09.known: the document's examples. Printed by tools/gen_gcknown.py.
-/
import Derived.Test.YtajfpbkeabdcaaaGcRb
import Derived.Test.YtajfpbkeabdcaaaGcGave
namespace Go.Proofs.Ytajfpbkeabdcaaa
open Go.RowKit
set_option linter.unusedVariables false

theorem ex1_len : ex1.length = 32 := rfl
theorem ex_ok : OkG (List.replicate 16 0) (List.replicate 12 0) [] ex1 := by rw [← ex_1]; exact seal_ok _ _ _ _
theorem ex_tx : txK (List.replicate 16 0) (List.replicate 12 0) ex1 = List.replicate 16 0 := by rw [← ex_1]; exact seal_tx _ _ [] _

theorem kseal0 (w : World) : Calls Try.prog 8 #[.agg (aRow (List.replicate 16 0)), .agg (aRow (List.replicate 12 0)), .slice none 0 0, .slice none 0 0] w (GaveN w 16 ex0) :=
  (gcseal_any (List.replicate 16 0) (List.replicate 12 0) [] [] none none 0 0 w rfl rfl (Sv.nil _ _ _) (Nat.le_refl _) (by unfold maxLen; omega) (by simp) (Sv.nil _ _ _) (Nat.le_refl _) (by unfold maxLen; omega) (by simp)).mono fun _ _ h => gave_n rfl (by rw [ex_0] at h; exact h)
theorem kseal1 (A : Option Addr) (w : World) (h : Sl w w.heap.size A (List.replicate 16 0)) : Calls Try.prog 8 #[.agg (aRow (List.replicate 16 0)), .agg (aRow (List.replicate 12 0)), .slice none 0 0, .slice A 16 16] w (GaveN w 32 ex1) :=
  (gcseal_any (List.replicate 16 0) (List.replicate 12 0) [] (List.replicate 16 0) none A 0 16 w rfl rfl (Sv.nil _ _ _) (Nat.le_refl _) (by unfold maxLen; omega) (by simp) h (by simp) (by unfold maxLen; omega) (by simp)).mono fun _ _ h => gave_n rfl (by rw [ex_1] at h; exact h)
theorem kopen1 (A : Option Addr) (c : Nat) (w : World) (h : Sl w w.heap.size A ex1) (hc : 32 ≤ c) (hm : c ≤ maxLen) : Calls Try.prog 11 #[.agg (aRow (List.replicate 16 0)), .agg (aRow (List.replicate 12 0)), .slice none 0 0, .slice A 32 c] w (OpenY w 16 (List.replicate 16 0)) :=
  (gcopen_any (List.replicate 16 0) (List.replicate 12 0) [] ex1 none A 0 c w rfl rfl (Sv.nil _ _ _) (Nat.le_refl _) (by unfold maxLen; omega) (by simp) h (by rw [ex1_len]; exact hc) hm (by rw [ex1_len]; omega)).mono fun _ _ h => open_y ex_tx rfl ex_ok h
theorem kopen2 (A : Option Addr) (c : Nat) (w : World) (h : Sl w w.heap.size A (ex1.drop 1)) (hc : 31 ≤ c) (hm : c ≤ maxLen) : Calls Try.prog 11 #[.agg (aRow (List.replicate 16 0)), .agg (aRow (List.replicate 12 0)), .slice none 0 0, .slice A 31 c] w (OpenN w) :=
  (gcopen_any (List.replicate 16 0) (List.replicate 12 0) [] (ex1.drop 1) none A 0 c w rfl rfl (Sv.nil _ _ _) (Nat.le_refl _) (by unfold maxLen; omega) (by simp) h (show 31 ≤ c from hc) hm (show 31 ≤ 1048576 by omega)).mono fun _ _ h => open_n ex_no h
theorem kopen3 (A : Option Addr) (c : Nat) (w : World) (h : Sl w w.heap.size A (ex1.take 15)) (hc : 15 ≤ c) (hm : c ≤ maxLen) : Calls Try.prog 11 #[.agg (aRow (List.replicate 16 0)), .agg (aRow (List.replicate 12 0)), .slice none 0 0, .slice A 15 c] w (OpenN w) :=
  (gcopen_any (List.replicate 16 0) (List.replicate 12 0) [] (ex1.take 15) none A 0 c w rfl rfl (Sv.nil _ _ _) (Nat.le_refl _) (by unfold maxLen; omega) (by simp) h (show 15 ≤ c from hc) hm (show 15 ≤ 1048576 by omega)).mono fun _ _ h => open_n ex_short h

set_option maxRecDepth 100000 in
set_option maxHeartbeats 1000000 in
theorem known_any (w : World) : Calls Try.prog 6 #[] w fun e w' => e = .returned (.bool true) ∧ Below w.heap.size w w' := by
  obtain ⟨i0, hi0, hz0, hz1, hz2⟩ := info_parts info8
  go_enter Try.func6, Try.ntmps6
  go_upto_region 3 with (fail)
  rw [zeros16, zeros12]
  obtain ⟨hbe, h1, h2⟩ := made2 w (aRow (List.replicate 16 0)) (aRow (List.replicate 12 0)) 22 23
  generalize (w.alloc (.cells (aRow (List.replicate 16 0)) 22)).alloc (.cells (aRow (List.replicate 12 0)) 23) = W at *
  obtain ⟨ka, hka⟩ : ∃ a, a = w.heap.size := ⟨_, rfl⟩
  obtain ⟨na, hna⟩ : ∃ a, a = w.heap.size + 1 := ⟨_, rfl⟩
  rw [← hka] at h1
  rw [← hna] at h2
  rw [← hna, ← hka]
  obtain ⟨Z, hZ⟩ : ∃ Z : List UInt8, Z = List.replicate 16 0 := ⟨_, rfl⟩
  obtain ⟨N, hN⟩ : ∃ N : List UInt8, N = List.replicate 12 0 := ⟨_, rfl⟩
  have hZl : Z.length = 16 := by rw [hZ]; rfl
  have hNl : N.length = 12 := by rw [hN]; rfl
  rw [← hZ] at h1
  rw [← hN] at h2
  have hk0 := kseal0
  have hk1 := kseal1
  have hk2 := kopen1
  have hk3 := kopen2
  have hk4 := kopen3
  rw [← hZ, ← hN] at hk0 hk1 hk2 hk3 hk4
  obtain ⟨E0, hE0⟩ : ∃ E, E = ex0 := ⟨_, rfl⟩
  obtain ⟨E1, hE1⟩ : ∃ E, E = ex1 := ⟨_, rfl⟩
  rw [← hE0] at hk0
  rw [← hE1] at hk1 hk2 hk3 hk4
  have HS0 : Deep (strB E0 = { data := #[88, 226, 252, 206, 250, 126, 48, 97, 54, 127, 29, 87, 164, 231, 69, 90] }) := ⟨by rw [hE0]; rfl⟩
  have HS1 : Deep (strB E1 = { data := #[3, 136, 218, 206, 96, 182, 163, 146, 243, 40, 194, 185, 113, 178, 254, 120, 171, 110, 71, 212, 44, 236, 19, 189, 245, 58, 103, 178, 18, 87, 189, 223] }) := ⟨by rw [hE1]; rfl⟩
  have HL0 : Deep (E0.length = 16) := ⟨by rw [hE0]; rfl⟩
  have HL1 : Deep (E1.length = 32) := ⟨by rw [hE1]; rfl⟩
  have HZR : Deep (Z = List.replicate 16 0) := ⟨hZ⟩
  have HZL := Deep.mk hZl
  have HNL := Deep.mk hNl
  have K0 := Lib.hid hk0
  have K1 := Lib.hid hk1
  have K2 := Lib.hid hk2
  have K3 := Lib.hid hk3
  have K4 := Lib.hid hk4
  have HBE := Lib.hid hbe
  have HKA := Lib.hid h1
  have HNA := Lib.hid h2
  clear hka hna hbe h1 h2 hZ hN hZl hNl hk0 hk1 hk2 hk3 hk4 hE0 hE1
  go_wp2_with (first
    | (refine wpList_load_blk rfl (.tmp 1) rfl ka 0 rfl Z HZL.out (Wh.range HKA.out) ?_)
    | (refine wpList_load_mid rfl 23 (.tmp 2) rfl na 0 rfl (N.map cell8) _ (Wh.range HNA.out) Try.underlying23 rfl (by rw [List.length_map, HNL.out]; exact info_n12) ?_))
  refine (K0.out _).mono ?_
  rintro e w1 ⟨A0, c0, rfl, h01, h02, ho0, hb1⟩
  have HB1 := Lib.hid (HBE.out.trans (hb1.mono HBE.out.size))
  have HKA1 := Lib.hid (HKA.out.below hb1 HKA.out.lt)
  have HNA1 := Lib.hid (HNA.out.below hb1 HNA.out.lt)
  have HA1 := Lib.hid (Sv.of_own ho0)
  clear ho0 hb1 h01 h02 HBE HKA HNA
  go_wp2_with fail
  have hW0 : Below w.heap.size w w1.drew := HB1.out.drew
  have hKA : Wh w1.drew ka 22 (aRow Z) := HKA1.out
  have hNA : Wh w1.drew na 23 (aRow N) := HNA1.out
  have hA1 : Sl w1.drew w1.drew.heap.size A0 E0 := HA1.out
  clear HB1 HKA1 HNA1 HA1
  refine wp_region_held_drew (S := fun w' => SinceM w1.drew w') (by kernel_rfl) (SinceM.self _) (fun _ => ?_)
  generalize w1.drew = w0 at *
  refine wpAnyH_take (i := 0) (v := .agg (aRow Z)) (List.getElem?_toArray.trans rfl) (by kernel_rfl) (by kernel_rfl) (by kernel_rfl) (fun _ _ _ h => h) (yields_blk (by rfl) (.tmp 1) rfl ka 0 rfl Z HZL.out (fun w' hS => (SinceM.wh hS hKA).range)) (SinceM.self _) ?_
  refine act_normM (by simp only [Act.put, List.setIfInBounds_toArray, List.set_cons_zero, List.set_cons_succ]; rfl) ?_
  refine wpAnyH_take (i := 1) (v := .agg (aRow N)) (List.getElem?_toArray.trans rfl) (by kernel_rfl) (by kernel_rfl) (by kernel_rfl) (fun _ _ _ h => h) (yieldsIf_load_mid (by rfl) 23 (.tmp 2) rfl na 0 rfl (N.map cell8) _ (fun w' hS => Wh.range (SinceM.wh hS hNA)) Try.underlying23 rfl (by rw [List.length_map, HNL.out]; exact info_n12)) (SinceM.self _) ?_
  refine act_normM (by simp only [Act.put, List.setIfInBounds_toArray, List.set_cons_zero, List.set_cons_succ]; rfl) ?_
  refine wpAnyH_ready (rs := [2]) (by kernel_rfl) (by simp) (AllReadyH.cons (List.getElem?_toArray.trans rfl) (fun K' hK => ?_) AllReadyH.nil)
  refine wanted_goM rfl ?_
  refine wp_make_mnM (.const (.int .i64 16)) (.const (.int .i64 16)) 24 rfl 5 i0 _ Try.underlying24 hi0 hz0 hz1 rfl .i64 .i64 16 16 16 16 rfl rfl rfl rfl (Nat.le_refl _) (by rw [hz2]; omega) (by omega) ?_
  rw [zrow, ← HZR.out]
  have hS2 : SinceM w0 (w0.alloc (.cells (aRow Z) 5)) := (Below.refl _ _).alloc (Nat.le_refl _) _
  have hz2 := sl_of_whA (Wh.new w0 5 (aRow Z))
  obtain ⟨zb, hzb⟩ : ∃ b, b = w0.heap.size := ⟨_, rfl⟩
  rw [← hzb] at hz2 ⊢
  clear hzb
  generalize w0.alloc (.cells (aRow Z) 5) = w2 at *
  refine hK.out _ _ hS2 (fun _ => ?_)
  clear hK K'
  refine wpAnyH_ready (rs := [3]) (by kernel_rfl) (by simp) (AllReadyH.cons (List.getElem?_toArray.trans rfl) (fun K' hK => ?_) AllReadyH.nil)
  refine wanted_goM rfl ?_
  go_simp
  refine (K1.out (some ⟨zb, 0, none⟩) w2 hz2).mono ?_
  rintro e w3 ⟨A1, c1, rfl, h11, h12, ho1, hb3⟩
  have hS3 : SinceM w0 w3 := SinceM.trans hS2 hb3
  refine hK.out _ _ hS3 (fun _ => ?_)
  clear hK K'
  refine wpAnyH_take (i := 4) (v := .slice A1 32 c1) (List.getElem?_toArray.trans rfl) (by kernel_rfl) (by kernel_rfl) (by kernel_rfl) (fun _ _ _ h => h) (.inl ⟨rfl, fun w' hS => rfl⟩) hS3 ?_
  refine act_normM (by simp only [Act.put, List.setIfInBounds_toArray, List.set_cons_zero, List.set_cons_succ]; rfl) ?_
  refine wpAnyH_done (by kernel_rfl) ?_ _
  have HB3 := Lib.hid (hW0.trans (hS3.mono hW0.size))
  have HKA3 := Lib.hid (SinceM.wh hS3 hKA)
  have HNA3 := Lib.hid (SinceM.wh hS3 hNA)
  have HA3 : Hid (Sl w3 w3.heap.size A0 E0) := Lib.hid ((SinceM.sl hS3 hA1 (Nat.le_refl _)).keep hS3.size (fun _ _ => rfl))
  have HE3 := Lib.hid (Sv.of_own ho1)
  have H11 := Lib.hid h11
  have H12 := Lib.hid h12
  clear hW0 hKA hNA hA1 hS2 hz2 hS3 hb3 ho1 h12
  go_wp2_with (first
    | (refine wpList_load_blk rfl (.tmp 1) rfl ka 0 rfl Z HZL.out (Wh.range HKA3.out) ?_)
    | (refine wpList_load_mid rfl 23 (.tmp 2) rfl na 0 rfl (N.map cell8) _ (Wh.range HNA3.out) Try.underlying23 rfl (by rw [List.length_map, HNL.out]; exact info_n12) ?_))
  refine (K2.out A1 c1 w3 HE3.out H11.out H12.out).mono ?_
  rintro e w4 ⟨A2, c2, rfl, h21, h22, ho2, hb4⟩
  have HB4 := Lib.hid (HB3.out.trans (hb4.mono HB3.out.size))
  have HKA4 := Lib.hid (HKA3.out.below hb4 HKA3.out.lt)
  have HNA4 := Lib.hid (HNA3.out.below hb4 HNA3.out.lt)
  have HA4 : Hid (Sl w4 w4.heap.size A0 E0) := Lib.hid ((HA3.out.below hb4).keep hb4.size (fun _ _ => rfl))
  have HE4 : Hid (Sl w4 w4.heap.size A1 E1) := Lib.hid ((HE3.out.below hb4).keep hb4.size (fun _ _ => rfl))
  have HT4 := Lib.hid (Sv.of_own ho2)
  clear ho2 hb4 h21 h22 HB3 HKA3 HNA3 HA3 HE3
  obtain ⟨eb, eo, rfl, heb, hec⟩ := Sl.at_ HE4.out (by rw [HL1.out]; omega)
  clear heb hec
  have hE1d : Sl w4 w4.heap.size (some ⟨eb, eo + 1, none⟩) (E1.drop 1) := by
    have h := Sv.drop HE4.out 1
    rw [← List.map_drop] at h
    exact h
  have hE1t : Sl w4 w4.heap.size (some ⟨eb, eo, none⟩) (E1.take 15) := by
    have h := HE4.out.take 15
    rw [← List.map_take] at h
    exact h
  have HED := Lib.hid hE1d
  have HET := Lib.hid hE1t
  have hc1 : ¬ c1 = 1 := by omega
  have hc15 : 15 ≤ c1 := by omega
  have hc15i : (15 : Int) ≤ (c1 : Int) := by omega
  clear hE1d hE1t
  go_wp2_with fail
  have hd31 : 31 ≤ c1 - 1 := by omega
  have hm31 : c1 - 1 ≤ maxLen := Nat.le_trans (Nat.sub_le _ _) H12.out
  have hW0 : Below w.heap.size w w4.drew := HB4.out.drew
  have hKA : Wh w4.drew ka 22 (aRow Z) := HKA4.out
  have hNA : Wh w4.drew na 23 (aRow N) := HNA4.out
  have hA0 : Sl w4.drew w4.drew.heap.size A0 E0 := HA4.out
  have hE0 : Sl w4.drew w4.drew.heap.size (some ⟨eb, eo, none⟩) E1 := HE4.out
  have hT0 : Sl w4.drew w4.drew.heap.size A2 Z := HT4.out
  have hD0 : Sl w4.drew w4.drew.heap.size (some ⟨eb, eo + 1, none⟩) (E1.drop 1) := HED.out
  have hP0 : Sl w4.drew w4.drew.heap.size (some ⟨eb, eo, none⟩) (E1.take 15) := HET.out
  clear HB4 HKA4 HNA4 HA4 HE4 HT4 HED HET
  refine wp_region_held_drew (S := fun w' => SinceM w4.drew w') (by kernel_rfl) (SinceM.self _) (fun _ => ?_)
  generalize w4.drew = w0 at *
  refine wpAnyH_take (i := 0) (v := .agg (aRow Z)) (List.getElem?_toArray.trans rfl) (by kernel_rfl) (by kernel_rfl) (by kernel_rfl) (fun _ _ _ h => h) (yields_blk (by rfl) (.tmp 1) rfl ka 0 rfl Z HZL.out (fun w' hS => (SinceM.wh hS hKA).range)) (SinceM.self _) ?_
  refine act_normM (by simp only [Act.put, List.setIfInBounds_toArray, List.set_cons_zero, List.set_cons_succ]; rfl) ?_
  refine wpAnyH_take (i := 1) (v := .agg (aRow N)) (List.getElem?_toArray.trans rfl) (by kernel_rfl) (by kernel_rfl) (by kernel_rfl) (fun _ _ _ h => h) (yieldsIf_load_mid (by rfl) 23 (.tmp 2) rfl na 0 rfl (N.map cell8) _ (fun w' hS => Wh.range (SinceM.wh hS hNA)) Try.underlying23 rfl (by rw [List.length_map, HNL.out]; exact info_n12)) (SinceM.self _) ?_
  refine act_normM (by simp only [Act.put, List.setIfInBounds_toArray, List.set_cons_zero, List.set_cons_succ]; rfl) ?_
  refine wpAnyH_take (i := 2) (v := .slice (some ⟨eb, eo, none⟩) 32 c1) (List.getElem?_toArray.trans rfl) (by kernel_rfl) (by kernel_rfl) (by kernel_rfl) (fun _ _ _ h => h) (.inl ⟨rfl, fun w' hS => rfl⟩) (SinceM.self _) ?_
  refine act_normM (by simp only [Act.put, List.setIfInBounds_toArray, List.set_cons_zero, List.set_cons_succ]; rfl) ?_
  refine wpAnyH_take (i := 3) (v := .slice (some ⟨eb, eo + 1, none⟩) 31 (c1 - 1)) (List.getElem?_toArray.trans rfl) (by kernel_rfl) (by kernel_rfl) (by kernel_rfl) (fun _ _ _ h => h) (.inl ⟨rfl, fun w' hS => by simp [go_sem, hc1]⟩) (SinceM.self _) ?_
  refine act_normM (by simp only [Act.put, List.setIfInBounds_toArray, List.set_cons_zero, List.set_cons_succ]; rfl) ?_
  refine wpAnyH_ready (rs := [4]) (by kernel_rfl) (by simp) (AllReadyH.cons (List.getElem?_toArray.trans rfl) (fun K' hK => ?_) AllReadyH.nil)
  refine wanted_goM rfl ?_
  go_simp
  refine (K3.out (some ⟨eb, eo + 1, none⟩) (c1 - 1) w0 hD0 hd31 hm31).mono ?_
  rintro e w5 ⟨rfl, hbw5⟩
  have hSw5 : SinceM w0 w5 := hbw5
  refine hK.out _ _ hSw5 (fun _ => ?_)
  clear hK K'
  refine wpAnyH_take (i := 5) (v := .tuple #[.slice none 0 0, .bool false]) (List.getElem?_toArray.trans rfl) (by kernel_rfl) (by kernel_rfl) (by kernel_rfl) (fun _ _ _ h => h) (.inl ⟨rfl, fun w' hS => rfl⟩) hSw5 ?_
  refine act_normM (by simp only [Act.put, List.setIfInBounds_toArray, List.set_cons_zero, List.set_cons_succ]; rfl) ?_
  refine wpAnyH_take (i := 6) (v := .slice none 0 0) (List.getElem?_toArray.trans rfl) (by kernel_rfl) (by kernel_rfl) (by kernel_rfl) (fun _ _ _ h => h) (.inl ⟨rfl, fun w' hS => by simp [go_sem]⟩) hSw5 ?_
  refine act_normM (by simp only [Act.put, List.setIfInBounds_toArray, List.set_cons_zero, List.set_cons_succ]; rfl) ?_
  refine wpAnyH_take (i := 7) (v := .bool false) (List.getElem?_toArray.trans rfl) (by kernel_rfl) (by kernel_rfl) (by kernel_rfl) (fun _ _ _ h => h) (.inl ⟨rfl, fun w' hS => by simp [go_sem]⟩) hSw5 ?_
  refine act_normM (by simp only [Act.put, List.setIfInBounds_toArray, List.set_cons_zero, List.set_cons_succ]; rfl) ?_
  refine wpAnyH_take (i := 8) (v := .slice none 0 0) (List.getElem?_toArray.trans rfl) (by kernel_rfl) (by kernel_rfl) (by kernel_rfl) (fun _ _ _ h => h) (.inl ⟨rfl, fun w' hS => rfl⟩) hSw5 ?_
  refine act_normM (by simp only [Act.put, List.setIfInBounds_toArray, List.set_cons_zero, List.set_cons_succ]; rfl) ?_
  refine wpAnyH_take (i := 9) (v := .bool false) (List.getElem?_toArray.trans rfl) (by kernel_rfl) (by kernel_rfl) (by kernel_rfl) (fun _ _ _ h => h) (.inl ⟨rfl, fun w' hS => rfl⟩) hSw5 ?_
  refine act_normM (by simp only [Act.put, List.setIfInBounds_toArray, List.set_cons_zero, List.set_cons_succ]; rfl) ?_
  refine wpAnyH_done (by kernel_rfl) ?_ _
  have HB5 := Lib.hid (hW0.trans (hSw5.mono hW0.size))
  have HKA5 := Lib.hid (SinceM.wh hSw5 hKA)
  have HNA5 := Lib.hid (SinceM.wh hSw5 hNA)
  have HA5 : Hid (Sl w5 w5.heap.size A0 E0) := Lib.hid ((SinceM.sl hSw5 hA0 (Nat.le_refl _)).keep hSw5.size (fun _ _ => rfl))
  have HE5 : Hid (Sl w5 w5.heap.size (some ⟨eb, eo, none⟩) E1) := Lib.hid ((SinceM.sl hSw5 hE0 (Nat.le_refl _)).keep hSw5.size (fun _ _ => rfl))
  have HT5 : Hid (Sl w5 w5.heap.size A2 Z) := Lib.hid ((SinceM.sl hSw5 hT0 (Nat.le_refl _)).keep hSw5.size (fun _ _ => rfl))
  have HED : Hid (Sl w5 w5.heap.size (some ⟨eb, eo + 1, none⟩) (E1.drop 1)) := Lib.hid ((SinceM.sl hSw5 hD0 (Nat.le_refl _)).keep hSw5.size (fun _ _ => rfl))
  have HET : Hid (Sl w5 w5.heap.size (some ⟨eb, eo, none⟩) (E1.take 15)) := Lib.hid ((SinceM.sl hSw5 hP0 (Nat.le_refl _)).keep hSw5.size (fun _ _ => rfl))
  clear hW0 hKA hNA hA0 hE0 hT0 hD0 hP0 hSw5 hbw5
  go_wp2_with fail
  have hW0 : Below w.heap.size w w5.drew := HB5.out.drew
  have hKA : Wh w5.drew ka 22 (aRow Z) := HKA5.out
  have hNA : Wh w5.drew na 23 (aRow N) := HNA5.out
  have hA0 : Sl w5.drew w5.drew.heap.size A0 E0 := HA5.out
  have hE0 : Sl w5.drew w5.drew.heap.size (some ⟨eb, eo, none⟩) E1 := HE5.out
  have hT0 : Sl w5.drew w5.drew.heap.size A2 Z := HT5.out
  have hD0 : Sl w5.drew w5.drew.heap.size (some ⟨eb, eo + 1, none⟩) (E1.drop 1) := HED.out
  have hP0 : Sl w5.drew w5.drew.heap.size (some ⟨eb, eo, none⟩) (E1.take 15) := HET.out
  clear HB5 HKA5 HNA5 HA5 HE5 HT5 HED HET
  refine wp_region_held_drew (S := fun w' => SinceM w5.drew w') (by kernel_rfl) (SinceM.self _) (fun _ => ?_)
  generalize w5.drew = w0 at *
  refine wpAnyH_take (i := 0) (v := .agg (aRow Z)) (List.getElem?_toArray.trans rfl) (by kernel_rfl) (by kernel_rfl) (by kernel_rfl) (fun _ _ _ h => h) (yields_blk (by rfl) (.tmp 1) rfl ka 0 rfl Z HZL.out (fun w' hS => (SinceM.wh hS hKA).range)) (SinceM.self _) ?_
  refine act_normM (by simp only [Act.put, List.setIfInBounds_toArray, List.set_cons_zero, List.set_cons_succ]; rfl) ?_
  refine wpAnyH_take (i := 1) (v := .agg (aRow N)) (List.getElem?_toArray.trans rfl) (by kernel_rfl) (by kernel_rfl) (by kernel_rfl) (fun _ _ _ h => h) (yieldsIf_load_mid (by rfl) 23 (.tmp 2) rfl na 0 rfl (N.map cell8) _ (fun w' hS => Wh.range (SinceM.wh hS hNA)) Try.underlying23 rfl (by rw [List.length_map, HNL.out]; exact info_n12)) (SinceM.self _) ?_
  refine act_normM (by simp only [Act.put, List.setIfInBounds_toArray, List.set_cons_zero, List.set_cons_succ]; rfl) ?_
  refine wpAnyH_take (i := 2) (v := .slice (some ⟨eb, eo, none⟩) 32 c1) (List.getElem?_toArray.trans rfl) (by kernel_rfl) (by kernel_rfl) (by kernel_rfl) (fun _ _ _ h => h) (.inl ⟨rfl, fun w' hS => rfl⟩) (SinceM.self _) ?_
  refine act_normM (by simp only [Act.put, List.setIfInBounds_toArray, List.set_cons_zero, List.set_cons_succ]; rfl) ?_
  refine wpAnyH_take (i := 3) (v := .slice (some ⟨eb, eo, none⟩) 15 c1) (List.getElem?_toArray.trans rfl) (by kernel_rfl) (by kernel_rfl) (by kernel_rfl) (fun _ _ _ h => h) (.inl ⟨rfl, fun w' hS => by simp [go_sem, hc15i]⟩) (SinceM.self _) ?_
  refine act_normM (by simp only [Act.put, List.setIfInBounds_toArray, List.set_cons_zero, List.set_cons_succ]; rfl) ?_
  refine wpAnyH_ready (rs := [4]) (by kernel_rfl) (by simp) (AllReadyH.cons (List.getElem?_toArray.trans rfl) (fun K' hK => ?_) AllReadyH.nil)
  refine wanted_goM rfl ?_
  go_simp
  refine (K4.out (some ⟨eb, eo, none⟩) c1 w0 hP0 hc15 H12.out).mono ?_
  rintro e w6 ⟨rfl, hbw6⟩
  have hSw6 : SinceM w0 w6 := hbw6
  refine hK.out _ _ hSw6 (fun _ => ?_)
  clear hK K'
  refine wpAnyH_take (i := 5) (v := .tuple #[.slice none 0 0, .bool false]) (List.getElem?_toArray.trans rfl) (by kernel_rfl) (by kernel_rfl) (by kernel_rfl) (fun _ _ _ h => h) (.inl ⟨rfl, fun w' hS => rfl⟩) hSw6 ?_
  refine act_normM (by simp only [Act.put, List.setIfInBounds_toArray, List.set_cons_zero, List.set_cons_succ]; rfl) ?_
  refine wpAnyH_take (i := 6) (v := .slice none 0 0) (List.getElem?_toArray.trans rfl) (by kernel_rfl) (by kernel_rfl) (by kernel_rfl) (fun _ _ _ h => h) (.inl ⟨rfl, fun w' hS => by simp [go_sem]⟩) hSw6 ?_
  refine act_normM (by simp only [Act.put, List.setIfInBounds_toArray, List.set_cons_zero, List.set_cons_succ]; rfl) ?_
  refine wpAnyH_take (i := 7) (v := .bool false) (List.getElem?_toArray.trans rfl) (by kernel_rfl) (by kernel_rfl) (by kernel_rfl) (fun _ _ _ h => h) (.inl ⟨rfl, fun w' hS => by simp [go_sem]⟩) hSw6 ?_
  refine act_normM (by simp only [Act.put, List.setIfInBounds_toArray, List.set_cons_zero, List.set_cons_succ]; rfl) ?_
  refine wpAnyH_take (i := 8) (v := .slice none 0 0) (List.getElem?_toArray.trans rfl) (by kernel_rfl) (by kernel_rfl) (by kernel_rfl) (fun _ _ _ h => h) (.inl ⟨rfl, fun w' hS => rfl⟩) hSw6 ?_
  refine act_normM (by simp only [Act.put, List.setIfInBounds_toArray, List.set_cons_zero, List.set_cons_succ]; rfl) ?_
  refine wpAnyH_take (i := 9) (v := .bool false) (List.getElem?_toArray.trans rfl) (by kernel_rfl) (by kernel_rfl) (by kernel_rfl) (fun _ _ _ h => h) (.inl ⟨rfl, fun w' hS => rfl⟩) hSw6 ?_
  refine act_normM (by simp only [Act.put, List.setIfInBounds_toArray, List.set_cons_zero, List.set_cons_succ]; rfl) ?_
  refine wpAnyH_done (by kernel_rfl) ?_ _
  have HB6 := Lib.hid (hW0.trans (hSw6.mono hW0.size))
  have HKA6 := Lib.hid (SinceM.wh hSw6 hKA)
  have HNA6 := Lib.hid (SinceM.wh hSw6 hNA)
  have HA6 : Hid (Sl w6 w6.heap.size A0 E0) := Lib.hid ((SinceM.sl hSw6 hA0 (Nat.le_refl _)).keep hSw6.size (fun _ _ => rfl))
  have HE6 : Hid (Sl w6 w6.heap.size (some ⟨eb, eo, none⟩) E1) := Lib.hid ((SinceM.sl hSw6 hE0 (Nat.le_refl _)).keep hSw6.size (fun _ _ => rfl))
  have HT6 : Hid (Sl w6 w6.heap.size A2 Z) := Lib.hid ((SinceM.sl hSw6 hT0 (Nat.le_refl _)).keep hSw6.size (fun _ _ => rfl))
  have HED : Hid (Sl w6 w6.heap.size (some ⟨eb, eo + 1, none⟩) (E1.drop 1)) := Lib.hid ((SinceM.sl hSw6 hD0 (Nat.le_refl _)).keep hSw6.size (fun _ _ => rfl))
  have HET : Hid (Sl w6 w6.heap.size (some ⟨eb, eo, none⟩) (E1.take 15)) := Lib.hid ((SinceM.sl hSw6 hP0 (Nat.le_refl _)).keep hSw6.size (fun _ _ => rfl))
  clear hW0 hKA hNA hA0 hE0 hT0 hD0 hP0 hSw6 hbw6
  go_wp2_with fail
  have hW0 : Below w.heap.size w w6.drew := HB6.out.drew
  have hA0 : Sl w6.drew w6.drew.heap.size A0 E0 := HA6.out
  have hE0 : Sl w6.drew w6.drew.heap.size (some ⟨eb, eo, none⟩) E1 := HE6.out
  have hT0 : Sl w6.drew w6.drew.heap.size A2 Z := HT6.out
  clear HB6 HKA6 HNA6 HA6 HE6 HT6 HED HET
  refine wp_region_held_drew (S := fun w' => SinceM w6.drew w') (by kernel_rfl) (SinceM.self _) (fun _ => ?_)
  generalize w6.drew = w0 at *
  refine wpAnyH_take (i := 0) (v := .slice A0 16 c0) (List.getElem?_toArray.trans rfl) (by kernel_rfl) (by kernel_rfl) (by kernel_rfl) (fun _ _ _ h => h) (.inl ⟨rfl, fun w' hS => rfl⟩) (SinceM.self _) ?_
  refine act_normM (by simp only [Act.put, List.setIfInBounds_toArray, List.set_cons_zero, List.set_cons_succ]; rfl) ?_
  refine wpAnyH_take (i := 1) (v := .string (strB E0)) (List.getElem?_toArray.trans rfl) (by kernel_rfl) (by kernel_rfl) (by kernel_rfl) (fun _ _ _ h => h) (yields_strM (by rfl) 24 9 5 (.tmp 44) rfl Try.underlying24 Try.underlying5 Try.underlying9 w0.heap.size A0 16 c0 E0 rfl HL0.out (fun w' hS => SinceM.sl hS hA0 (Nat.le_refl _))) (SinceM.self _) ?_
  refine act_normM (by simp only [Act.put, List.setIfInBounds_toArray, List.set_cons_zero, List.set_cons_succ]; rfl) ?_
  refine wpAnyH_take (i := 2) (v := .bool true) (List.getElem?_toArray.trans rfl) (by kernel_rfl) (by kernel_rfl) (by kernel_rfl) (fun _ _ _ h => h) (.inl ⟨rfl, fun w' hS => by simp [go_sem, HS0.out]⟩) (SinceM.self _) ?_
  refine act_normM (by simp only [Act.put, List.setIfInBounds_toArray, List.set_cons_zero, List.set_cons_succ]; rfl) ?_
  refine wpAnyH_take (i := 3) (v := .bool true) (List.getElem?_toArray.trans rfl) (by kernel_rfl) (by kernel_rfl) (by kernel_rfl) (fun _ _ _ h => h) (.inl ⟨rfl, fun w' hS => rfl⟩) (SinceM.self _) ?_
  refine act_normM (by simp only [Act.put, List.setIfInBounds_toArray, List.set_cons_zero, List.set_cons_succ]; rfl) ?_
  refine wpAnyH_take (i := 4) (v := .slice (some ⟨eb, eo, none⟩) 32 c1) (List.getElem?_toArray.trans rfl) (by kernel_rfl) (by kernel_rfl) (by kernel_rfl) (fun _ _ _ h => h) (.inl ⟨rfl, fun w' hS => rfl⟩) (SinceM.self _) ?_
  refine act_normM (by simp only [Act.put, List.setIfInBounds_toArray, List.set_cons_zero, List.set_cons_succ]; rfl) ?_
  refine wpAnyH_take (i := 5) (v := .string (strB E1)) (List.getElem?_toArray.trans rfl) (by kernel_rfl) (by kernel_rfl) (by kernel_rfl) (fun _ _ _ h => h) (yields_strM (by rfl) 24 9 5 (.tmp 48) rfl Try.underlying24 Try.underlying5 Try.underlying9 w0.heap.size (some ⟨eb, eo, none⟩) 32 c1 E1 rfl HL1.out (fun w' hS => SinceM.sl hS hE0 (Nat.le_refl _))) (SinceM.self _) ?_
  refine act_normM (by simp only [Act.put, List.setIfInBounds_toArray, List.set_cons_zero, List.set_cons_succ]; rfl) ?_
  refine wpAnyH_take (i := 6) (v := .bool true) (List.getElem?_toArray.trans rfl) (by kernel_rfl) (by kernel_rfl) (by kernel_rfl) (fun _ _ _ h => h) (.inl ⟨rfl, fun w' hS => by simp [go_sem, HS1.out]⟩) (SinceM.self _) ?_
  refine act_normM (by simp only [Act.put, List.setIfInBounds_toArray, List.set_cons_zero, List.set_cons_succ]; rfl) ?_
  refine wpAnyH_take (i := 7) (v := .bool true) (List.getElem?_toArray.trans rfl) (by kernel_rfl) (by kernel_rfl) (by kernel_rfl) (fun _ _ _ h => h) (.inl ⟨rfl, fun w' hS => by simp [go_sem]⟩) (SinceM.self _) ?_
  refine act_normM (by simp only [Act.put, List.setIfInBounds_toArray, List.set_cons_zero, List.set_cons_succ]; rfl) ?_
  refine wpAnyH_take (i := 8) (v := .bool true) (List.getElem?_toArray.trans rfl) (by kernel_rfl) (by kernel_rfl) (by kernel_rfl) (fun _ _ _ h => h) (.inl ⟨rfl, fun w' hS => rfl⟩) (SinceM.self _) ?_
  refine act_normM (by simp only [Act.put, List.setIfInBounds_toArray, List.set_cons_zero, List.set_cons_succ]; rfl) ?_
  refine wpAnyH_take (i := 9) (v := .slice A2 16 c2) (List.getElem?_toArray.trans rfl) (by kernel_rfl) (by kernel_rfl) (by kernel_rfl) (fun _ _ _ h => h) (.inl ⟨rfl, fun w' hS => rfl⟩) (SinceM.self _) ?_
  refine act_normM (by simp only [Act.put, List.setIfInBounds_toArray, List.set_cons_zero, List.set_cons_succ]; rfl) ?_
  refine wpAnyH_take (i := 10) (v := .string (strB Z)) (List.getElem?_toArray.trans rfl) (by kernel_rfl) (by kernel_rfl) (by kernel_rfl) (fun _ _ _ h => h) (yields_strM (by rfl) 24 9 5 (.tmp 53) rfl Try.underlying24 Try.underlying5 Try.underlying9 w0.heap.size A2 16 c2 Z rfl HZL.out (fun w' hS => SinceM.sl hS hT0 (Nat.le_refl _))) (SinceM.self _) ?_
  refine act_normM (by simp only [Act.put, List.setIfInBounds_toArray, List.set_cons_zero, List.set_cons_succ]; rfl) ?_
  refine wpAnyH_ready (rs := [11]) (by kernel_rfl) (by simp) (AllReadyH.cons (List.getElem?_toArray.trans rfl) (fun K' hK => ?_) AllReadyH.nil)
  refine wanted_goM rfl ?_
  refine wp_make_mnM (.const (.int .i64 16)) (.const (.int .i64 16)) 24 rfl 5 i0 _ Try.underlying24 hi0 hz0 hz1 rfl .i64 .i64 16 16 16 16 rfl rfl rfl rfl (Nat.le_refl _) (by rw [hz2]; omega) (by omega) ?_
  rw [zrow, ← HZR.out]
  have hS2 : SinceM w0 (w0.alloc (.cells (aRow Z) 5)) := (Below.refl _ _).alloc (Nat.le_refl _) _
  have hz2' := sl_of_whA (Wh.new w0 5 (aRow Z))
  obtain ⟨zb, hzb⟩ : ∃ b, b = w0.heap.size := ⟨_, rfl⟩
  rw [← hzb] at hz2' ⊢
  clear hzb
  generalize w0.alloc (.cells (aRow Z) 5) = w7 at *
  refine hK.out _ _ hS2 (fun _ => ?_)
  clear hK K'
  refine wpAnyH_moreM (S' := fun w' => SinceM w7 w') (fun w' h => SinceM.trans hS2 h) _ _ _ _ ?_
  refine wpAnyH_take (i := 12) (v := .string (strB Z)) (List.getElem?_toArray.trans rfl) (by kernel_rfl) (by kernel_rfl) (by kernel_rfl) (fun _ _ _ h => h) (yields_strM (by rfl) 24 9 5 (.tmp 55) rfl Try.underlying24 Try.underlying5 Try.underlying9 w7.heap.size (some ⟨zb, 0, none⟩) 16 16 Z rfl HZL.out (fun w' hS => SinceM.sl hS hz2' (Nat.le_refl _))) (SinceM.self _) ?_
  refine act_normM (by simp only [Act.put, List.setIfInBounds_toArray, List.set_cons_zero, List.set_cons_succ]; rfl) ?_
  refine wpAnyH_take (i := 13) (v := .bool true) (List.getElem?_toArray.trans rfl) (by kernel_rfl) (by kernel_rfl) (by kernel_rfl) (fun _ _ _ h => h) (.inl ⟨rfl, fun w' hS => by simp [go_sem]⟩) (SinceM.self _) ?_
  refine act_normM (by simp only [Act.put, List.setIfInBounds_toArray, List.set_cons_zero, List.set_cons_succ]; rfl) ?_
  refine wpAnyH_take (i := 14) (v := .bool true) (List.getElem?_toArray.trans rfl) (by kernel_rfl) (by kernel_rfl) (by kernel_rfl) (fun _ _ _ h => h) (.inl ⟨rfl, fun w' hS => by simp [go_sem]⟩) (SinceM.self _) ?_
  refine act_normM (by simp only [Act.put, List.setIfInBounds_toArray, List.set_cons_zero, List.set_cons_succ]; rfl) ?_
  refine wpAnyH_take (i := 15) (v := .bool true) (List.getElem?_toArray.trans rfl) (by kernel_rfl) (by kernel_rfl) (by kernel_rfl) (fun _ _ _ h => h) (.inl ⟨rfl, fun w' hS => rfl⟩) (SinceM.self _) ?_
  refine act_normM (by simp only [Act.put, List.setIfInBounds_toArray, List.set_cons_zero, List.set_cons_succ]; rfl) ?_
  refine wpAnyH_take (i := 16) (v := .bool true) (List.getElem?_toArray.trans rfl) (by kernel_rfl) (by kernel_rfl) (by kernel_rfl) (fun _ _ _ h => h) (.inl ⟨rfl, fun w' hS => rfl⟩) (SinceM.self _) ?_
  refine act_normM (by simp only [Act.put, List.setIfInBounds_toArray, List.set_cons_zero, List.set_cons_succ]; rfl) ?_
  refine wpAnyH_take (i := 17) (v := .bool true) (List.getElem?_toArray.trans rfl) (by kernel_rfl) (by kernel_rfl) (by kernel_rfl) (fun _ _ _ h => h) (.inl ⟨rfl, fun w' hS => by simp [go_sem]⟩) (SinceM.self _) ?_
  refine act_normM (by simp only [Act.put, List.setIfInBounds_toArray, List.set_cons_zero, List.set_cons_succ]; rfl) ?_
  refine wpAnyH_take (i := 18) (v := .bool true) (List.getElem?_toArray.trans rfl) (by kernel_rfl) (by kernel_rfl) (by kernel_rfl) (fun _ _ _ h => h) (.inl ⟨rfl, fun w' hS => rfl⟩) (SinceM.self _) ?_
  refine act_normM (by simp only [Act.put, List.setIfInBounds_toArray, List.set_cons_zero, List.set_cons_succ]; rfl) ?_
  refine wpAnyH_take (i := 19) (v := .bool false) (List.getElem?_toArray.trans rfl) (by kernel_rfl) (by kernel_rfl) (by kernel_rfl) (fun _ _ _ h => h) (.inl ⟨rfl, fun w' hS => rfl⟩) (SinceM.self _) ?_
  refine act_normM (by simp only [Act.put, List.setIfInBounds_toArray, List.set_cons_zero, List.set_cons_succ]; rfl) ?_
  refine wpAnyH_take (i := 20) (v := .bool true) (List.getElem?_toArray.trans rfl) (by kernel_rfl) (by kernel_rfl) (by kernel_rfl) (fun _ _ _ h => h) (.inl ⟨rfl, fun w' hS => by simp [go_sem]⟩) (SinceM.self _) ?_
  refine act_normM (by simp only [Act.put, List.setIfInBounds_toArray, List.set_cons_zero, List.set_cons_succ]; rfl) ?_
  refine wpAnyH_take (i := 21) (v := .bool true) (List.getElem?_toArray.trans rfl) (by kernel_rfl) (by kernel_rfl) (by kernel_rfl) (fun _ _ _ h => h) (.inl ⟨rfl, fun w' hS => by simp [go_sem]⟩) (SinceM.self _) ?_
  refine act_normM (by simp only [Act.put, List.setIfInBounds_toArray, List.set_cons_zero, List.set_cons_succ]; rfl) ?_
  refine wpAnyH_take (i := 22) (v := .bool true) (List.getElem?_toArray.trans rfl) (by kernel_rfl) (by kernel_rfl) (by kernel_rfl) (fun _ _ _ h => h) (.inl ⟨rfl, fun w' hS => rfl⟩) (SinceM.self _) ?_
  refine act_normM (by simp only [Act.put, List.setIfInBounds_toArray, List.set_cons_zero, List.set_cons_succ]; rfl) ?_
  refine wpAnyH_take (i := 23) (v := .bool false) (List.getElem?_toArray.trans rfl) (by kernel_rfl) (by kernel_rfl) (by kernel_rfl) (fun _ _ _ h => h) (.inl ⟨rfl, fun w' hS => rfl⟩) (SinceM.self _) ?_
  refine act_normM (by simp only [Act.put, List.setIfInBounds_toArray, List.set_cons_zero, List.set_cons_succ]; rfl) ?_
  refine wpAnyH_take (i := 24) (v := .bool true) (List.getElem?_toArray.trans rfl) (by kernel_rfl) (by kernel_rfl) (by kernel_rfl) (fun _ _ _ h => h) (.inl ⟨rfl, fun w' hS => by simp [go_sem]⟩) (SinceM.self _) ?_
  refine act_normM (by simp only [Act.put, List.setIfInBounds_toArray, List.set_cons_zero, List.set_cons_succ]; rfl) ?_
  refine wpAnyH_take (i := 25) (v := .bool true) (List.getElem?_toArray.trans rfl) (by kernel_rfl) (by kernel_rfl) (by kernel_rfl) (fun _ _ _ h => h) (.inl ⟨rfl, fun w' hS => by simp [go_sem]⟩) (SinceM.self _) ?_
  refine act_normM (by simp only [Act.put, List.setIfInBounds_toArray, List.set_cons_zero, List.set_cons_succ]; rfl) ?_
  refine wpAnyH_take (i := 26) (v := .bool true) (List.getElem?_toArray.trans rfl) (by kernel_rfl) (by kernel_rfl) (by kernel_rfl) (fun _ _ _ h => h) (.inl ⟨rfl, fun w' hS => rfl⟩) (SinceM.self _) ?_
  refine act_normM (by simp only [Act.put, List.setIfInBounds_toArray, List.set_cons_zero]; rfl) ?_
  refine wpAnyH_done (by kernel_rfl) ?_ _
  have HBF := Lib.hid (hW0.trans (hS2.mono hW0.size))
  clear hW0 hA0 hE0 hT0 hS2 hz2'
  go_wp2
  go_ret
  exact ⟨rfl, HBF.out⟩
end Go.Proofs.Ytajfpbkeabdcaaa
