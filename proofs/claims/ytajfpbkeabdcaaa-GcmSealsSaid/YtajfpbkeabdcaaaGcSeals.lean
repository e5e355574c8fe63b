/-
  hostlerlaw09.GcmSeals: sealed, hashed and opened as the document tells. Printed by tools/gen_gcseals.py.
-/
import Derived.Test.YtajfpbkeabdcaaaGcROpen
import Derived.Test.YtajfpbkeabdcaaaGcKnown
namespace Go.Proofs.Ytajfpbkeabdcaaa
open Go.RowKit
set_option linter.unusedVariables false

/-- What is answered when bytes are opened, in one form. -/
theorem open_same (key nn l m : List UInt8) : ∃ (t : List UInt8) (fb : Bool), ∀ (w : World) (e : Ending) (w' : World), OpenG w key nn l m e w' → ∃ A c, e = .returned (.tuple #[.slice A t.length c, .bool fb]) ∧ Sl w' w'.heap.size A t ∧ Below w.heap.size w w' := by
  by_cases hy : OkG key nn l m
  · refine ⟨txK key nn m, true, fun w e w' h => ?_⟩
    obtain ⟨A, c, he, _, _, ho, hb⟩ := open_y rfl rfl hy h
    exact ⟨A, c, he, Sv.of_own ho, hb⟩
  · refine ⟨[], false, fun w e w' h => ?_⟩
    obtain ⟨he, hb⟩ := open_n hy h
    exact ⟨none, 0, he, Sv.nil _ _ _, hb⟩

set_option maxRecDepth 100000 in
set_option maxHeartbeats 1000000 in
theorem seals_early (key nn l m : List UInt8) (A B : Option Addr) (c d : Nat) (w : World) (h : 600 < l.length ∨ 600 < m.length) :
    Calls Try.prog 3 #[.agg (aRow key), .agg (aRow nn), .slice A l.length c, .slice B m.length d] w fun e w' => e = .returned (.bool true) ∧ Below w.heap.size w w' := by
  go_enter Try.func3, Try.ntmps3
  go_wp2_with fail
  obtain ⟨hbe, h1, h2⟩ := made2 w (aRow key) (aRow nn) 22 23
  generalize (w.alloc (.cells (aRow key) 22)).alloc (.cells (aRow nn) 23) = W at *
  refine (known_any W).mono ?_
  rintro e w1 ⟨rfl, hb1⟩
  have HB := Lib.hid (hbe.trans (hb1.mono hbe.size))
  clear hbe h1 h2 hb1
  by_cases h1 : 600 < l.length
  · have hd1 : decide ((l.length : Int) > 600) = true := by rw [decide_eq_true_iff]; omega
    clear h h1
    go_wp2
    go_ret
    exact ⟨rfl, HB.out⟩
  · have hd1 : decide ((l.length : Int) > 600) = false := by rw [decide_eq_false_iff_not]; omega
    have hd2 : decide ((m.length : Int) > 600) = true := by rw [decide_eq_true_iff]; omega
    clear h h1
    go_wp2
    go_ret
    exact ⟨rfl, HB.out⟩

set_option maxRecDepth 100000 in
set_option maxHeartbeats 4000000 in
theorem seals_main (key nn l m : List UInt8) (A B : Option Addr) (c d : Nat) (w : World) (hk : key.length = 16) (hn : nn.length = 12) (hs : Sl w w.heap.size A l) (hlc : l.length ≤ c) (hcm : c ≤ maxLen) (hl : l.length ≤ 600)
    (ht : Sl w w.heap.size B m) (hmd : m.length ≤ d) (hdm : d ≤ maxLen) (hm : m.length ≤ 600) :
    Calls Try.prog 3 #[.agg (aRow key), .agg (aRow nn), .slice A l.length c, .slice B m.length d] w fun e w' => e = .returned (.bool true) ∧ Below w.heap.size w w' := by
  obtain ⟨i0, hi0, hz0, hz1, hz2⟩ := info_parts info8
  obtain ⟨tx, fb, hot⟩ := open_same key nn l m
  obtain ⟨X, hX⟩ : ∃ X, X = sealK key nn l m := ⟨_, rfl⟩
  obtain ⟨H, hH⟩ : ∃ H, H = hashL key m := ⟨_, rfl⟩
  have hXl : X.length = m.length + 16 := by rw [hX]; exact sealK_len _ _ _ _
  have hHl : H.length = 16 := by rw [hH]; exact hsN_len hk _ _
  obtain ⟨N, hN⟩ : ∃ N, N = m.length + 16 := ⟨_, rfl⟩
  rw [← hN] at hXl
  obtain ⟨r, hr⟩ : ∃ r, r = tx.length := ⟨_, rfl⟩
  rw [← hr] at hot
  have HOT := Lib.hid hot
  have HR := Deep.mk hr
  have HX := Deep.mk hX
  have HH := Deep.mk hH
  have HXL := Deep.mk hXl
  have HHL := Deep.mk hHl
  have HN := Deep.mk hN
  have HKL := Deep.mk hk
  have HNL := Deep.mk hn
  have HS := Lib.hid hs
  have HT := Lib.hid ht
  have HCM := Lib.hid hcm
  have HDM := Lib.hid hdm
  have HLC := Lib.hid hlc
  have HMD := Lib.hid hmd
  clear hk hn hs ht hcm hdm hlc hmd hot hr hX hH hXl hHl hN
  go_enter Try.func3, Try.ntmps3
  go_wp2_with fail
  obtain ⟨hbe, h1, h2⟩ := made2 w (aRow key) (aRow nn) 22 23
  generalize (w.alloc (.cells (aRow key) 22)).alloc (.cells (aRow nn) 23) = W at *
  obtain ⟨ka, hka⟩ : ∃ a, a = w.heap.size := ⟨_, rfl⟩
  obtain ⟨na, hna⟩ : ∃ a, a = w.heap.size + 1 := ⟨_, rfl⟩
  rw [← hka] at h1
  rw [← hna] at h2
  rw [← hna, ← hka]
  refine (known_any W).mono ?_
  rintro e w1 ⟨rfl, hb1⟩
  have HB := Lib.hid (hbe.trans (hb1.mono hbe.size))
  have HKA := Lib.hid (h1.below hb1 h1.lt)
  have HNA := Lib.hid (h2.below hb1 h2.lt)
  have hd1 : decide ((l.length : Int) > 600) = false := by rw [decide_eq_false_iff_not]; omega
  have hd2 : decide ((m.length : Int) > 600) = false := by rw [decide_eq_false_iff_not]; omega
  clear hbe h1 h2 hb1 hka hna
  go_wp2_with fail
  refine (rnew_any key (some ⟨ka, 0, none⟩) 16 w1.heap.size w1 (Nat.le_refl _) HKL.out (sl_of_whA HKA.out)).mono ?_
  rintro e w2 ⟨Ab, Aw, cb, cw, rfl, hkey, hb2⟩
  have HB2 := Lib.hid (HB.out.trans (hb2.mono HB.out.size))
  have HKA2 := Lib.hid (HKA.out.below hb2 HKA.out.lt)
  have HNA2 := Lib.hid (HNA.out.below hb2 HNA.out.lt)
  have HKEY := Lib.hid hkey
  clear HB HKA HNA hkey hb2 hd1 hd2
  go_upto_region 6 with (first
    | (refine wpList_store_row rfl 27 (.tmp 9) (.tmp 26) rfl w2.heap.size (kRow Ab Aw cb cw) rfl rfl _ _ (heap_alloc_new w2 _) (info_key Ab Aw cb cw) rfl (kRow_one _ _ _ _) ?_; rw [World.setRow_alloc_new]))
  have hr2 := Wh.new w2 27 (kRow Ab Aw cb cw)
  have hb2 : SinceM w2 (w2.alloc (.cells (kRow Ab Aw cb cw) 27)) := (Below.refl _ _).alloc (Nat.le_refl _) _
  obtain ⟨rb, hrb⟩ : ∃ b, b = w2.heap.size := ⟨_, rfl⟩
  rw [← hrb] at hr2 ⊢
  clear hrb
  generalize w2.alloc (.cells (kRow Ab Aw cb cw) 27) = wk at *
  have HF := Lib.hid (HB2.out.trans (hb2.mono HB2.out.size))
  have HKA := Lib.hid (SinceM.wh hb2 HKA2.out)
  have HNA := Lib.hid (SinceM.wh hb2 HNA2.out)
  have HRB := Lib.hid hr2
  have HKI : Hid (KeyIs wk wk.heap.size Ab Aw key) := Lib.hid ((HKEY.out.below hb2).mono hb2.size)
  have HSA : Hid (Sl wk wk.heap.size A l) := Lib.hid ((HS.out.below HF.out).keep HF.out.size (fun _ _ => rfl))
  have HSB : Hid (Sl wk wk.heap.size B m) := Lib.hid ((HT.out.below HF.out).keep HF.out.size (fun _ _ => rfl))
  have HSN : Hid (Sl wk wk.heap.size (some ⟨na, 0, none⟩) nn) := Lib.hid (sl_of_whA HNA.out)
  have HSK : Hid (Sl wk wk.heap.size (some ⟨ka, 0, none⟩) key) := Lib.hid (sl_of_whA HKA.out)
  have HUP : Hid (∀ {w' : World} {A : Option Addr} {x : List UInt8}, SinceM wk w' → Sl wk wk.heap.size A x → Sl w' w'.heap.size A x) := Lib.hid (fun hS h => (SinceM.sl hS h (Nat.le_refl _)).keep hS.size (fun _ _ => rfl))
  have hseal := fun w' (hS : SinceM wk w') => gcseal_any key nn l m A B c d w' HKL.out HNL.out (HUP.out hS HSA.out) HLC.out HCM.out (by omega) (HUP.out hS HSB.out) HMD.out HDM.out (by omega)
  rw [← HX.out] at hseal
  have HSEAL := Lib.hid (fun w' hS => (hseal w' hS).mono fun _ _ h => gave_n HXL.out h)
  have hrs := fun w' (hS : SinceM wk w') => rgseal_any key nn l m Ab Aw (some ⟨na, 0, none⟩) A B cb cw 12 c d w'.heap.size l.length m.length w' (Nat.le_refl _) HKL.out ((HKI.out.below hS).mono hS.size) HNL.out (HUP.out hS HSN.out) (HUP.out hS HSA.out) rfl (by omega) (HUP.out hS HSB.out) rfl (by omega)
  rw [← HX.out, ← HN.out] at hrs
  have HRS := Lib.hid hrs
  clear hr2 hb2 HB2 HKA2 HNA2 HKEY hseal hrs
  have hW0 : SinceM wk wk.drew := (Below.refl _ wk).drew
  refine wp_region_held_drew (S := fun w' => SinceM wk w') (by kernel_rfl) hW0 (fun _ => ?_)
  generalize wk.drew = w0 at *
  refine wpAnyH_take (i := 0) (v := .agg (aRow key)) (List.getElem?_toArray.trans rfl) (by kernel_rfl) (by kernel_rfl) (by kernel_rfl) (fun _ _ _ h => h) (yields_blk (by rfl) (.tmp 4) rfl ka 0 rfl key HKL.out (fun w' hS => (SinceM.wh hS HKA.out).range)) hW0 ?_
  refine act_normM (by simp only [Act.put, List.setIfInBounds_toArray, List.set_cons_zero, List.set_cons_succ]; rfl) ?_
  refine wpAnyH_take (i := 1) (v := .agg (aRow nn)) (List.getElem?_toArray.trans rfl) (by kernel_rfl) (by kernel_rfl) (by kernel_rfl) (fun _ _ _ h => h) (yieldsIf_load_mid (by rfl) 23 (.tmp 5) rfl na 0 rfl (nn.map cell8) _ (fun w' hS => Wh.range (SinceM.wh hS HNA.out)) Try.underlying23 rfl (by rw [List.length_map, HNL.out]; exact info_n12)) hW0 ?_
  refine act_normM (by simp only [Act.put, List.setIfInBounds_toArray, List.set_cons_zero, List.set_cons_succ]; rfl) ?_
  refine wpAnyH_take (i := 2) (v := .slice A l.length c) (List.getElem?_toArray.trans rfl) (by kernel_rfl) (by kernel_rfl) (by kernel_rfl) (fun _ _ _ h => h) (.inl ⟨rfl, fun w' hS => rfl⟩) hW0 ?_
  refine act_normM (by simp only [Act.put, List.setIfInBounds_toArray, List.set_cons_zero, List.set_cons_succ]; rfl) ?_
  refine wpAnyH_take (i := 3) (v := .slice B m.length d) (List.getElem?_toArray.trans rfl) (by kernel_rfl) (by kernel_rfl) (by kernel_rfl) (fun _ _ _ h => h) (.inl ⟨rfl, fun w' hS => rfl⟩) hW0 ?_
  refine act_normM (by simp only [Act.put, List.setIfInBounds_toArray, List.set_cons_zero, List.set_cons_succ]; rfl) ?_
  refine wpAnyH_take (i := 6) (v := .agg (kRow Ab Aw cb cw)) (List.getElem?_toArray.trans rfl) (by kernel_rfl) (by kernel_rfl) (by kernel_rfl) (fun _ _ _ h => h) (yieldsIf_load_mid (by rfl) 27 (.tmp 9) rfl rb 0 rfl [.slice Ab 256 cb, .slice Aw 176 cw] _ (fun w' hS => Wh.whole (SinceM.wh hS HRB.out)) Try.underlying27 rfl (info_key Ab Aw cb cw)) hW0 ?_
  refine act_normM (by simp only [Act.put, List.setIfInBounds_toArray, List.set_cons_zero, List.set_cons_succ]; rfl) ?_
  refine wpAnyH_take (i := 7) (v := .slice (some ⟨na, 0, none⟩) 12 12) (List.getElem?_toArray.trans rfl) (by kernel_rfl) (by kernel_rfl) (by kernel_rfl) (fun _ _ _ h => h) (.inl ⟨rfl, fun w' hS => by simp [go_sem]⟩) hW0 ?_
  refine act_normM (by simp only [Act.put, List.setIfInBounds_toArray, List.set_cons_zero, List.set_cons_succ]; rfl) ?_
  refine wpAnyH_take (i := 8) (v := .slice A l.length c) (List.getElem?_toArray.trans rfl) (by kernel_rfl) (by kernel_rfl) (by kernel_rfl) (fun _ _ _ h => h) (.inl ⟨rfl, fun w' hS => rfl⟩) hW0 ?_
  refine act_normM (by simp only [Act.put, List.setIfInBounds_toArray, List.set_cons_zero, List.set_cons_succ]; rfl) ?_
  refine wpAnyH_take (i := 9) (v := .slice B m.length d) (List.getElem?_toArray.trans rfl) (by kernel_rfl) (by kernel_rfl) (by kernel_rfl) (fun _ _ _ h => h) (.inl ⟨rfl, fun w' hS => rfl⟩) hW0 ?_
  refine act_normM (by simp only [Act.put, List.setIfInBounds_toArray, List.set_cons_zero, List.set_cons_succ]; rfl) ?_
  refine wpAnyH_ready (rs := [4]) (by kernel_rfl) (by simp) (AllReadyH.cons (List.getElem?_toArray.trans rfl) (fun K' hK => ?_) AllReadyH.nil)
  refine wanted_goM rfl ?_
  go_simp
  refine (HSEAL.out w0 hW0).mono ?_
  rintro e w4 ⟨A4, c4, rfl, h41, h42, ho4, hb4⟩
  have hS4 : SinceM wk w4 := SinceM.trans hW0 hb4
  have hs4 : Sl w4 w4.heap.size A4 X := Sv.of_own ho4
  refine hK.out _ _ hS4 (fun _ => ?_)
  clear hK K'
  refine wpAnyH_moreM (S' := fun w' => SinceM w4 w') (fun w' h => SinceM.trans hS4 h) _ _ _ _ ?_
  refine wpAnyH_take (i := 5) (v := .string (strB X)) (List.getElem?_toArray.trans rfl) (by kernel_rfl) (by kernel_rfl) (by kernel_rfl) (fun _ _ _ h => h) (yields_strM (by rfl) 24 9 5 (.tmp 31) rfl Try.underlying24 Try.underlying5 Try.underlying9 w4.heap.size A4 N c4 X rfl HXL.out (fun w' hS => SinceM.sl hS hs4 (Nat.le_refl _))) (SinceM.self _) ?_
  refine act_normM (by simp only [Act.put, List.setIfInBounds_toArray, List.set_cons_zero, List.set_cons_succ]; rfl) ?_
  refine wpAnyH_ready (rs := [10]) (by kernel_rfl) (by simp) (AllReadyH.cons (List.getElem?_toArray.trans rfl) (fun K' hK => ?_) AllReadyH.nil)
  refine wanted_goM rfl ?_
  go_simp
  refine (HRS.out w4 hS4).mono ?_
  rintro e w5 ⟨A5, c5, rfl, h51, h52, ho5, hb5⟩
  have hS45 : SinceM w4 w5 := hb5
  have hS5 : SinceM wk w5 := SinceM.trans hS4 hb5
  have hs5 : Sl w5 w5.heap.size A5 X := Sv.of_own ho5
  refine hK.out _ _ hS45 (fun _ => ?_)
  clear hK K'
  refine wpAnyH_moreM (S' := fun w' => SinceM w5 w') (fun w' h => SinceM.trans hS45 h) _ _ _ _ ?_
  refine wpAnyH_take (i := 11) (v := .string (strB X)) (List.getElem?_toArray.trans rfl) (by kernel_rfl) (by kernel_rfl) (by kernel_rfl) (fun _ _ _ h => h) (yields_strM (by rfl) 24 9 5 (.tmp 37) rfl Try.underlying24 Try.underlying5 Try.underlying9 w5.heap.size A5 N c5 X rfl HXL.out (fun w' hS => SinceM.sl hS hs5 (Nat.le_refl _))) (SinceM.self _) ?_
  refine act_normM (by simp only [Act.put, List.setIfInBounds_toArray, List.set_cons_zero, List.set_cons_succ]; rfl) ?_
  refine wpAnyH_take (i := 12) (v := .bool false) (List.getElem?_toArray.trans rfl) (by kernel_rfl) (by kernel_rfl) (by kernel_rfl) (fun _ _ _ h => h) (.inl ⟨rfl, fun w' hS => by simp [go_sem]⟩) (SinceM.self _) ?_
  refine act_normM (by simp only [Act.put, List.setIfInBounds_toArray, List.set_cons_zero, List.set_cons_succ]; rfl) ?_
  refine wpAnyH_done (by kernel_rfl) ?_ _
  have HW5 := Lib.hid hS5
  have HKA5 := Lib.hid (SinceM.wh hS5 HKA.out)
  clear hW0 hS4 hs4 hS45 hS5 hs5 ho4 hb4 ho5 hb5 h41 h42 h51 h52 HSEAL HRS
  have hhash := gchash_any key m B d w5 HKL.out (HUP.out HW5.out HSB.out) HMD.out HDM.out
  rw [← HH.out] at hhash
  have HHASH := Lib.hid hhash
  clear hhash
  go_wp2_with (first
    | (refine wpList_load_blk rfl (.tmp 4) rfl ka 0 rfl key HKL.out (Wh.range HKA5.out) ?_))
  refine HHASH.out.mono ?_
  rintro e w6 ⟨rfl, hb6⟩
  have HW6 := Lib.hid (SinceM.trans HW5.out hb6)
  clear hb6 HW5 HKA5 HHASH
  go_upto_region 9 with (first
    | (refine wpList_store_row rfl 22 (.tmp 10) (.tmp 42) rfl w6.heap.size (aRow H) rfl rfl _ _ (heap_alloc_new w6 _) (info_aRow HHL.out) (by rw [aRow_size, HHL.out]; rfl) (aRow_one _) ?_; rw [World.setRow_alloc_new]))
  have hh7 := Wh.new w6 22 (aRow H)
  have hb7 : SinceM w6 (w6.alloc (.cells (aRow H) 22)) := (Below.refl _ _).alloc (Nat.le_refl _) _
  obtain ⟨hb, hhb⟩ : ∃ b, b = w6.heap.size := ⟨_, rfl⟩
  rw [← hhb] at hh7 ⊢
  clear hhb
  generalize w6.alloc (.cells (aRow H) 22) = w7 at *
  have HW7 := Lib.hid (SinceM.trans HW6.out hb7)
  have HH7 := Lib.hid hh7
  have HKA7 := Lib.hid (SinceM.wh HW7.out HKA.out)
  have HNA7 := Lib.hid (SinceM.wh HW7.out HNA.out)
  have hopen := gcopen_any key nn l m A B c d w7 HKL.out HNL.out (HUP.out HW7.out HSA.out) HLC.out HCM.out (by omega) (HUP.out HW7.out HSB.out) HMD.out HDM.out (by omega)
  have HOPEN := Lib.hid (hopen.mono fun e w' h => HOT.out w7 e w' h)
  clear hh7 hb7 hopen HW6
  go_wp2_with (first
    | (refine wpList_load_blk rfl (.tmp 4) rfl ka 0 rfl key HKL.out (Wh.range HKA7.out) ?_)
    | (refine wpList_load_mid rfl 23 (.tmp 5) rfl na 0 rfl (nn.map cell8) _ (Wh.range HNA7.out) Try.underlying23 rfl (by rw [List.length_map, HNL.out]; exact info_n12) ?_))
  refine HOPEN.out.mono ?_
  rintro e w8 ⟨A8, c8, rfl, hs8, hb8⟩
  have HW8 := Lib.hid (SinceM.trans HW7.out hb8)
  have HS8 := Lib.hid hs8
  have HH8 := Lib.hid (SinceM.wh hb8 HH7.out)
  clear hs8 hb8 HW7 HH7 HKA7 HNA7 HOPEN
  go_upto_region 10 with (fail)
  have hW0 : SinceM wk w8.drew := HW8.out.drew
  have hs8 : Sl w8.drew w8.drew.heap.size A8 tx := HS8.out
  have hh8 : Wh w8.drew hb 22 (aRow H) := HH8.out
  clear HW8 HS8 HH8
  refine wp_region_held_drew (S := fun w' => SinceM wk w') (by kernel_rfl) hW0 (fun _ => ?_)
  generalize w8.drew = w0 at *
  refine wpAnyH_take (i := 0) (v := .agg (kRow Ab Aw cb cw)) (List.getElem?_toArray.trans rfl) (by kernel_rfl) (by kernel_rfl) (by kernel_rfl) (fun _ _ _ h => h) (yieldsIf_load_mid (by rfl) 27 (.tmp 9) rfl rb 0 rfl [.slice Ab 256 cb, .slice Aw 176 cw] _ (fun w' hS => Wh.whole (SinceM.wh hS HRB.out)) Try.underlying27 rfl (info_key Ab Aw cb cw)) hW0 ?_
  refine act_normM (by simp only [Act.put, List.setIfInBounds_toArray, List.set_cons_zero, List.set_cons_succ]; rfl) ?_
  refine wpAnyH_take (i := 1) (v := .slice (some ⟨na, 0, none⟩) 12 12) (List.getElem?_toArray.trans rfl) (by kernel_rfl) (by kernel_rfl) (by kernel_rfl) (fun _ _ _ h => h) (.inl ⟨rfl, fun w' hS => by simp [go_sem]⟩) hW0 ?_
  refine act_normM (by simp only [Act.put, List.setIfInBounds_toArray, List.set_cons_zero, List.set_cons_succ]; rfl) ?_
  refine wpAnyH_take (i := 2) (v := .slice A l.length c) (List.getElem?_toArray.trans rfl) (by kernel_rfl) (by kernel_rfl) (by kernel_rfl) (fun _ _ _ h => h) (.inl ⟨rfl, fun w' hS => rfl⟩) hW0 ?_
  refine act_normM (by simp only [Act.put, List.setIfInBounds_toArray, List.set_cons_zero, List.set_cons_succ]; rfl) ?_
  refine wpAnyH_take (i := 3) (v := .slice B m.length d) (List.getElem?_toArray.trans rfl) (by kernel_rfl) (by kernel_rfl) (by kernel_rfl) (fun _ _ _ h => h) (.inl ⟨rfl, fun w' hS => rfl⟩) hW0 ?_
  refine act_normM (by simp only [Act.put, List.setIfInBounds_toArray, List.set_cons_zero, List.set_cons_succ]; rfl) ?_
  refine wpAnyH_ready (rs := [4]) (by kernel_rfl) (by simp) (AllReadyH.cons (List.getElem?_toArray.trans rfl) (fun K' hK => ?_) AllReadyH.nil)
  refine wanted_goM rfl ?_
  go_simp
  refine ((rgopen_any key nn l m Ab Aw (some ⟨na, 0, none⟩) A B cb cw 12 c d w0.heap.size l.length m.length w0 (Nat.le_refl _) HKL.out ((HKI.out.below hW0).mono hW0.size) HNL.out (HUP.out hW0 HSN.out) (HUP.out hW0 HSA.out) rfl (by omega) (HUP.out hW0 HSB.out) rfl (by omega) HMD.out HDM.out).mono fun e w' h => HOT.out w0 e w' h).mono ?_
  rintro e w9 ⟨A9, c9, rfl, hs9, hb9⟩
  have hS9 : SinceM wk w9 := SinceM.trans hW0 hb9
  refine hK.out _ _ hS9 (fun _ => ?_)
  clear hK K'
  refine wpAnyH_take (i := 5) (v := .tuple #[.slice A9 r c9, .bool fb]) (List.getElem?_toArray.trans rfl) (by kernel_rfl) (by kernel_rfl) (by kernel_rfl) (fun _ _ _ h => h) (.inl ⟨rfl, fun w' hS => rfl⟩) hS9 ?_
  refine act_normM (by simp only [Act.put, List.setIfInBounds_toArray, List.set_cons_zero, List.set_cons_succ]; rfl) ?_
  refine wpAnyH_take (i := 6) (v := .slice A9 r c9) (List.getElem?_toArray.trans rfl) (by kernel_rfl) (by kernel_rfl) (by kernel_rfl) (fun _ _ _ h => h) (.inl ⟨rfl, fun w' hS => by simp [go_sem]⟩) hS9 ?_
  refine act_normM (by simp only [Act.put, List.setIfInBounds_toArray, List.set_cons_zero, List.set_cons_succ]; rfl) ?_
  refine wpAnyH_take (i := 7) (v := .bool fb) (List.getElem?_toArray.trans rfl) (by kernel_rfl) (by kernel_rfl) (by kernel_rfl) (fun _ _ _ h => h) (.inl ⟨rfl, fun w' hS => by simp [go_sem]⟩) hS9 ?_
  refine act_normM (by simp only [Act.put, List.setIfInBounds_toArray, List.set_cons_zero, List.set_cons_succ]; rfl) ?_
  refine wpAnyH_take (i := 8) (v := .slice A9 r c9) (List.getElem?_toArray.trans rfl) (by kernel_rfl) (by kernel_rfl) (by kernel_rfl) (fun _ _ _ h => h) (.inl ⟨rfl, fun w' hS => rfl⟩) hS9 ?_
  refine act_normM (by simp only [Act.put, List.setIfInBounds_toArray, List.set_cons_zero, List.set_cons_succ]; rfl) ?_
  refine wpAnyH_take (i := 9) (v := .bool fb) (List.getElem?_toArray.trans rfl) (by kernel_rfl) (by kernel_rfl) (by kernel_rfl) (fun _ _ _ h => h) (.inl ⟨rfl, fun w' hS => rfl⟩) hS9 ?_
  refine act_normM (by simp only [Act.put, List.setIfInBounds_toArray, List.set_cons_zero, List.set_cons_succ]; rfl) ?_
  refine wpAnyH_done (by kernel_rfl) ?_ _
  have HW9 := Lib.hid hS9
  have HS9 := Lib.hid hs9
  have HS8 : Hid (Sl w9 w9.heap.size A8 tx) := Lib.hid ((SinceM.sl hb9 hs8 (Nat.le_refl _)).keep hb9.size (fun _ _ => rfl))
  have HH9 := Lib.hid (SinceM.wh hb9 hh8)
  clear hW0 hs8 hh8 hs9 hb9 hS9
  go_upto_region 11 with (fail)
  have hW0 : SinceM wk w9.drew := HW9.out.drew
  have hs8 : Sl w9.drew w9.drew.heap.size A8 tx := HS8.out
  have hs9 : Sl w9.drew w9.drew.heap.size A9 tx := HS9.out
  have hh9 : Sl w9.drew w9.drew.heap.size (some ⟨hb, 0, none⟩) H := sl_of_whA (show Wh w9.drew hb 22 (aRow H) from HH9.out)
  clear HW9 HS8 HS9 HH9
  refine wp_region_held_drew (S := fun w' => SinceM w9.drew w') (by kernel_rfl) (SinceM.self _) (fun _ => ?_)
  generalize w9.drew = w0 at *
  refine wpAnyH_take (i := 0) (v := .slice (some ⟨hb, 0, none⟩) 16 16) (List.getElem?_toArray.trans rfl) (by kernel_rfl) (by kernel_rfl) (by kernel_rfl) (fun _ _ _ h => h) (.inl ⟨rfl, fun w' hS => by simp [go_sem]⟩) (SinceM.self _) ?_
  refine act_normM (by simp only [Act.put, List.setIfInBounds_toArray, List.set_cons_zero, List.set_cons_succ]; rfl) ?_
  refine wpAnyH_take (i := 1) (v := .string (strB H)) (List.getElem?_toArray.trans rfl) (by kernel_rfl) (by kernel_rfl) (by kernel_rfl) (fun _ _ _ h => h) (yields_strM (by rfl) 24 9 5 (.tmp 59) rfl Try.underlying24 Try.underlying5 Try.underlying9 w0.heap.size (some ⟨hb, 0, none⟩) 16 16 H rfl HHL.out (fun w' hS => SinceM.sl hS hh9 (Nat.le_refl _))) (SinceM.self _) ?_
  refine act_normM (by simp only [Act.put, List.setIfInBounds_toArray, List.set_cons_zero, List.set_cons_succ]; rfl) ?_
  refine wpAnyH_take (i := 2) (v := .slice (some ⟨ka, 0, none⟩) 16 16) (List.getElem?_toArray.trans rfl) (by kernel_rfl) (by kernel_rfl) (by kernel_rfl) (fun _ _ _ h => h) (.inl ⟨rfl, fun w' hS => by simp [go_sem]⟩) (SinceM.self _) ?_
  refine act_normM (by simp only [Act.put, List.setIfInBounds_toArray, List.set_cons_zero, List.set_cons_succ]; rfl) ?_
  refine wpAnyH_take (i := 3) (v := .slice B m.length d) (List.getElem?_toArray.trans rfl) (by kernel_rfl) (by kernel_rfl) (by kernel_rfl) (fun _ _ _ h => h) (.inl ⟨rfl, fun w' hS => rfl⟩) (SinceM.self _) ?_
  refine act_normM (by simp only [Act.put, List.setIfInBounds_toArray, List.set_cons_zero, List.set_cons_succ]; rfl) ?_
  refine wpAnyH_ready (rs := [4]) (by kernel_rfl) (by simp) (AllReadyH.cons (List.getElem?_toArray.trans rfl) (fun K' hK => ?_) AllReadyH.nil)
  refine wanted_goM rfl ?_
  go_simp
  have hrh := rhash_any key m (some ⟨ka, 0, none⟩) B 16 d w0.heap.size m.length w0 (Nat.le_refl _) HKL.out rfl (by omega) (HUP.out hW0 HSK.out) (HUP.out hW0 HSB.out)
  rw [← HH.out] at hrh
  refine hrh.mono ?_
  rintro e w4 ⟨A4, c4, rfl, h41, h42, ho4, hb4⟩
  have hS4 : SinceM w0 w4 := hb4
  have hs4 : Sl w4 w4.heap.size A4 H := Sv.of_own ho4
  refine hK.out _ _ hS4 (fun _ => ?_)
  clear hK K'
  refine wpAnyH_moreM (S' := fun w' => SinceM w4 w') (fun w' h => SinceM.trans hS4 h) _ _ _ _ ?_
  refine wpAnyH_take (i := 5) (v := .string (strB H)) (List.getElem?_toArray.trans rfl) (by kernel_rfl) (by kernel_rfl) (by kernel_rfl) (fun _ _ _ h => h) (yields_strM (by rfl) 24 9 5 (.tmp 63) rfl Try.underlying24 Try.underlying5 Try.underlying9 w4.heap.size A4 16 c4 H rfl HHL.out (fun w' hS => SinceM.sl hS hs4 (Nat.le_refl _))) (SinceM.self _) ?_
  refine act_normM (by simp only [Act.put, List.setIfInBounds_toArray, List.set_cons_zero, List.set_cons_succ]; rfl) ?_
  refine wpAnyH_take (i := 6) (v := .bool true) (List.getElem?_toArray.trans rfl) (by kernel_rfl) (by kernel_rfl) (by kernel_rfl) (fun _ _ _ h => h) (.inl ⟨rfl, fun w' hS => by simp [go_sem]⟩) (SinceM.self _) ?_
  refine act_normM (by simp only [Act.put, List.setIfInBounds_toArray, List.set_cons_zero, List.set_cons_succ]; rfl) ?_
  refine wpAnyH_take (i := 7) (v := .bool true) (List.getElem?_toArray.trans rfl) (by kernel_rfl) (by kernel_rfl) (by kernel_rfl) (fun _ _ _ h => h) (.inl ⟨rfl, fun w' hS => rfl⟩) (SinceM.self _) ?_
  refine act_normM (by simp only [Act.put, List.setIfInBounds_toArray, List.set_cons_zero, List.set_cons_succ]; rfl) ?_
  refine wpAnyH_take (i := 8) (v := .slice A8 r c8) (List.getElem?_toArray.trans rfl) (by kernel_rfl) (by kernel_rfl) (by kernel_rfl) (fun _ _ _ h => h) (.inl ⟨rfl, fun w' hS => rfl⟩) (SinceM.self _) ?_
  refine act_normM (by simp only [Act.put, List.setIfInBounds_toArray, List.set_cons_zero, List.set_cons_succ]; rfl) ?_
  refine wpAnyH_take (i := 9) (v := .string (strB tx)) (List.getElem?_toArray.trans rfl) (by kernel_rfl) (by kernel_rfl) (by kernel_rfl) (fun _ _ _ h => h) (yields_strM (by rfl) 24 9 5 (.tmp 67) rfl Try.underlying24 Try.underlying5 Try.underlying9 w0.heap.size A8 r c8 tx rfl HR.out.symm (fun w' hS => SinceM.sl (SinceM.trans hS4 hS) hs8 (Nat.le_refl _))) (SinceM.self _) ?_
  refine act_normM (by simp only [Act.put, List.setIfInBounds_toArray, List.set_cons_zero, List.set_cons_succ]; rfl) ?_
  refine wpAnyH_take (i := 10) (v := .slice A9 r c9) (List.getElem?_toArray.trans rfl) (by kernel_rfl) (by kernel_rfl) (by kernel_rfl) (fun _ _ _ h => h) (.inl ⟨rfl, fun w' hS => rfl⟩) (SinceM.self _) ?_
  refine act_normM (by simp only [Act.put, List.setIfInBounds_toArray, List.set_cons_zero, List.set_cons_succ]; rfl) ?_
  refine wpAnyH_take (i := 11) (v := .string (strB tx)) (List.getElem?_toArray.trans rfl) (by kernel_rfl) (by kernel_rfl) (by kernel_rfl) (fun _ _ _ h => h) (yields_strM (by rfl) 24 9 5 (.tmp 69) rfl Try.underlying24 Try.underlying5 Try.underlying9 w0.heap.size A9 r c9 tx rfl HR.out.symm (fun w' hS => SinceM.sl (SinceM.trans hS4 hS) hs9 (Nat.le_refl _))) (SinceM.self _) ?_
  refine act_normM (by simp only [Act.put, List.setIfInBounds_toArray, List.set_cons_zero, List.set_cons_succ]; rfl) ?_
  refine wpAnyH_take (i := 12) (v := .bool true) (List.getElem?_toArray.trans rfl) (by kernel_rfl) (by kernel_rfl) (by kernel_rfl) (fun _ _ _ h => h) (.inl ⟨rfl, fun w' hS => by simp [go_sem]⟩) (SinceM.self _) ?_
  refine act_normM (by simp only [Act.put, List.setIfInBounds_toArray, List.set_cons_zero, List.set_cons_succ]; rfl) ?_
  refine wpAnyH_take (i := 13) (v := .bool true) (List.getElem?_toArray.trans rfl) (by kernel_rfl) (by kernel_rfl) (by kernel_rfl) (fun _ _ _ h => h) (.inl ⟨rfl, fun w' hS => by simp [go_sem]⟩) (SinceM.self _) ?_
  refine act_normM (by simp only [Act.put, List.setIfInBounds_toArray, List.set_cons_zero, List.set_cons_succ]; rfl) ?_
  refine wpAnyH_take (i := 14) (v := .bool true) (List.getElem?_toArray.trans rfl) (by kernel_rfl) (by kernel_rfl) (by kernel_rfl) (fun _ _ _ h => h) (.inl ⟨rfl, fun w' hS => rfl⟩) (SinceM.self _) ?_
  refine act_normM (by simp only [Act.put, List.setIfInBounds_toArray, List.set_cons_zero, List.set_cons_succ]; rfl) ?_
  refine wpAnyH_take (i := 15) (v := .bool fb) (List.getElem?_toArray.trans rfl) (by kernel_rfl) (by kernel_rfl) (by kernel_rfl) (fun _ _ _ h => h) (.inl ⟨rfl, fun w' hS => rfl⟩) (SinceM.self _) ?_
  refine act_normM (by simp only [Act.put, List.setIfInBounds_toArray, List.set_cons_zero, List.set_cons_succ]; rfl) ?_
  refine wpAnyH_take (i := 16) (v := .bool fb) (List.getElem?_toArray.trans rfl) (by kernel_rfl) (by kernel_rfl) (by kernel_rfl) (fun _ _ _ h => h) (.inl ⟨rfl, fun w' hS => rfl⟩) (SinceM.self _) ?_
  refine act_normM (by simp only [Act.put, List.setIfInBounds_toArray, List.set_cons_zero, List.set_cons_succ]; rfl) ?_
  refine wpAnyH_take (i := 17) (v := .bool true) (List.getElem?_toArray.trans rfl) (by kernel_rfl) (by kernel_rfl) (by kernel_rfl) (fun _ _ _ h => h) (.inl ⟨rfl, fun w' hS => by simp [go_sem]⟩) (SinceM.self _) ?_
  refine act_normM (by simp only [Act.put, List.setIfInBounds_toArray, List.set_cons_zero, List.set_cons_succ]; rfl) ?_
  refine wpAnyH_take (i := 18) (v := .bool true) (List.getElem?_toArray.trans rfl) (by kernel_rfl) (by kernel_rfl) (by kernel_rfl) (fun _ _ _ h => h) (.inl ⟨rfl, fun w' hS => by simp [go_sem]⟩) (SinceM.self _) ?_
  refine act_normM (by simp only [Act.put, List.setIfInBounds_toArray, List.set_cons_zero, List.set_cons_succ]; rfl) ?_
  refine wpAnyH_take (i := 19) (v := .bool true) (List.getElem?_toArray.trans rfl) (by kernel_rfl) (by kernel_rfl) (by kernel_rfl) (fun _ _ _ h => h) (.inl ⟨rfl, fun w' hS => rfl⟩) (SinceM.self _) ?_
  refine act_normM (by simp only [Act.put, List.setIfInBounds_toArray, List.set_cons_zero, List.set_cons_succ]; rfl) ?_
  refine wpAnyH_done (by kernel_rfl) ?_ _
  have HBF := Lib.hid (HF.out.trans ((SinceM.trans hW0 hS4).mono HF.out.size))
  clear hW0 hs8 hs9 hh9 hrh hS4 hs4 ho4 hb4 h41 h42
  go_wp2
  go_ret
  exact ⟨rfl, HBF.out⟩

theorem gcseals_any (key nn l m : List UInt8) (A B : Option Addr) (c d : Nat) (w : World) (hk : key.length = 16) (hn : nn.length = 12) (hs : Sl w w.heap.size A l) (hlc : l.length ≤ c) (hcm : c ≤ maxLen)
    (ht : Sl w w.heap.size B m) (hmd : m.length ≤ d) (hdm : d ≤ maxLen) :
    Calls Try.prog 3 #[.agg (aRow key), .agg (aRow nn), .slice A l.length c, .slice B m.length d] w fun e w' => e = .returned (.bool true) ∧ Below w.heap.size w w' := by
  by_cases h : 600 < l.length ∨ 600 < m.length
  · exact seals_early key nn l m A B c d w h
  · exact seals_main key nn l m A B c d w hk hn hs hlc hcm (by omega) ht hmd hdm (by omega)
end Go.Proofs.Ytajfpbkeabdcaaa
