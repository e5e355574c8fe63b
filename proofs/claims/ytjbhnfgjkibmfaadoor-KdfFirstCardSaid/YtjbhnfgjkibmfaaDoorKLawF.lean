/-
  The walk through the statement KdfFirst.
-/
import Derived.Test.YtjbhnfgjkibmfaaDoorKLawE
namespace Go.Proofs.YtjbhnfgjkibmfaaDoor
open Go.RowKit
set_option linter.unusedVariables false

set_option maxRecDepth 100000 in
set_option maxHeartbeats 800000 in
theorem first_out (sec : List UInt8) (A : Option Addr) (mi c : Nat) (Ak : Option Addr) (q ck : Nat) (n m : Int) (w : World) (hK : KT w kW) (hKb : 0 < w.heap.size) (hsec : sec.length = 32)
    (ho : 500 < mi ∨ 500 < q ∨ n < 1 ∨ m < n ∨ 300 < m) :
    Calls Tryd.prog 5 #[.agg (bRow sec), .slice A mi c, .slice Ak q ck, .int .i64 n, .int .i64 m] w fun e w' => e = .returned (.bool true) ∧ Below w.heap.size w w' := by
  have hb0 : Below w.heap.size w (w.alloc (.cells (bRow sec) 27)) := (Below.refl _ _).alloc (Nat.le_refl _) _
  have HKN := Lib.hid (known_any (w.alloc (.cells (bRow sec) 27)) (hK.below hKb hb0) (Nat.lt_of_lt_of_le hKb hb0.size))
  have HB0 := Lib.hid hb0
  have HSZ : (bRow sec).size = 32 := by rw [bRow_size, hsec]
  have hq : (∃ _ : decide ((500 : Int) < (mi : Int)) = true, True) ∨ (∃ _ : decide ((500 : Int) < (mi : Int)) = false, ∃ _ : decide ((500 : Int) < (q : Int)) = true, True)
      ∨ (∃ _ : decide ((500 : Int) < (mi : Int)) = false, ∃ _ : decide ((500 : Int) < (q : Int)) = false, ∃ _ : decide (n < 1) = true, True)
      ∨ (∃ _ : decide ((500 : Int) < (mi : Int)) = false, ∃ _ : decide ((500 : Int) < (q : Int)) = false, ∃ _ : decide (n < 1) = false, ∃ _ : decide (m < n) = true, True)
      ∨ (∃ _ : decide ((500 : Int) < (mi : Int)) = false, ∃ _ : decide ((500 : Int) < (q : Int)) = false, ∃ _ : decide (n < 1) = false, ∃ _ : decide (m < n) = false, ∃ _ : decide (300 < m) = true, True) := by
    by_cases a1 : 500 < mi
    · exact .inl ⟨decide_eq_true (by omega), trivial⟩
    by_cases a2 : 500 < q
    · exact .inr (.inl ⟨decide_eq_false (by omega), decide_eq_true (by omega), trivial⟩)
    by_cases a3 : n < 1
    · exact .inr (.inr (.inl ⟨decide_eq_false (by omega), decide_eq_false (by omega), decide_eq_true a3, trivial⟩))
    by_cases a4 : m < n
    · exact .inr (.inr (.inr (.inl ⟨decide_eq_false (by omega), decide_eq_false (by omega), decide_eq_false a3, decide_eq_true a4, trivial⟩)))
    · exact .inr (.inr (.inr (.inr ⟨decide_eq_false (by omega), decide_eq_false (by omega), decide_eq_false a3, decide_eq_false a4, decide_eq_true (by omega), trivial⟩)))
  clear ho hK hb0
  rcases hq with ⟨h1, _⟩ | ⟨h1, h2, _⟩ | ⟨h1, h2, h3, _⟩ | ⟨h1, h2, h3, h4, _⟩ | ⟨h1, h2, h3, h4, h5, _⟩
  all_goals
    go_enter Tryd.func5, Tryd.ntmps5
    go_wp2_with (go_at_call 6; refine HKN.out.mono ?_; rintro e w1 ⟨rfl, hb1⟩; have HB1 := Lib.hid (HB0.out.trans (hb1.mono HB0.out.size)); clear hb1)
    go_ret
    exact ⟨rfl, HB1.out⟩

set_option maxRecDepth 100000 in
set_option maxHeartbeats 1600000 in
theorem first_in (sec info key : List UInt8) (A : Option Addr) (mi c : Nat) (Ak : Option Addr) (q ck : Nat) (k l : Nat) (w : World) (hK : KT w kW) (hKb : 0 < w.heap.size) (hsec : sec.length = 32)
    (hl : info.length = mi) (hlc : mi ≤ c) (hcm : c ≤ maxLen) (hs : Sl w w.heap.size A info)
    (hl2 : key.length = q) (hlc2 : q ≤ ck) (hcm2 : ck ≤ maxLen) (hs2 : Sl w w.heap.size Ak key)
    (h1 : mi ≤ 500) (h2 : q ≤ 500) (h3 : 1 ≤ k) (h4 : k ≤ l) (h5 : l ≤ 300) :
    Calls Tryd.prog 5 #[.agg (bRow sec), .slice A mi c, .slice Ak q ck, .int .i64 (k : Int), .int .i64 (l : Int)] w fun e w' => e = .returned (.bool true) ∧ Below w.heap.size w w' := by
  obtain ⟨i0, hi0, hz0, hz1, hz2⟩ := info_parts info8
  have hb0 : Below w.heap.size w (w.alloc (.cells (bRow sec) 27)) := (Below.refl _ _).alloc (Nat.le_refl _) _
  have hw0 : Wh (w.alloc (.cells (bRow sec) 27)) w.heap.size 27 (bRow sec) := Wh.new _ _ _
  have HKN := Lib.hid (known_any (w.alloc (.cells (bRow sec) 27)) (hK.below hKb hb0) (Nat.lt_of_lt_of_le hKb hb0.size))
  have HSEC := Deep.mk hsec
  have HSZ : (bRow sec).size = 32 := by rw [bRow_size, hsec]
  have HL := Deep.mk hl
  have HL2 := Deep.mk hl2
  have HS := Lib.hid hs
  have HS2 := Lib.hid hs2
  have HK := Lib.hid hK
  have HB0 := Lib.hid hb0
  have HW0 := Lib.hid hw0
  have t1 : decide ((500 : Int) < (mi : Int)) = false := decide_eq_false (by omega)
  have t2 : decide ((500 : Int) < (q : Int)) = false := decide_eq_false (by omega)
  have t3 : decide ((k : Int) < 1) = false := decide_eq_false (by omega)
  have t4 : decide (l < k) = false := decide_eq_false (by omega)
  have t4' : decide ((l : Int) < (k : Int)) = false := decide_eq_false (by omega)
  have t5 : decide ((300 : Int) < (l : Int)) = false := decide_eq_false (by omega)
  have e1 : expI kW sec info (k : Int) = expK kW sec info k := by rw [expI, if_neg (by omega), Int.toNat_natCast]
  have e2 : expI kW sec info (l : Int) = expK kW sec info l := by rw [expI, if_neg (by omega), Int.toNat_natCast]
  obtain ⟨E, hE⟩ : ∃ E, E = expK kW sec info k := ⟨_, rfl⟩
  obtain ⟨F, hF⟩ : ∃ F, F = expK kW sec info l := ⟨_, rfl⟩
  have hEl : E.length = k := by rw [hE]; exact expK_len _ _ _ _
  have hFl : F.length = l := by rw [hF]; exact expK_len _ _ _ _
  have hFE : F.take k = E := by rw [hF, hE]; exact expK_first _ _ _ _ _ h4
  rw [← hE] at e1
  rw [← hF] at e2
  have HE := Deep.mk e1.symm
  have HF := Deep.mk e2.symm
  have HEL := Deep.mk hEl
  have HFL := Deep.mk hFl
  have HFE := Deep.mk hFE
  clear hl hs hl2 hs2 hK hsec hb0 hw0 e1 e2 hE hF hEl hFl hFE
  go_enter Tryd.func5, Tryd.ntmps5
  go_upto_region 5 with (go_at_call 6; refine HKN.out.mono ?_; rintro e w1 ⟨rfl, hb1⟩; have HB1 := Lib.hid hb1; clear hb1)
  obtain ⟨r, hr⟩ : ∃ r, r = w.heap.size := ⟨_, rfl⟩
  have HWR : Hid (Wh w1 r 27 (bRow sec)) := Lib.hid (by rw [hr]; exact HW0.out.below HB1.out HW0.out.lt)
  have HBW := Lib.hid (HB0.out.trans (HB1.out.mono HB0.out.size))
  rw [← hr]
  have hE_w1 : EC w w1.drew r sec info A := ⟨HBW.out.drew, HWR.out, (HS.out.below HBW.out).keep HBW.out.size (fun _ _ => rfl), (HK.out.below hKb HBW.out : KT w1 kW), Nat.lt_of_lt_of_le hKb HBW.out.size⟩
  clear HKN HB1 HB0 HW0 HWR HBW HS HK hr t1 t2 t3 t4 t4' t5
  refine wp_region_held_drew (S := fun w' => Since w1.drew w') (by kernel_rfl) (Since.self _) (fun _ => ?_)
  refine wpAnyH_take (i := 0) (v := .agg (bRow sec)) (List.getElem?_toArray.trans rfl) (by kernel_rfl) (by kernel_rfl) (by kernel_rfl) (fun _ _ _ h => h) (yieldsIf_load_mid (by rfl) 27 (.tmp 5) rfl r 0 rfl (bRow sec).toList _ (fun w' hS => row_rangeS (Since.wh hS hE_w1.box)) Tryd.underlying27 rfl (by rw [Array.length_toList]; exact info_bRow HSEC.out)) (Since.self _) ?_
  refine act_normS (by simp only [Act.put, List.setIfInBounds_toArray, List.set_cons_zero, List.set_cons_succ]; rfl) ?_
  refine wpAnyH_take (i := 1) (v := .slice A mi c) (List.getElem?_toArray.trans rfl) (by kernel_rfl) (by kernel_rfl) (by kernel_rfl) (fun _ _ _ h => h) (.inl ⟨rfl, fun w' hS => rfl⟩) (Since.self _) ?_
  refine act_normS (by simp only [Act.put, List.setIfInBounds_toArray, List.set_cons_zero, List.set_cons_succ]; rfl) ?_
  refine wpAnyH_take (i := 2) (v := .int .i64 (k : Int)) (List.getElem?_toArray.trans rfl) (by kernel_rfl) (by kernel_rfl) (by kernel_rfl) (fun _ _ _ h => h) (.inl ⟨rfl, fun w' hS => rfl⟩) (Since.self _) ?_
  refine act_normS (by simp only [Act.put, List.setIfInBounds_toArray, List.set_cons_zero, List.set_cons_succ]; rfl) ?_
  refine wpAnyH_take (i := 4) (v := .agg (bRow sec)) (List.getElem?_toArray.trans rfl) (by kernel_rfl) (by kernel_rfl) (by kernel_rfl) (fun _ _ _ h => h) (yieldsIf_load_mid (by rfl) 27 (.tmp 5) rfl r 0 rfl (bRow sec).toList _ (fun w' hS => row_rangeS (Since.wh hS hE_w1.box)) Tryd.underlying27 rfl (by rw [Array.length_toList]; exact info_bRow HSEC.out)) (Since.self _) ?_
  refine act_normS (by simp only [Act.put, List.setIfInBounds_toArray, List.set_cons_zero, List.set_cons_succ]; rfl) ?_
  refine wpAnyH_take (i := 5) (v := .slice A mi c) (List.getElem?_toArray.trans rfl) (by kernel_rfl) (by kernel_rfl) (by kernel_rfl) (fun _ _ _ h => h) (.inl ⟨rfl, fun w' hS => rfl⟩) (Since.self _) ?_
  refine act_normS (by simp only [Act.put, List.setIfInBounds_toArray, List.set_cons_zero, List.set_cons_succ]; rfl) ?_
  refine wpAnyH_take (i := 6) (v := .int .i64 (l : Int)) (List.getElem?_toArray.trans rfl) (by kernel_rfl) (by kernel_rfl) (by kernel_rfl) (fun _ _ _ h => h) (.inl ⟨rfl, fun w' hS => rfl⟩) (Since.self _) ?_
  refine act_normS (by simp only [Act.put, List.setIfInBounds_toArray, List.set_cons_zero, List.set_cons_succ]; rfl) ?_
  refine wpAnyH_ready (rs := [3]) (by kernel_rfl) (by simp) (AllReadyH.cons (List.getElem?_toArray.trans rfl) (fun K' hK => ?_) AllReadyH.nil)
  refine wanted_goS rfl ?_
  go_simp
  refine (expand_any kW sec info A mi c (k : Int) w1.drew kW_len hE_w1.kt hE_w1.kb HSEC.out HL.out hlc hcm hE_w1.inp (by omega)).mono ?_
  rintro e w5 ⟨A_w5, c_w5, rfl, ha_w5, hc_w5, ho_w5, hb_w5⟩
  rw [← HE.out, HEL.out] at ha_w5 ho_w5
  rw [← HE.out, HEL.out]
  have hs_w5 : Sl w5 w5.heap.size A_w5 E := Sv.of_own ho_w5
  have hE_w5 := hE_w1.since hb_w5
  refine hK.out _ _ (Since.of hb_w5) (fun _ => ?_)
  clear hK K'
  refine wpAnyH_more (S' := fun w' => Since w5 w') (fun w' h => Since.trans hb_w5 h) _ _ _ _ ?_
  refine wpAnyH_ready (rs := [7]) (by kernel_rfl) (by simp) (AllReadyH.cons (List.getElem?_toArray.trans rfl) (fun K' hK => ?_) AllReadyH.nil)
  refine wanted_goS rfl ?_
  go_simp
  refine (expand_any kW sec info A mi c (l : Int) w5 kW_len hE_w5.kt hE_w5.kb HSEC.out HL.out hlc hcm hE_w5.inp (by omega)).mono ?_
  rintro e w6 ⟨A_w6, c_w6, rfl, ha_w6, hc_w6, ho_w6, hb_w6⟩
  rw [← HF.out, HFL.out] at ha_w6 ho_w6
  rw [← HF.out, HFL.out]
  have hs_w6 : Sl w6 w6.heap.size A_w6 F := Sv.of_own ho_w6
  have hE_w6 := hE_w5.since hb_w6
  refine hK.out _ _ (Since.of hb_w6) (fun _ => ?_)
  clear hK K'
  refine wpAnyH_more (S' := fun w' => Since w6 w') (fun w' h => Since.trans hb_w6 h) _ _ _ _ ?_
  refine wpAnyH_take (i := 8) (v := .slice A_w5 k c_w5) (List.getElem?_toArray.trans rfl) (by kernel_rfl) (by kernel_rfl) (by kernel_rfl) (fun _ _ _ h => h) (.inl ⟨rfl, fun w' hS => rfl⟩) (Since.self _) ?_
  refine act_normS (by simp only [Act.put, List.setIfInBounds_toArray, List.set_cons_zero, List.set_cons_succ]; rfl) ?_
  refine wpAnyH_take (i := 9) (v := .slice A_w6 l c_w6) (List.getElem?_toArray.trans rfl) (by kernel_rfl) (by kernel_rfl) (by kernel_rfl) (fun _ _ _ h => h) (.inl ⟨rfl, fun w' hS => rfl⟩) (Since.self _) ?_
  refine act_normS (by simp only [Act.put, List.setIfInBounds_toArray, List.set_cons_zero, List.set_cons_succ]; rfl) ?_
  refine wpAnyH_done (by kernel_rfl) ?_ _
  have hsE : Sl w6 w6.heap.size A_w5 E := Since.sl' hb_w6 hs_w5
  have HSE := Lib.hid hsE
  have HSF := Lib.hid hs_w6
  have HE6 := Deep.mk hE_w6
  clear hE_w1 hE_w5 hE_w6 hs_w5 hs_w6 hb_w5 hb_w6 ho_w5 ho_w6 hsE
  have hsT : Sl w6 w6.heap.size A_w6 E := by
    rw [← HFE.out, Sl, List.map_take]
    exact Sv.take HSF.out k
  have HST := Lib.hid hsT
  have hk6 : k ≤ c_w6 := by omega
  clear hsT
  go_upto_region 6 with fail
  refine wp_region_held_drew (S := fun w' => Since w6.drew w') (by kernel_rfl) (Since.self _) (fun _ => ?_)
  refine wpAnyH_take (i := 0) (v := .slice A_w5 k c_w5) (List.getElem?_toArray.trans rfl) (by kernel_rfl) (by kernel_rfl) (by kernel_rfl) (fun _ _ _ h => h) (.inl ⟨rfl, fun w' hS => rfl⟩) (Since.self _) ?_
  refine act_normS (by simp only [Act.put, List.setIfInBounds_toArray, List.set_cons_zero, List.set_cons_succ]; rfl) ?_
  refine wpAnyH_take (i := 2) (v := .int .i64 (k : Int)) (List.getElem?_toArray.trans rfl) (by kernel_rfl) (by kernel_rfl) (by kernel_rfl) (fun _ _ _ h => h) (.inl ⟨rfl, fun w' hS => rfl⟩) (Since.self _) ?_
  refine act_normS (by simp only [Act.put, List.setIfInBounds_toArray, List.set_cons_zero, List.set_cons_succ]; rfl) ?_
  refine wpAnyH_ready (rs := [1]) (by kernel_rfl) (by simp) (AllReadyH.cons (List.getElem?_toArray.trans rfl) (fun K' hK => ?_) AllReadyH.nil)
  refine wanted_goS rfl ?_
  go_simp
  refine hK.out _ _ (Since.self _) (fun _ => ?_)
  clear hK K'
  refine wpAnyH_ready (rs := [3]) (by kernel_rfl) (by simp) (AllReadyH.cons (List.getElem?_toArray.trans rfl) (fun K' hK => ?_) AllReadyH.nil)
  refine wanted_goS rfl ?_
  go_simp
  refine hK.out _ _ (Since.self _) (fun _ => ?_)
  clear hK K'
  refine wpAnyH_ready (rs := [4]) (by kernel_rfl) (by simp) (AllReadyH.cons (List.getElem?_toArray.trans rfl) (fun K' hK => ?_) AllReadyH.nil)
  refine wanted_goS rfl ?_
  go_simp
  refine hK.out _ _ (Since.self _) (fun _ => ?_)
  clear hK K'
  refine wpAnyH_take (i := 5) (v := .slice A_w6 l c_w6) (List.getElem?_toArray.trans rfl) (by kernel_rfl) (by kernel_rfl) (by kernel_rfl) (fun _ _ _ h => h) (.inl ⟨rfl, fun w' hS => rfl⟩) (Since.self _) ?_
  refine act_normS (by simp only [Act.put, List.setIfInBounds_toArray, List.set_cons_zero, List.set_cons_succ]; rfl) ?_
  refine wpAnyH_take (i := 7) (v := .int .i64 (l : Int)) (List.getElem?_toArray.trans rfl) (by kernel_rfl) (by kernel_rfl) (by kernel_rfl) (fun _ _ _ h => h) (.inl ⟨rfl, fun w' hS => rfl⟩) (Since.self _) ?_
  refine act_normS (by simp only [Act.put, List.setIfInBounds_toArray, List.set_cons_zero, List.set_cons_succ]; rfl) ?_
  refine wpAnyH_ready (rs := [6]) (by kernel_rfl) (by simp) (AllReadyH.cons (List.getElem?_toArray.trans rfl) (fun K' hK => ?_) AllReadyH.nil)
  refine wanted_goS rfl ?_
  go_simp
  refine hK.out _ _ (Since.self _) (fun _ => ?_)
  clear hK K'
  refine wpAnyH_ready (rs := [8]) (by kernel_rfl) (by simp) (AllReadyH.cons (List.getElem?_toArray.trans rfl) (fun K' hK => ?_) AllReadyH.nil)
  refine wanted_goS rfl ?_
  go_simp
  refine hK.out _ _ (Since.self _) (fun _ => ?_)
  clear hK K'
  refine wpAnyH_ready (rs := [9]) (by kernel_rfl) (by simp) (AllReadyH.cons (List.getElem?_toArray.trans rfl) (fun K' hK => ?_) AllReadyH.nil)
  refine wanted_goS rfl ?_
  go_simp
  refine hK.out _ _ (Since.self _) (fun _ => ?_)
  clear hK K'
  refine wpAnyH_ready (rs := [10]) (by kernel_rfl) (by simp) (AllReadyH.cons (List.getElem?_toArray.trans rfl) (fun K' hK => ?_) AllReadyH.nil)
  refine wanted_goS rfl ?_
  go_simp
  refine hK.out _ _ (Since.self _) (fun _ => ?_)
  clear hK K'
  refine wpAnyH_take (i := 11) (v := .slice A_w5 k c_w5) (List.getElem?_toArray.trans rfl) (by kernel_rfl) (by kernel_rfl) (by kernel_rfl) (fun _ _ _ h => h) (.inl ⟨rfl, fun w' hS => rfl⟩) (Since.self _) ?_
  refine act_normS (by simp only [Act.put, List.setIfInBounds_toArray, List.set_cons_zero, List.set_cons_succ]; rfl) ?_
  refine wpAnyH_take (i := 13) (v := .slice A_w6 l c_w6) (List.getElem?_toArray.trans rfl) (by kernel_rfl) (by kernel_rfl) (by kernel_rfl) (fun _ _ _ h => h) (.inl ⟨rfl, fun w' hS => rfl⟩) (Since.self _) ?_
  refine act_normS (by simp only [Act.put, List.setIfInBounds_toArray, List.set_cons_zero, List.set_cons_succ]; rfl) ?_
  refine wpAnyH_take (i := 14) (v := .int .i64 (k : Int)) (List.getElem?_toArray.trans rfl) (by kernel_rfl) (by kernel_rfl) (by kernel_rfl) (fun _ _ _ h => h) (.inl ⟨rfl, fun w' hS => rfl⟩) (Since.self _) ?_
  refine act_normS (by simp only [Act.put, List.setIfInBounds_toArray, List.set_cons_zero, List.set_cons_succ]; rfl) ?_
  refine wpAnyH_take (i := 15) (v := .slice A_w6 k c_w6) (List.getElem?_toArray.trans rfl) (by kernel_rfl) (by kernel_rfl) (by kernel_rfl) (fun _ _ _ h => h) (yieldsIf_slice rfl 22 (.tmp 59) none (some (.tmp 60)) none rfl _ (fun w' _ => run_cut1 A_w6 l c_w6 k hk6 w')) (Since.self _) ?_
  refine act_normS (by simp only [Act.put, List.setIfInBounds_toArray, List.set_cons_zero, List.set_cons_succ]; rfl) ?_
  refine wpAnyH_take (i := 12) (v := .string (strB E)) (List.getElem?_toArray.trans rfl) (by kernel_rfl) (by kernel_rfl) (by kernel_rfl) (fun _ _ _ h => h) (yieldsIf_strS rfl 22 9 5 (.tmp 57) rfl Tryd.underlying22 Tryd.underlying5 Tryd.underlying9 w6.heap.size A_w5 k c_w5 E rfl HEL.out (fun w' hS => Since.sl (a := w6.drew) hS HSE.out (Nat.le_refl _))) (Since.self _) ?_
  refine act_normS (by simp only [Act.put, List.setIfInBounds_toArray, List.set_cons_zero, List.set_cons_succ]; rfl) ?_
  refine wpAnyH_take (i := 16) (v := .string (strB E)) (List.getElem?_toArray.trans rfl) (by kernel_rfl) (by kernel_rfl) (by kernel_rfl) (fun _ _ _ h => h) (yieldsIf_strS rfl 22 9 5 (.tmp 61) rfl Tryd.underlying22 Tryd.underlying5 Tryd.underlying9 w6.heap.size A_w6 k c_w6 E rfl HEL.out (fun w' hS => Since.sl (a := w6.drew) hS HST.out (Nat.le_refl _))) (Since.self _) ?_
  refine act_normS (by simp only [Act.put, List.setIfInBounds_toArray, List.set_cons_zero, List.set_cons_succ]; rfl) ?_
  refine wpAnyH_ready (rs := [17]) (by kernel_rfl) (by simp) (AllReadyH.cons (List.getElem?_toArray.trans rfl) (fun K' hK => ?_) AllReadyH.nil)
  refine wanted_goS rfl ?_
  go_simp
  refine hK.out _ _ (Since.self _) (fun _ => ?_)
  clear hK K'
  refine wpAnyH_ready (rs := [18]) (by kernel_rfl) (by simp) (AllReadyH.cons (List.getElem?_toArray.trans rfl) (fun K' hK => ?_) AllReadyH.nil)
  refine wanted_goS rfl ?_
  go_simp
  refine hK.out _ _ (Since.self _) (fun _ => ?_)
  clear hK K'
  refine wpAnyH_done (by kernel_rfl) ?_ _
  have HE7 : Deep (EC w w6.drew r sec info A) := ⟨⟨HE6.out.bel.drew, HE6.out.box, HE6.out.inp, (HE6.out.kt : KT w6 kW), HE6.out.kb⟩⟩
  clear HE6 HSE HSF HST HE HF HEL HFL HFE
  generalize w6.drew = w7 at *
  have hw7 : w.heap.size ≤ w7.heap.size := HE7.out.bel.size
  have hkey7 : Sl w7 w7.heap.size Ak key := (Sv.below HS2.out HE7.out.bel).keep hw7 (fun _ _ => rfl)
  have HK7 := Lib.hid hkey7
  have HO0 := Lib.hid (World.ownsRow_made (base := w7.heap.size) (e := 5) (size := 1) w7 #[] 0 (Nat.le_refl _) (Nat.zero_le _) rfl)
  have hB0 : Below w7.heap.size w7 (w7.alloc (.cells #[] 5)) := (Below.refl _ _).alloc (Nat.le_refl _) _
  have HK70 := Lib.hid (Sv.below hkey7 hB0)
  have HB0 := Lib.hid hB0
  have HKC : Deep ((key.map cell8).length = q) := ⟨by rw [List.length_map]; exact HL2.out⟩
  clear hkey7 hB0
  go_upto_region 9 with (first
    | (at_builtin; refine wpList_append_sv _ rfl (.tmp 65) (.tmp 66) _ rfl w7.heap.size 5 i0 _ 1 Tryd.underlying22 hi0 hz0 hz1 hz2 rfl (.slice (some ⟨w7.heap.size, 0, none⟩) 0 0) 0 [] rfl HO0.out w7.heap.size Ak q ck (key.map cell8) rfl HK70.out HKC.out (cell8_one _) (by unfold maxLen; omega) (by omega) (by simp) ?_; intro v1 w8 hown1 hg1 hno1; rw [Nat.zero_add, List.nil_append] at hown1; have HB8 := Lib.hid (HB0.out.grown hg1 HB0.out.size (fun p hp => (HO0.out.lt p hp).1)); have hw8 : w7.heap.size ≤ w8.heap.size := HB8.out.size; have HO8 := Lib.hid (hown1.alloc (.cells #[Value.int .u8 0] 5)); obtain ⟨A8, c8, rfl, h8a, h8b⟩ := own_form hown1; clear hown1 hg1 hno1)
    | (at_builtin; refine wpList_append_sv _ rfl (.tmp 67) (.tmp 68) _ rfl w7.heap.size 5 i0 _ 1 Tryd.underlying22 hi0 hz0 hz1 hz2 rfl (.slice A8 q c8) q _ rfl HO8.out (w8.heap.size + 1) (some ⟨w8.heap.size, 0, none⟩) 1 1 [Value.int .u8 0] rfl (sv_new w8 _ _) rfl (fun u hu => by simp at hu; subst hu; rfl) (by unfold maxLen; omega) (by omega) (by simp; omega) ?_; intro v2 w9 hown2 hg2 hno2; have HB9 := Lib.hid ((HB8.out.alloc hw8 (.cells #[Value.int .u8 0] 5)).grown hg2 (by simp; omega) (fun p hp => (HO8.out.lt p hp).1)); have HO9 := Lib.hid hown2; obtain ⟨A9, c9, rfl, h9a, h9b⟩ := own_form hown2; clear hown2 hg2 hno2))
  have ho9 := HO9.out
  rw [show key.map cell8 ++ [Value.int .u8 0] = (key ++ [0]).map cell8 by rw [List.map_append]; rfl] at ho9
  have ho : Sl w9 w9.heap.size A9 (key ++ [0]) := Sv.of_own ho9
  have HOT := Lib.hid ho
  have hb79 : Below w7.heap.size w7 w9 := HB9.out
  have hE9 : EC w w9 r sec info A := HE7.out.since hb79
  have hk9 : Sl w9 w9.heap.size Ak key := Since.sl' hb79 HK7.out
  have HE9 := Deep.mk hE9
  have HK9 := Lib.hid hk9
  clear ho9 ho hb79 hE9 hk9 HO9 HB9 HO8 HB8 HO0 HB0 HK70 HKC HE7 HK7
  generalize w9 = wa at *
  rcases Nat.lt_trichotomy q 64 with hq | hq | hq
  · have t1 : decide ((64 : Int) < (q : Int)) = false := decide_eq_false (by omega)
    have t1' : decide (64 < q) = false := decide_eq_false (by omega)
    have hne : ¬ (q = 64) := by omega
    have t2 : ((q : Int) == 64) = false := by rw [beq_eq_false_iff_ne]; omega
    obtain ⟨O, hO⟩ : ∃ O, O = key ++ [0] := ⟨_, rfl⟩
    have HOL : Deep (O.length = q + 1) := ⟨by rw [hO, List.length_append, HL2.out]; rfl⟩
    have HME : Deep (macK kW O [info].flatten = macK kW key [info].flatten) := ⟨by rw [hO]; exact macK_zero kW key _ (by rw [HL2.out]; exact hq)⟩
    rw [← hO] at HOT
    clear hO
    have hp := (PartsAt.nil wa wa.heap.size).cons HL.out hlc hcm HE9.out.inp
    have HP := Lib.hid hp
    have HF1 : Deep ([info].flatten.length ≤ 15000000) := ⟨by simp only [List.flatten_cons, List.flatten_nil, List.append_nil, HL.out]; omega⟩
    clear hp
    go_wp2_with fail
    refine (mac_of kW key Ak q ck [info] [.slice A mi c] 1 wa kW_len HE9.out.kt HE9.out.kb HL2.out hlc2 hcm2 HK9.out (by omega) rfl (by omega) HP.out HF1.out).mono ?_
    rintro e wd ⟨rfl, hbd⟩
    obtain ⟨X, hX⟩ : ∃ X, X = macK kW key [info].flatten := ⟨_, rfl⟩
    rw [← hX]
    have HX := Deep.mk hX
    have hXl : X.length = 32 := by rw [hX]; exact macK_len _ _ _
    have hEd : EC w wd r sec info A := HE9.out.since hbd
    have hod : Sl wd wd.heap.size A9 O := Since.sl' hbd HOT.out
    have HPd := Lib.hid ((PartsAt.nil wd wd.heap.size).cons HL.out hlc hcm hEd.inp)
    have HED := Deep.mk hEd
    have HOD := Lib.hid hod
    have HE : Deep (∀ w', (Op.equalIn 10000 27 (.agg (bRow X)) (.agg (bRow X))).run Tryd.prog w' = .ok true w') := ⟨fun w' => by rw [eq_sums X X hXl hXl]; simp⟩
    clear hX hEd hod hbd HE9 HK9 HOT HP hXl
    go_wp2_with fail
    refine (mac_of kW O A9 (q + 1) c9 [info] [.slice A mi c] 1 wd kW_len HED.out.kt HED.out.kb HOL.out h9a h9b HOD.out (by omega) rfl (by omega) HPd.out HF1.out).mono ?_
    rintro e we ⟨rfl, hbe⟩
    rw [HME.out, ← HX.out]
    have HBF := Lib.hid (HED.out.bel.trans (hbe.mono HED.out.bel.size))
    have hE := HE.out
    clear hbe HED HOD HPd HE HX HME
    go_wp2
    go_ret
    exact ⟨rfl, HBF.out⟩
  · have t1 : decide ((64 : Int) < (q : Int)) = false := decide_eq_false (by omega)
    have t1' : decide (64 < q) = false := decide_eq_false (by omega)
    have t2 : ((q : Int) == 64) = true := by rw [beq_iff_eq]; omega
    have HBF := Lib.hid HE9.out.bel
    subst hq
    clear HE9 HK9 HOT HS2
    go_wp2
    go_ret
    exact ⟨rfl, HBF.out⟩
  · have t1 : decide ((64 : Int) < (q : Int)) = true := decide_eq_true (by omega)
    have t1' : decide (64 < q) = true := decide_eq_true (by omega)
    have hp1 := one_part (w := wa) (A := Ak) (c := ck) (l := key) (by rw [HL2.out]; exact hlc2) hcm2 HK9.out
    rw [HL2.out] at hp1
    clear HOT
    go_wp2_with fail
    refine (sum_of kW [key] [.slice Ak q ck] 1 wa kW_len HE9.out.kt HE9.out.kb rfl (by omega) hp1 (by simp only [List.flatten_cons, List.flatten_nil, List.append_nil, HL2.out]; omega)).mono ?_
    rintro e wb ⟨rfl, hbb⟩
    obtain ⟨O, hO⟩ : ∃ O, O = sumK kW [key].flatten := ⟨_, rfl⟩
    rw [← hO]
    have hO2 : O = sumK kW key := by rw [hO]; simp
    have HOL : Deep (O.length = 32) := ⟨by rw [hO]; exact sumK_32 _ _⟩
    have HME : Deep (macK kW O [info].flatten = macK kW key [info].flatten) := ⟨by rw [hO2]; exact macK_sum kW key _ (by rw [HL2.out]; exact hq)⟩
    have HBB := Lib.hid hbb
    clear hO hO2 hbb hp1
    go_upto_region 11 with (refine wpList_store_row rfl 27 (.tmp 14) (.tmp 75) rfl wb.heap.size (bRow O) rfl rfl _ _ (Wh.new wb _ _) (info_bRow HOL.out) (by rw [bRow_size, HOL.out]; rfl) (bRow_one _) ?_; rw [World.setRow_alloc_new])
    have hbc : Below wa.heap.size wa (wb.alloc (.cells (bRow O) 27)) := HBB.out.alloc HBB.out.size _
    have hwc : Wh (wb.alloc (.cells (bRow O) 27)) wb.heap.size 27 (bRow O) := Wh.new _ _ _
    obtain ⟨g, hg⟩ : ∃ g, g = wb.heap.size := ⟨_, rfl⟩
    rw [← hg] at hwc
    rw [← hg]
    generalize wb.alloc (.cells (bRow O) 27) = wc at *
    have hEc : EC w wc r sec info A := HE9.out.since hbc
    have hkc : Sl wc wc.heap.size Ak key := Since.sl' hbc HK9.out
    have hoc : Sl wc wc.heap.size (some ⟨g, 0, none⟩) O := sl_of_wh hwc
    clear HE9 HK9 HBB hbc hwc hg t1 t1'
    have HE9 := Deep.mk hEc
    have HK9 := Lib.hid hkc
    have HOT := Lib.hid hoc
    clear hEc hkc hoc
    generalize wc = wa at *
    go_upto_region 14 with fail
    have hp := (PartsAt.nil wa wa.heap.size).cons HL.out hlc hcm HE9.out.inp
    have HP := Lib.hid hp
    have HF1 : Deep ([info].flatten.length ≤ 15000000) := ⟨by simp only [List.flatten_cons, List.flatten_nil, List.append_nil, HL.out]; omega⟩
    clear hp
    go_wp2_with fail
    refine (mac_of kW key Ak q ck [info] [.slice A mi c] 1 wa kW_len HE9.out.kt HE9.out.kb HL2.out hlc2 hcm2 HK9.out (by omega) rfl (by omega) HP.out HF1.out).mono ?_
    rintro e wd ⟨rfl, hbd⟩
    obtain ⟨X, hX⟩ : ∃ X, X = macK kW key [info].flatten := ⟨_, rfl⟩
    rw [← hX]
    have HX := Deep.mk hX
    have hXl : X.length = 32 := by rw [hX]; exact macK_len _ _ _
    have hEd : EC w wd r sec info A := HE9.out.since hbd
    have hod : Sl wd wd.heap.size (some ⟨g, 0, none⟩) O := Since.sl' hbd HOT.out
    have HPd := Lib.hid ((PartsAt.nil wd wd.heap.size).cons HL.out hlc hcm hEd.inp)
    have HED := Deep.mk hEd
    have HOD := Lib.hid hod
    have HE : Deep (∀ w', (Op.equalIn 10000 27 (.agg (bRow X)) (.agg (bRow X))).run Tryd.prog w' = .ok true w') := ⟨fun w' => by rw [eq_sums X X hXl hXl]; simp⟩
    clear hX hEd hod hbd HE9 HK9 HOT HP hXl
    go_wp2_with fail
    refine (mac_of kW O (some ⟨g, 0, none⟩) 32 32 [info] [.slice A mi c] 1 wd kW_len HED.out.kt HED.out.kb HOL.out (Nat.le_refl _) (by unfold maxLen; omega) HOD.out (by omega) rfl (by omega) HPd.out HF1.out).mono ?_
    rintro e we ⟨rfl, hbe⟩
    rw [HME.out, ← HX.out]
    have HBF := Lib.hid (HED.out.bel.trans (hbe.mono HED.out.bel.size))
    have hE := HE.out
    clear hbe HED HOD HPd HE HX HME
    go_wp2
    go_ret
    exact ⟨rfl, HBF.out⟩

theorem kfirst_any (sec info key : List UInt8) (A : Option Addr) (mi c : Nat) (Ak : Option Addr) (q ck : Nat) (n m : Int) (w : World) (hK : KT w kW) (hKb : 0 < w.heap.size) (hsec : sec.length = 32)
    (hl : info.length = mi) (hlc : mi ≤ c) (hcm : c ≤ maxLen) (hs : Sl w w.heap.size A info)
    (hl2 : key.length = q) (hlc2 : q ≤ ck) (hcm2 : ck ≤ maxLen) (hs2 : Sl w w.heap.size Ak key) :
    Calls Tryd.prog 5 #[.agg (bRow sec), .slice A mi c, .slice Ak q ck, .int .i64 n, .int .i64 m] w fun e w' => e = .returned (.bool true) ∧ Below w.heap.size w w' := by
  by_cases ho : 500 < mi ∨ 500 < q ∨ n < 1 ∨ m < n ∨ 300 < m
  · exact first_out sec A mi c Ak q ck n m w hK hKb hsec ho
  · obtain ⟨k, rfl⟩ := Int.eq_ofNat_of_zero_le (by omega : 0 ≤ n)
    obtain ⟨l, rfl⟩ := Int.eq_ofNat_of_zero_le (by omega : 0 ≤ m)
    exact first_in sec info key A mi c Ak q ck k l w hK hKb hsec hl hlc hcm hs hl2 hlc2 hcm2 hs2 (by omega) (by omega) (by omega) (by omega) (by omega)
end Go.Proofs.YtjbhnfgjkibmfaaDoor
