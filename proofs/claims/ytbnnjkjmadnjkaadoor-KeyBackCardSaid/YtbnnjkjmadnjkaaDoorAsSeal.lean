/-
  (*aes.Cipher).Seal: a block, sealed. Printed by tools/gen_asseal.py.
-/
import Derived.Deep.RegionHeld3
import Derived.Test.YtbnnjkjmadnjkaaDoorAsNew
namespace Go.Proofs.YtbnnjkjmadnjkaaDoor
open Go.RowKit
set_option linter.unusedVariables false

theorem act_normA {P : Program} {md : Region.Mode} {ops : Array Oper} {Q : Exit → Act → World → Prop} {S : World → Prop} {fuel : Nat} {listed : Array Bool} {a b : Act} {w : World} (h : a = b) (k : wpAnyH P md ops Q S fuel listed b w) : wpAnyH P md ops Q S fuel listed a w := h ▸ k
theorem wanted_goA {o : Oper} {y : Nat → Option Bool} {A B : Prop} (h : Region.wanted o y = true) (k : A) : if Region.wanted o y = true then A else B := by rw [if_pos h]; exact k

/-- A block behind k rounds. -/
def rdS (ks : List (List UInt8)) (b : List UInt8) : Nat → List UInt8
  | 0 => addL b (ks.getD 0 [])
  | k + 1 => addL (mxL (mvL (rdS ks b k))) (ks.getD (k + 1) [])
def seL (ks : List (List UInt8)) (b : List UInt8) : List UInt8 := addL (mvL (rdS ks b 9)) (ks.getD 10 [])
theorem mvL_len (l : List UInt8) : (mvL l).length = 16 := mvR_len l 4
theorem mxL_len {l : List UInt8} (h : l.length = 16) : (mxL l).length = 16 := by rw [mxL, mxN_len, h]
theorem rdS_len (ks : List (List UInt8)) {b : List UInt8} (h : b.length = 16) (k : Nat) : (rdS ks b k).length = 16 := by
  cases k with
  | zero => exact addL_len h
  | succ k => exact addL_len (mxL_len (mvL_len _))
theorem seL_len (ks : List (List UInt8)) (b : List UInt8) : (seL ks b).length = 16 := addL_len (mvL_len _)

set_option maxRecDepth 100000 in
set_option maxHeartbeats 400000 in
theorem seal_nil (l : List UInt8) (w : World) (hl : l.length = 16) :
    Calls Tryd.prog 42 #[.pointer none, .agg (aRow l)] w fun e w' => e = .returned (.agg (aRow (List.replicate 16 0))) ∧ Below w.heap.size w w' := by
  have HL := Deep.mk hl
  clear hl
  go_enter Tryd.func42, Tryd.ntmps42
  go_upto_region 1 with (fail)
  rw [zeros16]
  obtain ⟨hbe, h2, h3⟩ := made2 w (aRow l) (aRow (List.replicate 16 0)) 23 23
  generalize (w.alloc (.cells (aRow l) 23)).alloc (.cells (aRow (List.replicate 16 0)) 23) = W at *
  obtain ⟨r, hr⟩ : ∃ c, c = w.heap.size + 1 := ⟨_, rfl⟩
  rw [← hr] at h3 ⊢
  have hwr : w.heap.size ≤ r := by omega
  have HBE := Lib.hid hbe
  have H3 := Lib.hid h3
  clear hr hbe h2 h3
  have hal : (List.replicate 16 (0 : UInt8)).length = 16 := rfl
  have HZ0 : Deep (Tryd.prog.built 23 [] = some (aRow (List.replicate 16 0))) := ⟨by kernel_rfl⟩
  obtain ⟨z, hz⟩ : ∃ z : List UInt8, z = List.replicate 16 0 := ⟨_, rfl⟩
  rw [← hz] at hal H3 HZ0
  have HZ := Deep.mk hz
  have HAL := Deep.mk hal
  clear hz hal
  go_wp2_with (first
    | (refine wpList_built0 rfl 23 rfl (aRow z) HZ0.out ?_)
    | (refine wpList_store_row rfl 23 (.tmp 4) (.tmp 8) rfl r (aRow z) rfl rfl _ _ H3.out (info_aRow HAL.out) rfl (aRow_one _) ?_))
  refine bodyPost_ret (v := .agg (aRow z)) (results_cell_row Tryd.results42 _ _ r _ _ (0, 0) _ rfl (setRow_heap W r _ _ _ _ H3.out) Tryd.underlying23 rfl (info_aRow HAL.out)) rfl ?_
  exact ⟨by rw [HZ.out], below_setRow HBE.out hwr _⟩

set_option maxRecDepth 100000 in
set_option maxHeartbeats 400000 in
theorem seal_any (g : Nat) (ks : List (List UInt8)) (l : List UInt8) (w : World) (hk : B11 ks) (hg : Wh w g 107 (aRow ks.flatten)) (hl : l.length = 16) :
    Calls Tryd.prog 42 #[.pointer (some ⟨g, 0, none⟩), .agg (aRow l)] w fun e w' => e = .returned (.agg (aRow (seL ks l))) ∧ Below w.heap.size w w' := by
  have HL := Deep.mk hl
  have HKB := Deep.mk hk
  have hgw := hg.lt
  have HG0 := Lib.hid hg
  clear hl hk hg
  go_enter Tryd.func42, Tryd.ntmps42
  go_upto_region 1 with (fail)
  rw [zeros16]
  obtain ⟨hbe, h2, h3⟩ := made2 w (aRow l) (aRow (List.replicate 16 0)) 23 23
  generalize (w.alloc (.cells (aRow l) 23)).alloc (.cells (aRow (List.replicate 16 0)) 23) = W at *
  obtain ⟨b, hb⟩ : ∃ b, b = w.heap.size := ⟨_, rfl⟩
  obtain ⟨r, hr⟩ : ∃ c, c = w.heap.size + 1 := ⟨_, rfl⟩
  rw [← hb] at h2
  rw [← hr] at h3
  rw [← hr, ← hb]
  have HB := Lib.hid hb
  have HR := Lib.hid hr
  have hbr : b < r := by omega
  have hgb : g < b := by omega
  have HG1 := Lib.hid (HG0.out.below hbe hgw)
  have HBE := Lib.hid hbe
  have H2 := Lib.hid h2
  have H3 := Lib.hid h3
  clear hb hr hbe h2 h3 HG0 hgw
  obtain ⟨x0, hx0⟩ : ∃ x, x = ks.getD 0 [] := ⟨_, rfl⟩
  have hx016 : x0.length = 16 := by rw [hx0]; exact HKB.out.at_ (by omega)
  have hx0r : ∀ w', Wh w' g 107 (aRow ks.flatten) → w'.rangeAt g (0 * 16) (x0.map cell8) := fun w' h => by rw [hx0]; exact HKB.out.range' h (by omega)
  rw [Nat.zero_mul] at hx0r
  obtain ⟨s0, hs0⟩ : ∃ s, s = addL l x0 := ⟨_, rfl⟩
  have hs016 : s0.length = 16 := by rw [hs0]; exact addL_len HL.out
  have hc0 := fun w' => added_any l x0 w' HL.out hx016
  rw [← hs0] at hc0
  have HS0 : Deep (s0 = rdS ks l 0) := ⟨by rw [hs0, hx0, rdS]⟩
  have HX016 := Deep.mk hx016
  have HX0R := Deep.mk hx0r
  have HS016 := Deep.mk hs016
  have HC0 := Lib.hid hc0
  clear hx0 hx016 hx0r hs0 hs016 hc0
  go_wp2_with fail
  have hG : Wh W.drew g 107 (aRow ks.flatten) := HG1.out
  refine wp_region_held_drew (S := fun w' => Wh w' g 107 (aRow ks.flatten)) (by kernel_rfl) hG (fun _ => ?_)
  refine wpAnyH_take (i := 1) (v := .pointer (some ⟨g, 0, none⟩)) (List.getElem?_toArray.trans rfl) (by kernel_rfl) (by kernel_rfl) (by kernel_rfl) (fun _ _ _ h => h) (.inl ⟨rfl, fun w' hS => rfl⟩) hG ?_
  refine act_normA (by simp only [Act.put, List.setIfInBounds_toArray, List.set_cons_zero, List.set_cons_succ]; rfl) ?_
  refine wpAnyH_take (i := 2) (v := .pointer (some ⟨g, 0, none⟩)) (List.getElem?_toArray.trans rfl) (by kernel_rfl) (by kernel_rfl) (by kernel_rfl) (fun _ _ _ h => h) (.inl ⟨rfl, fun w' hS => by simp [go_sem]⟩) hG ?_
  refine act_normA (by simp only [Act.put, List.setIfInBounds_toArray, List.set_cons_zero, List.set_cons_succ]; rfl) ?_
  refine wpAnyH_take (i := 3) (v := .pointer (some ⟨g, 0, none⟩)) (List.getElem?_toArray.trans rfl) (by kernel_rfl) (by kernel_rfl) (by kernel_rfl) (fun _ _ _ h => h) (.inl ⟨rfl, fun w' hS => by simp [go_sem]⟩) hG ?_
  refine act_normA (by simp only [Act.put, List.setIfInBounds_toArray, List.set_cons_zero, List.set_cons_succ]; rfl) ?_
  refine wpAnyH_take (i := 4) (v := .pointer (some ⟨g, 0, none⟩)) (List.getElem?_toArray.trans rfl) (by kernel_rfl) (by kernel_rfl) (by kernel_rfl) (fun _ _ _ h => h) (.inl ⟨rfl, fun w' hS => by simp [go_sem]⟩) hG ?_
  refine act_normA (by simp only [Act.put, List.setIfInBounds_toArray, List.set_cons_zero, List.set_cons_succ]; rfl) ?_
  refine wpAnyH_take (i := 5) (v := .agg (aRow x0)) (List.getElem?_toArray.trans rfl) (by kernel_rfl) (by kernel_rfl) (by kernel_rfl) (fun _ _ _ h => h) (yields_blk (by rfl) (.tmp 13) rfl g 0 rfl x0 HX016.out HX0R.out) hG ?_
  refine act_normA (by simp only [Act.put, List.setIfInBounds_toArray, List.set_cons_zero, List.set_cons_succ]; rfl) ?_
  refine wpAnyH_ready (rs := [0]) (by kernel_rfl) (by simp) (AllReadyH.cons (List.getElem?_toArray.trans rfl) (fun K' hK => ?_) AllReadyH.nil)
  refine wanted_goA rfl ?_
  refine wp_load_mid 23 (.tmp 3) rfl b 0 rfl (l.map cell8) _ (Wh.range (w := W.drew) H2.out) Tryd.underlying23 rfl (by rw [List.length_map, HL.out]; exact info_a16) ?_
  refine hK.out _ _ hG (fun _ => ?_)
  clear hK K'
  refine wpAnyH_ready (rs := [6]) (by kernel_rfl) (by simp) (AllReadyH.cons (List.getElem?_toArray.trans rfl) (fun K' hK => ?_) AllReadyH.nil)
  refine wanted_goA rfl ?_
  go_simp
  refine (HC0.out W.drew).mono ?_
  rintro e w3 ⟨rfl, hbw3⟩
  have HB3 : Hid (Below W.heap.size W w3) := Lib.hid ((Below.refl _ _).drew.trans hbw3)
  have hG3 := HG1.out.below HB3.out HG1.out.lt
  have hb3w := H2.out.below HB3.out H2.out.lt
  clear hbw3
  refine hK.out _ _ hG3 (fun _ => ?_)
  clear hK K'
  obtain ⟨hs1, hs2⟩ := Wh.over hb3w HL.out HS016.out
  have hG4 : Wh (w3.setCells b 0 (s0.map cell8)) g 107 (aRow ks.flatten) := hG3.grown hs2 (by intro e; have := Option.some.inj e; omega)
  refine wpAnyH_ready (rs := [7]) (by kernel_rfl) (by simp) (AllReadyH.cons (List.getElem?_toArray.trans rfl) (fun K' hK => ?_) AllReadyH.nil)
  refine wanted_goA rfl ?_
  refine wp_store_mid 23 (.tmp 3) (.tmp 15) rfl b 0 (aRow s0) rfl rfl (by rw [aRow_size, HS016.out]; exact hb3w.there HL.out) (info_aRow HS016.out) (aRow_one _) ?_
  rw [aRow_list]
  refine hK.out _ _ hG4 (fun _ => ?_)
  clear hK K'
  refine wpAnyH_done (by kernel_rfl) ?_ _
  have HW0 := Lib.hid hs1
  have HG0 := Lib.hid (grown_trans (grown_below (row := some b) HB3.out) hs2)
  clear hG hG3 hG4 hb3w hs1 hs2 HC0 HX0R HX016 HS016 H2
  simp only [Act.put]
  generalize w3.setCells b 0 (s0.map cell8) = w4 at *
  rw [HS0.out] at HW0
  go_wp2
  go_loopw [5] (fun i wr => ∃ k : Nat, k ≤ 9 ∧ i = .int .i64 ((k + 1 : Nat) : Int) ∧ Hid (Wh wr b 23 (aRow (rdS ks l k))) ∧ Hid (W.grownBy wr (some b))) (fun i _ => 10 - (intOf i).toNat)
  case atStart => exact ⟨0, by omega, rfl, HW0, HG0⟩
  case round =>
    obtain ⟨k, hk, rfl, HW, HG⟩ := hrel
    clear HW0 HG0 HS0
    obtain ⟨j, hj⟩ : ∃ j, j = k + 1 := ⟨_, rfl⟩
    rw [← hj]
    obtain ⟨s, hs⟩ : ∃ s, s = rdS ks l k := ⟨_, rfl⟩
    rw [← hs] at HW
    have hs16 : s.length = 16 := by rw [hs]; exact rdS_len ks HL.out k
    have hgr := HG1.out.grown HG.out (by intro e; have := Option.some.inj e; omega)
    obtain ⟨m, hm⟩ : ∃ m, m = mvL s := ⟨_, rfl⟩
    have hm16 : m.length = 16 := by rw [hm]; exact mvL_len s
    have hmc := fun w' => moved_any s w' hs16
    rw [← hm] at hmc
    have HMC := Lib.hid hmc
    have HM16 := Deep.mk hm16
    have HM := Deep.mk hm
    have HS := Deep.mk hs
    have HS16 := Deep.mk hs16
    clear hm hm16 hmc hs hs16
    by_cases hlt : k < 9
    · have hj10 : j < 10 := by omega
      have hdj : decide ((j : Int) < 10) = true := by rw [decide_eq_true_iff]; omega
      have hj11 : (j : Int) < 11 := by omega
      obtain ⟨x, hx⟩ : ∃ x, x = ks.getD j [] := ⟨_, rfl⟩
      have hx16 : x.length = 16 := by rw [hx]; exact HKB.out.at_ (by omega)
      have hxr : ∀ w', Wh w' g 107 (aRow ks.flatten) → w'.rangeAt g (j * 16) (x.map cell8) := fun w' h => by rw [hx]; exact HKB.out.range' h (by omega)
      obtain ⟨q, hq⟩ : ∃ q, q = mxL m := ⟨_, rfl⟩
      have hq16 : q.length = 16 := by rw [hq]; exact mxL_len HM16.out
      have hqc := fun w' => amixed_any m w' HM16.out
      rw [← hq] at hqc
      obtain ⟨y, hy⟩ : ∃ y, y = addL q x := ⟨_, rfl⟩
      have hy16 : y.length = 16 := by rw [hy]; exact addL_len hq16
      have hyc := fun w' => added_any q x w' hq16 hx16
      rw [← hy] at hyc
      have HY : Deep (y = rdS ks l (k + 1)) := ⟨by rw [hy, hq, hx, rdS, HM.out, HS.out, ← hj]⟩
      have HX16 := Deep.mk hx16
      have HXR := Deep.mk hxr
      have HQC := Lib.hid hqc
      have HYC := Lib.hid hyc
      have HY16 := Deep.mk hy16
      have HJ := Deep.mk hj
      clear hx hx16 hxr hq hq16 hqc hy hy16 hyc hj
      go_wp2_with fail
      have hG : Wh wr.drew g 107 (aRow ks.flatten) := hgr
      refine wp_region_held_drew (S := fun w' => Wh w' g 107 (aRow ks.flatten)) (by kernel_rfl) hG (fun _ => ?_)
      refine wpAnyH_take (i := 3) (v := .pointer (some ⟨g, 0, none⟩)) (List.getElem?_toArray.trans rfl) (by kernel_rfl) (by kernel_rfl) (by kernel_rfl) (fun _ _ _ h => h) (.inl ⟨rfl, fun w' hS => rfl⟩) hG ?_
      refine act_normA (by simp only [Act.put, List.setIfInBounds_toArray, List.set_cons_zero, List.set_cons_succ]; rfl) ?_
      refine wpAnyH_take (i := 4) (v := .int .i64 (j : Int)) (List.getElem?_toArray.trans rfl) (by kernel_rfl) (by kernel_rfl) (by kernel_rfl) (fun _ _ _ h => h) (.inl ⟨rfl, fun w' hS => rfl⟩) hG ?_
      refine act_normA (by simp only [Act.put, List.setIfInBounds_toArray, List.set_cons_zero, List.set_cons_succ]; rfl) ?_
      refine wpAnyH_take (i := 5) (v := .pointer (some ⟨g, 0, none⟩)) (List.getElem?_toArray.trans rfl) (by kernel_rfl) (by kernel_rfl) (by kernel_rfl) (fun _ _ _ h => h) (.inl ⟨rfl, fun w' hS => by simp [go_sem]⟩) hG ?_
      refine act_normA (by simp only [Act.put, List.setIfInBounds_toArray, List.set_cons_zero, List.set_cons_succ]; rfl) ?_
      refine wpAnyH_take (i := 6) (v := .pointer (some ⟨g, 0, none⟩)) (List.getElem?_toArray.trans rfl) (by kernel_rfl) (by kernel_rfl) (by kernel_rfl) (fun _ _ _ h => h) (.inl ⟨rfl, fun w' hS => by simp [go_sem]⟩) hG ?_
      refine act_normA (by simp only [Act.put, List.setIfInBounds_toArray, List.set_cons_zero, List.set_cons_succ]; rfl) ?_
      refine wpAnyH_take (i := 7) (v := .pointer (some ⟨g, j * 16, none⟩)) (List.getElem?_toArray.trans rfl) (by kernel_rfl) (by kernel_rfl) (by kernel_rfl) (fun _ _ _ h => h) (.inl ⟨rfl, fun w' hS => by simp [go_sem, hj11]⟩) hG ?_
      refine act_normA (by simp only [Act.put, List.setIfInBounds_toArray, List.set_cons_zero, List.set_cons_succ]; rfl) ?_
      refine wpAnyH_take (i := 8) (v := .agg (aRow x)) (List.getElem?_toArray.trans rfl) (by kernel_rfl) (by kernel_rfl) (by kernel_rfl) (fun _ _ _ h => h) (yields_blk (by rfl) (.tmp 27) rfl g (j * 16) rfl x HX16.out HXR.out) hG ?_
      refine act_normA (by simp only [Act.put, List.setIfInBounds_toArray, List.set_cons_zero, List.set_cons_succ]; rfl) ?_
      refine wpAnyH_ready (rs := [0]) (by kernel_rfl) (by simp) (AllReadyH.cons (List.getElem?_toArray.trans rfl) (fun K' hK => ?_) AllReadyH.nil)
      refine wanted_goA rfl ?_
      refine wp_load_mid 23 (.tmp 3) rfl b 0 rfl (s.map cell8) _ (Wh.range (w := wr.drew) HW.out) Tryd.underlying23 rfl (by rw [List.length_map, HS16.out]; exact info_a16) ?_
      refine hK.out _ _ hG (fun _ => ?_)
      clear hK K'
      refine wpAnyH_ready (rs := [1]) (by kernel_rfl) (by simp) (AllReadyH.cons (List.getElem?_toArray.trans rfl) (fun K' hK => ?_) AllReadyH.nil)
      refine wanted_goA rfl ?_
      go_simp
      refine (HMC.out wr.drew).mono ?_
      rintro e w3 ⟨rfl, hbw3⟩
      have HB3 : Hid (Below wr.heap.size wr w3) := Lib.hid ((Below.refl _ _).drew.trans hbw3)
      have hG3 : Wh w3 g 107 (aRow ks.flatten) := hgr.below HB3.out hgr.lt
      clear hbw3
      refine hK.out _ _ hG3 (fun _ => ?_)
      clear hK K'
      refine wpAnyH_ready (rs := [2]) (by kernel_rfl) (by simp) (AllReadyH.cons (List.getElem?_toArray.trans rfl) (fun K' hK => ?_) AllReadyH.nil)
      refine wanted_goA rfl ?_
      go_simp
      refine (HQC.out w3).mono ?_
      rintro e w4 ⟨rfl, hbw4⟩
      have HB4 : Hid (Below wr.heap.size wr w4) := Lib.hid (HB3.out.trans (hbw4.mono HB3.out.size))
      have hG4 : Wh w4 g 107 (aRow ks.flatten) := hgr.below HB4.out hgr.lt
      clear hbw4
      refine hK.out _ _ hG4 (fun _ => ?_)
      clear hK K'
      refine wpAnyH_ready (rs := [9]) (by kernel_rfl) (by simp) (AllReadyH.cons (List.getElem?_toArray.trans rfl) (fun K' hK => ?_) AllReadyH.nil)
      refine wanted_goA rfl ?_
      go_simp
      refine (HYC.out w4).mono ?_
      rintro e w5 ⟨rfl, hbw5⟩
      have HB5 : Hid (Below wr.heap.size wr w5) := Lib.hid (HB4.out.trans (hbw5.mono HB4.out.size))
      have hG5 : Wh w5 g 107 (aRow ks.flatten) := hgr.below HB5.out hgr.lt
      have hbw : Wh w5 b 23 (aRow s) := HW.out.below HB5.out HW.out.lt
      clear hbw5
      refine hK.out _ _ hG5 (fun _ => ?_)
      clear hK K'
      obtain ⟨hs1, hs2⟩ := Wh.over hbw HS16.out HY16.out
      have hG6 : Wh (w5.setCells b 0 (y.map cell8)) g 107 (aRow ks.flatten) := hG5.grown hs2 (by intro e; have := Option.some.inj e; omega)
      refine wpAnyH_ready (rs := [10]) (by kernel_rfl) (by simp) (AllReadyH.cons (List.getElem?_toArray.trans rfl) (fun K' hK => ?_) AllReadyH.nil)
      refine wanted_goA rfl ?_
      refine wp_store_mid 23 (.tmp 3) (.tmp 29) rfl b 0 (aRow y) rfl rfl (by rw [aRow_size, HY16.out]; exact hbw.there HS16.out) (info_aRow HY16.out) (aRow_one _) ?_
      rw [aRow_list]
      refine hK.out _ _ hG6 (fun _ => ?_)
      clear hK K'
      refine wpAnyH_done (by kernel_rfl) ?_ _
      have HW6 := Lib.hid hs1
      have HG6 := Lib.hid (grown_trans (grown_trans HG.out (grown_below (row := some b) HB5.out)) hs2)
      clear hG hG3 hG4 hG5 hG6 hbw hs1 hs2 hgr
      simp only [Act.put]
      generalize w5.setCells b 0 (y.map cell8) = w6 at *
      rw [HY.out] at HW6
      go_wp2
      refine ⟨⟨k + 1, by omega, by rw [HJ.out]; rfl, HW6, HG6⟩, by simp [intOf]; omega⟩
    · have hk9 : k = 9 := by omega
      have hdj : decide ((j : Int) < 10) = false := by rw [decide_eq_false_iff_not]; omega
      obtain ⟨x, hx⟩ : ∃ x, x = ks.getD 10 [] := ⟨_, rfl⟩
      have hx16 : x.length = 16 := by rw [hx]; exact HKB.out.at_ (by omega)
      have hxr : ∀ w', Wh w' g 107 (aRow ks.flatten) → w'.rangeAt g 160 (x.map cell8) := fun w' h => by rw [hx]; exact HKB.out.range' h (by omega : 10 < 11)
      obtain ⟨y, hy⟩ : ∃ y, y = addL m x := ⟨_, rfl⟩
      have hy16 : y.length = 16 := by rw [hy]; exact addL_len HM16.out
      have hyc := fun w' => added_any m x w' HM16.out hx16
      rw [← hy] at hyc
      have HY : Deep (y = seL ks l) := ⟨by rw [hy, hx, seL, HM.out, HS.out, hk9]⟩
      have HRW : Hid (Wh wr r 23 (aRow (List.replicate 16 0))) := Lib.hid (H3.out.grown HG.out (by intro e; have := Option.some.inj e; omega))
      have HBW := Lib.hid (below_grownA HBE.out HG.out (by rw [HB.out]; exact Nat.le_refl _) HBE.out.size)
      have hwr : w.heap.size ≤ r := by rw [HR.out]; omega
      obtain ⟨z0, hz0⟩ : ∃ z : List UInt8, z = List.replicate 16 0 := ⟨_, rfl⟩
      have hz016 : z0.length = 16 := by rw [hz0]; rfl
      rw [← hz0] at HRW
      have HZ016 := Deep.mk hz016
      have HX16 := Deep.mk hx16
      have HXR := Deep.mk hxr
      have HYC := Lib.hid hyc
      have HY16 := Deep.mk hy16
      clear hx hx16 hxr hy hy16 hyc hj hk9 hlt hk hz0 hz016
      go_wp2_with fail
      have hG : Wh wr.drew g 107 (aRow ks.flatten) := hgr
      refine wp_region_held_drew (S := fun w' => Wh w' g 107 (aRow ks.flatten)) (by kernel_rfl) hG (fun _ => ?_)
      refine wpAnyH_take (i := 2) (v := .pointer (some ⟨g, 0, none⟩)) (List.getElem?_toArray.trans rfl) (by kernel_rfl) (by kernel_rfl) (by kernel_rfl) (fun _ _ _ h => h) (.inl ⟨rfl, fun w' hS => rfl⟩) hG ?_
      refine act_normA (by simp only [Act.put, List.setIfInBounds_toArray, List.set_cons_zero, List.set_cons_succ]; rfl) ?_
      refine wpAnyH_take (i := 3) (v := .pointer (some ⟨g, 0, none⟩)) (List.getElem?_toArray.trans rfl) (by kernel_rfl) (by kernel_rfl) (by kernel_rfl) (fun _ _ _ h => h) (.inl ⟨rfl, fun w' hS => by simp [go_sem]⟩) hG ?_
      refine act_normA (by simp only [Act.put, List.setIfInBounds_toArray, List.set_cons_zero, List.set_cons_succ]; rfl) ?_
      refine wpAnyH_take (i := 4) (v := .pointer (some ⟨g, 0, none⟩)) (List.getElem?_toArray.trans rfl) (by kernel_rfl) (by kernel_rfl) (by kernel_rfl) (fun _ _ _ h => h) (.inl ⟨rfl, fun w' hS => by simp [go_sem]⟩) hG ?_
      refine act_normA (by simp only [Act.put, List.setIfInBounds_toArray, List.set_cons_zero, List.set_cons_succ]; rfl) ?_
      refine wpAnyH_take (i := 5) (v := .pointer (some ⟨g, 160, none⟩)) (List.getElem?_toArray.trans rfl) (by kernel_rfl) (by kernel_rfl) (by kernel_rfl) (fun _ _ _ h => h) (.inl ⟨rfl, fun w' hS => by simp [go_sem]⟩) hG ?_
      refine act_normA (by simp only [Act.put, List.setIfInBounds_toArray, List.set_cons_zero, List.set_cons_succ]; rfl) ?_
      refine wpAnyH_take (i := 6) (v := .agg (aRow x)) (List.getElem?_toArray.trans rfl) (by kernel_rfl) (by kernel_rfl) (by kernel_rfl) (fun _ _ _ h => h) (yields_blk (by rfl) (.tmp 35) rfl g 160 rfl x HX16.out HXR.out) hG ?_
      refine act_normA (by simp only [Act.put, List.setIfInBounds_toArray, List.set_cons_zero, List.set_cons_succ]; rfl) ?_
      refine wpAnyH_ready (rs := [0]) (by kernel_rfl) (by simp) (AllReadyH.cons (List.getElem?_toArray.trans rfl) (fun K' hK => ?_) AllReadyH.nil)
      refine wanted_goA rfl ?_
      refine wp_load_mid 23 (.tmp 3) rfl b 0 rfl (s.map cell8) _ (Wh.range (w := wr.drew) HW.out) Tryd.underlying23 rfl (by rw [List.length_map, HS16.out]; exact info_a16) ?_
      refine hK.out _ _ hG (fun _ => ?_)
      clear hK K'
      refine wpAnyH_ready (rs := [1]) (by kernel_rfl) (by simp) (AllReadyH.cons (List.getElem?_toArray.trans rfl) (fun K' hK => ?_) AllReadyH.nil)
      refine wanted_goA rfl ?_
      go_simp
      refine (HMC.out wr.drew).mono ?_
      rintro e w3 ⟨rfl, hbw3⟩
      have HB3 : Hid (Below wr.heap.size wr w3) := Lib.hid ((Below.refl _ _).drew.trans hbw3)
      have hG3 : Wh w3 g 107 (aRow ks.flatten) := hgr.below HB3.out hgr.lt
      clear hbw3
      refine hK.out _ _ hG3 (fun _ => ?_)
      clear hK K'
      refine wpAnyH_ready (rs := [7]) (by kernel_rfl) (by simp) (AllReadyH.cons (List.getElem?_toArray.trans rfl) (fun K' hK => ?_) AllReadyH.nil)
      refine wanted_goA rfl ?_
      go_simp
      refine (HYC.out w3).mono ?_
      rintro e w5 ⟨rfl, hbw5⟩
      have HB5 : Hid (Below wr.heap.size wr w5) := Lib.hid (HB3.out.trans (hbw5.mono HB3.out.size))
      have hG5 : Wh w5 g 107 (aRow ks.flatten) := hgr.below HB5.out hgr.lt
      have hbw : Wh w5 r 23 (aRow z0) := HRW.out.below HB5.out HRW.out.lt
      clear hbw5
      refine hK.out _ _ hG5 (fun _ => ?_)
      clear hK K'
      obtain ⟨hs1, hs2⟩ := Wh.over hbw HZ016.out HY16.out
      have hG6 : Wh (w5.setCells r 0 (y.map cell8)) g 107 (aRow ks.flatten) := hG5.grown hs2 (by intro e; have := Option.some.inj e; omega)
      refine wpAnyH_ready (rs := [8]) (by kernel_rfl) (by simp) (AllReadyH.cons (List.getElem?_toArray.trans rfl) (fun K' hK => ?_) AllReadyH.nil)
      refine wanted_goA rfl ?_
      refine wp_store_mid 23 (.tmp 4) (.tmp 37) rfl r 0 (aRow y) rfl rfl (by rw [aRow_size, HY16.out]; exact hbw.there HZ016.out) (info_aRow HY16.out) (aRow_one _) ?_
      rw [aRow_list]
      refine hK.out _ _ hG6 (fun _ => ?_)
      clear hK K'
      refine wpAnyH_done (by kernel_rfl) ?_ _
      have HW6 := Lib.hid hs1
      have HG6 := Lib.hid (below_grownA (HBW.out.trans (HB5.out.mono HBW.out.size)) hs2 hwr (Nat.le_trans HBW.out.size HB5.out.size))
      clear hG hG3 hG5 hG6 hbw hs1 hs2 hgr
      simp only [Act.put]
      generalize w5.setCells r 0 (y.map cell8) = w6 at *
      go_wp2
      refine bodyPost_ret (v := .agg (aRow y)) (results_cell_row Tryd.results42 _ _ r _ _ (0, 0) _ rfl HW6.out Tryd.underlying23 rfl (info_aRow HY16.out)) rfl ?_
      exact ⟨by rw [HY.out], HG6.out⟩
end Go.Proofs.YtbnnjkjmadnjkaaDoor
