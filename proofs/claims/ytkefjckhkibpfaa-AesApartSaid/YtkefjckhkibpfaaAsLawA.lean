/-
  The walk through the statement AesApart.
-/
import Derived.Test.YtkefjckhkibpfaaAsInj
import Derived.Test.YtkefjckhkibpfaaAsKnown
namespace Go.Proofs.Ytkefjckhkibpfaa
open Go.RowKit
set_option linter.unusedVariables false

set_option maxRecDepth 100000 in
set_option maxHeartbeats 800000 in
theorem apart_any (x y : UInt8) (key a b : List UInt8) (w : World) (hk : key.length = 16) (ha : a.length = 16) (hb : b.length = 16) :
    Calls Try.prog 4 #[.int .u8 (x.toNat : Int), .int .u8 (y.toNat : Int), .agg (aRow key), .agg (aRow a), .agg (aRow b)] w fun e w' => e = .returned (.bool true) ∧ Below w.heap.size w w' := by
  have HKL := Deep.mk hk
  have HAL := Deep.mk ha
  have HBL := Deep.mk hb
  have hkb := ksL_b hk
  have hnx := fun w' => new_any key w' hk
  obtain ⟨ks, hks⟩ : ∃ ks, ks = ksL key := ⟨_, rfl⟩
  unfold MadeC at hnx
  rw [← hks] at hkb hnx
  obtain ⟨p, hp⟩ : ∃ p, p = seL ks a := ⟨_, rfl⟩
  obtain ⟨q, hq⟩ : ∃ q, q = seL ks b := ⟨_, rfl⟩
  have hp16 : p.length = 16 := by rw [hp]; exact seL_len _ _
  have hq16 : q.length = 16 := by rw [hq]; exact seL_len _ _
  have hsa := fun (g : Nat) (w' : World) (hg : Wh w' g 39 (aRow ks.flatten)) => seal_any g ks a w' hkb hg ha
  have hsb := fun (g : Nat) (w' : World) (hg : Wh w' g 39 (aRow ks.flatten)) => seal_any g ks b w' hkb hg hb
  rw [← hp] at hsa
  rw [← hq] at hsb
  have hpq : decide (p = q) = decide (a = b) := by
    rw [decide_eq_decide, hp, hq]
    exact ⟨fun h => seL_inj hkb ha hb h, fun h => by rw [h]⟩
  have hxy : decide (sB x = sB y) = decide (x = y) := by
    rw [decide_eq_decide]
    exact ⟨sB_inj, fun h => by rw [h]⟩
  have hex := b_eq x y
  have hes := b_eq (sB x) (sB y)
  rw [hxy] at hes
  have hea := fun w' => eq_blks a b ha hb w'
  have hep := fun w' => eq_blks p q hp16 hq16 w'
  have hpp := fun w' => eq_blks p p hp16 hp16 w'
  have hqq := fun w' => eq_blks q q hq16 hq16 w'
  rw [hpq] at hep
  rw [decide_eq_true rfl] at hpp hqq
  obtain ⟨u, hu⟩ : ∃ u, u = decide (x = y) := ⟨_, rfl⟩
  obtain ⟨v, hv⟩ : ∃ v, v = decide (a = b) := ⟨_, rfl⟩
  rw [← hu] at hex hes
  rw [← hv] at hea hep
  have HEX := Lib.hid hex
  have HES := Lib.hid hes
  have HEA := Deep.mk hea
  have HEP := Deep.mk hep
  have HPP := Deep.mk hpp
  have HQQ := Deep.mk hqq
  have HP16 := Deep.mk hp16
  have HQ16 := Deep.mk hq16
  have HNX := Deep.mk hnx
  have HSA := Deep.mk hsa
  have HSB := Deep.mk hsb
  clear hk ha hb hkb hnx hks hp hq hp16 hq16 hsa hsb hpq hxy hex hes hea hep hpp hqq hu hv
  obtain ⟨hbe, h2, h3, h4⟩ := made3 w (aRow key) (aRow a) (aRow b) 22 22 22
  go_enter Try.func4, Try.ntmps4
  go_upto_region 1 with (fail)
  generalize ((w.alloc (.cells (aRow key) 22)).alloc (.cells (aRow a) 22)).alloc (.cells (aRow b) 22) = W at *
  obtain ⟨kb, hkb⟩ : ∃ c, c = w.heap.size := ⟨_, rfl⟩
  obtain ⟨ab, hab⟩ : ∃ c, c = w.heap.size + 1 := ⟨_, rfl⟩
  obtain ⟨bb, hbb⟩ : ∃ c, c = w.heap.size + 1 + 1 := ⟨_, rfl⟩
  rw [← hkb] at h2
  rw [← hab] at h3
  rw [← hbb] at h4
  rw [← hbb, ← hab, ← hkb]
  have HBE := Lib.hid hbe
  have H2 := Lib.hid h2
  have H3 := Lib.hid h3
  have H4 := Lib.hid h4
  clear hkb hab hbb hbe h2 h3 h4
  go_upto_region 3 with (go_at_call 5; refine (known_any _).mono ?_; rintro e w1 ⟨rfl, hb1⟩; have HB1 := Lib.hid hb1; clear hb1)
  have HBE1 := Lib.hid (HBE.out.trans (HB1.out.mono HBE.out.size))
  have H21 := Lib.hid (H2.out.below HB1.out H2.out.lt)
  have H31 := Lib.hid (H3.out.below HB1.out H3.out.lt)
  have H41 := Lib.hid (H4.out.below HB1.out H4.out.lt)
  clear H2 H3 H4 HBE HB1
  go_wp2_with (refine wpList_load_row rfl 22 (.tmp 7) rfl kb rfl _ (aRow key) _ _ H21.out Try.underlying22 rfl (info_aRow HKL.out) ?_)
  refine (HNX.out _).mono ?_
  rintro e w2 ⟨g, rfl, hg1, hg2, hb2⟩
  have HBE2 := Lib.hid (HBE1.out.trans (hb2.mono HBE1.out.size))
  have H22 := Lib.hid (H21.out.below hb2 H21.out.lt)
  have H32 := Lib.hid (H31.out.below hb2 H31.out.lt)
  have H42 := Lib.hid (H41.out.below hb2 H41.out.lt)
  have HG2 := Lib.hid hg2
  clear hb2 hg1 hg2 H21 H31 H41 HBE1
  go_upto_region 4 with (fail)
  go_cut [12, 13] (fun v1 v2 wx => ∃ r1 r2, v1 = .pointer (some ⟨r1, 0, none⟩) ∧ v2 = .pointer (some ⟨r2, 0, none⟩) ∧ Hid (Wh wx r1 22 (aRow p)) ∧ Hid (Wh wx r2 22 (aRow q)) ∧ Hid (Below w2.heap.size w2 wx))
  case first =>
    go_wp2_with fail
    refine wp_region_held_drew (S := fun w' => SinceA w2.drew w') (by kernel_rfl) (SinceA.self _) (fun _ => ?_)
    have hW0 : Below w2.heap.size w2 w2.drew := (Below.refl _ _).drew
    have hA : Wh w2.drew ab 22 (aRow a) := H32.out
    have hB : Wh w2.drew bb 22 (aRow b) := H42.out
    have hG : Wh w2.drew g 39 (aRow ks.flatten) := HG2.out
    generalize w2.drew = w0 at *
    refine wpAnyH_take (i := 0) (v := .pointer (some ⟨g, 0, none⟩)) (List.getElem?_toArray.trans rfl) (by kernel_rfl) (by kernel_rfl) (by kernel_rfl) (fun _ _ _ h => h) (.inl ⟨rfl, fun w' hS => rfl⟩) (SinceA.self _) ?_
    refine act_normA (by simp only [Act.put, List.setIfInBounds_toArray, List.set_cons_zero, List.set_cons_succ]; rfl) ?_
    refine wpAnyH_take (i := 1) (v := .agg (aRow a)) (List.getElem?_toArray.trans rfl) (by kernel_rfl) (by kernel_rfl) (by kernel_rfl) (fun _ _ _ h => h) (yields_blk (by rfl) (.tmp 8) rfl ab 0 rfl a HAL.out (fun w' hS => (SinceA.wh hS hA).range)) (SinceA.self _) ?_
    refine act_normA (by simp only [Act.put, List.setIfInBounds_toArray, List.set_cons_zero, List.set_cons_succ]; rfl) ?_
    refine wpAnyH_take (i := 3) (v := .pointer (some ⟨g, 0, none⟩)) (List.getElem?_toArray.trans rfl) (by kernel_rfl) (by kernel_rfl) (by kernel_rfl) (fun _ _ _ h => h) (.inl ⟨rfl, fun w' hS => rfl⟩) (SinceA.self _) ?_
    refine act_normA (by simp only [Act.put, List.setIfInBounds_toArray, List.set_cons_zero, List.set_cons_succ]; rfl) ?_
    refine wpAnyH_take (i := 4) (v := .agg (aRow b)) (List.getElem?_toArray.trans rfl) (by kernel_rfl) (by kernel_rfl) (by kernel_rfl) (fun _ _ _ h => h) (yields_blk (by rfl) (.tmp 9) rfl bb 0 rfl b HBL.out (fun w' hS => (SinceA.wh hS hB).range)) (SinceA.self _) ?_
    refine act_normA (by simp only [Act.put, List.setIfInBounds_toArray, List.set_cons_zero, List.set_cons_succ]; rfl) ?_
    refine wpAnyH_ready (rs := [2, 6, 7]) (by kernel_rfl) (by simp) (AllReadyH.cons (List.getElem?_toArray.trans rfl) (fun K' hK => ?_) (AllReadyH.cons (List.getElem?_toArray.trans rfl) (fun K' hK => ?_) (AllReadyH.cons (List.getElem?_toArray.trans rfl) (fun K' hK => ?_) AllReadyH.nil)))
    · refine wanted_goA rfl ?_
      go_simp
      refine (HSA.out g w0 hG).mono ?_
      rintro e wa1 ⟨rfl, hbwa1⟩
      have hBwa1 := SinceA.trans (SinceA.self w0) hbwa1
      have hlgwa1 := (hG).lt
      have hgwa1 := SinceA.wh hbwa1 hG
      refine hK.out _ _ hBwa1 (fun _ => ?_)
      clear hK K'
      refine wpAnyH_ready (rs := [5, 6, 7]) (by kernel_rfl) (by simp) (AllReadyH.cons (List.getElem?_toArray.trans rfl) (fun K' hK => ?_) (AllReadyH.cons (List.getElem?_toArray.trans rfl) (fun K' hK => ?_) (AllReadyH.cons (List.getElem?_toArray.trans rfl) (fun K' hK => ?_) AllReadyH.nil)))
      · refine wanted_goA rfl ?_
        go_simp
        refine (HSB.out g wa1 hgwa1).mono ?_
        rintro e wa2 ⟨rfl, hbwa2⟩
        have hBwa2 := SinceA.trans hBwa1 hbwa2
        have hlgwa2 := (hgwa1).lt
        have hgwa2 := SinceA.wh hbwa2 hgwa1
        refine hK.out _ _ hBwa2 (fun _ => ?_)
        clear hK K'
        refine wpAnyH_ready (rs := [6, 7]) (by kernel_rfl) (by simp) (AllReadyH.cons (List.getElem?_toArray.trans rfl) (fun K' hK => ?_) (AllReadyH.cons (List.getElem?_toArray.trans rfl) (fun K' hK => ?_) AllReadyH.nil))
        · refine wanted_goA rfl ?_
          go_simp
          rw [zeros16]
          obtain ⟨rwa3, erwa3⟩ : ∃ r, r = wa2.heap.size := ⟨_, rfl⟩
          rw [← erwa3]
          have hbwa3 : SinceA wa2 (wa2.alloc (.cells (aRow (List.replicate 16 0)) 22)) := (Below.refl _ _).alloc (Nat.le_refl _) _
          have hxwa3 : Wh (wa2.alloc (.cells (aRow (List.replicate 16 0)) 22)) rwa3 22 (aRow (List.replicate 16 0)) := by rw [erwa3]; exact Wh.new _ _ _
          have hnrwa3 : w0.heap.size ≤ rwa3 := by rw [erwa3]; exact (hBwa2).size
          generalize wa2.alloc (.cells (aRow (List.replicate 16 0)) 22) = wa3 at *
          have hBwa3 := SinceA.trans hBwa2 hbwa3
          have hgwa3 := SinceA.wh hbwa3 hgwa2
          have hdgr : g ≠ rwa3 := by have := (hgwa2).lt; omega
          refine hK.out _ _ hBwa3 (fun _ => ?_)
          clear hK K' erwa3
          refine wpAnyH_ready (rs := [7]) (by kernel_rfl) (by simp) (AllReadyH.cons (List.getElem?_toArray.trans rfl) (fun K' hK => ?_) AllReadyH.nil)
          refine wanted_goA rfl ?_
          go_simp
          rw [zeros16]
          obtain ⟨swa4, eswa4⟩ : ∃ r, r = wa3.heap.size := ⟨_, rfl⟩
          rw [← eswa4]
          have hbwa4 : SinceA wa3 (wa3.alloc (.cells (aRow (List.replicate 16 0)) 22)) := (Below.refl _ _).alloc (Nat.le_refl _) _
          have hxwa4 : Wh (wa3.alloc (.cells (aRow (List.replicate 16 0)) 22)) swa4 22 (aRow (List.replicate 16 0)) := by rw [eswa4]; exact Wh.new _ _ _
          have hnswa4 : w0.heap.size ≤ swa4 := by rw [eswa4]; exact (hBwa3).size
          generalize wa3.alloc (.cells (aRow (List.replicate 16 0)) 22) = wa4 at *
          have hBwa4 := SinceA.trans hBwa3 hbwa4
          have hgwa4 := SinceA.wh hbwa4 hgwa3
          have hdgs : g ≠ swa4 := by have := (hgwa3).lt; omega
          have hrwa4 := SinceA.wh hbwa4 hxwa3
          have hdrs : rwa3 ≠ swa4 := by have := (hxwa3).lt; omega
          refine hK.out _ _ hBwa4 (fun _ => ?_)
          clear hK K' eswa4
          refine wpAnyH_ready (rs := [8]) (by kernel_rfl) (by simp) (AllReadyH.cons (List.getElem?_toArray.trans rfl) (fun K' hK => ?_) AllReadyH.nil)
          refine wanted_goA rfl ?_
          refine wp_store_mid 22 (.tmp 12) (.tmp 20) rfl rwa3 0 (aRow p) rfl rfl (by rw [aRow_size, HP16.out]; exact (hrwa4).there zlen) (info_aRow HP16.out) (aRow_one _) ?_
          rw [aRow_list]
          obtain ⟨hxwa5, hvwa5⟩ := Wh.over hrwa4 zlen HP16.out
          generalize wa4.setCells rwa3 0 (p.map cell8) = wa5 at *
          have hBwa5 : SinceA w0 wa5 := below_grown hBwa4 hvwa5 hnrwa3 (hBwa4).size
          have hgwa5 := Wh.grown hgwa4 hvwa5 (by intro e; have := Option.some.inj e; omega)
          have hswa5 := Wh.grown hxwa4 hvwa5 (by intro e; have := Option.some.inj e; omega)
          refine hK.out _ _ hBwa5 (fun _ => ?_)
          clear hK K'
          refine wpAnyH_ready (rs := [9]) (by kernel_rfl) (by simp) (AllReadyH.cons (List.getElem?_toArray.trans rfl) (fun K' hK => ?_) AllReadyH.nil)
          refine wanted_goA rfl ?_
          refine wp_store_mid 22 (.tmp 13) (.tmp 23) rfl swa4 0 (aRow q) rfl rfl (by rw [aRow_size, HQ16.out]; exact (hswa5).there zlen) (info_aRow HQ16.out) (aRow_one _) ?_
          rw [aRow_list]
          obtain ⟨hxwa6, hvwa6⟩ := Wh.over hswa5 zlen HQ16.out
          generalize wa5.setCells swa4 0 (q.map cell8) = wa6 at *
          have hBwa6 : SinceA w0 wa6 := below_grown hBwa5 hvwa6 hnswa4 (hBwa5).size
          have hgwa6 := Wh.grown hgwa5 hvwa6 (by intro e; have := Option.some.inj e; omega)
          have hrwa6 := Wh.grown hxwa5 hvwa6 (by intro e; have := Option.some.inj e; omega)
          refine hK.out _ _ hBwa6 (fun _ => ?_)
          clear hK K'
          refine wpAnyH_done (by kernel_rfl) ?_ _
          go_wp2_with fail
          go_meet
          exact ⟨rwa3, swa4, rfl, rfl, Lib.hid hrwa6, Lib.hid hxwa6, Lib.hid (hW0.trans ((hBwa6).mono hW0.size))⟩
        · refine wanted_goA rfl ?_
          go_simp
          rw [zeros16]
          obtain ⟨swa7, eswa7⟩ : ∃ r, r = wa2.heap.size := ⟨_, rfl⟩
          rw [← eswa7]
          have hbwa7 : SinceA wa2 (wa2.alloc (.cells (aRow (List.replicate 16 0)) 22)) := (Below.refl _ _).alloc (Nat.le_refl _) _
          have hxwa7 : Wh (wa2.alloc (.cells (aRow (List.replicate 16 0)) 22)) swa7 22 (aRow (List.replicate 16 0)) := by rw [eswa7]; exact Wh.new _ _ _
          have hnswa7 : w0.heap.size ≤ swa7 := by rw [eswa7]; exact (hBwa2).size
          generalize wa2.alloc (.cells (aRow (List.replicate 16 0)) 22) = wa7 at *
          have hBwa7 := SinceA.trans hBwa2 hbwa7
          have hgwa7 := SinceA.wh hbwa7 hgwa2
          have hdgs : g ≠ swa7 := by have := (hgwa2).lt; omega
          refine hK.out _ _ hBwa7 (fun _ => ?_)
          clear hK K' eswa7
          refine wpAnyH_ready (rs := [6]) (by kernel_rfl) (by simp) (AllReadyH.cons (List.getElem?_toArray.trans rfl) (fun K' hK => ?_) AllReadyH.nil)
          refine wanted_goA rfl ?_
          go_simp
          rw [zeros16]
          obtain ⟨rwa8, erwa8⟩ : ∃ r, r = wa7.heap.size := ⟨_, rfl⟩
          rw [← erwa8]
          have hbwa8 : SinceA wa7 (wa7.alloc (.cells (aRow (List.replicate 16 0)) 22)) := (Below.refl _ _).alloc (Nat.le_refl _) _
          have hxwa8 : Wh (wa7.alloc (.cells (aRow (List.replicate 16 0)) 22)) rwa8 22 (aRow (List.replicate 16 0)) := by rw [erwa8]; exact Wh.new _ _ _
          have hnrwa8 : w0.heap.size ≤ rwa8 := by rw [erwa8]; exact (hBwa7).size
          generalize wa7.alloc (.cells (aRow (List.replicate 16 0)) 22) = wa8 at *
          have hBwa8 := SinceA.trans hBwa7 hbwa8
          have hgwa8 := SinceA.wh hbwa8 hgwa7
          have hdgr : g ≠ rwa8 := by have := (hgwa7).lt; omega
          have hswa8 := SinceA.wh hbwa8 hxwa7
          have hdsr : swa7 ≠ rwa8 := by have := (hxwa7).lt; omega
          refine hK.out _ _ hBwa8 (fun _ => ?_)
          clear hK K' erwa8
          refine wpAnyH_ready (rs := [8]) (by kernel_rfl) (by simp) (AllReadyH.cons (List.getElem?_toArray.trans rfl) (fun K' hK => ?_) AllReadyH.nil)
          refine wanted_goA rfl ?_
          refine wp_store_mid 22 (.tmp 12) (.tmp 20) rfl rwa8 0 (aRow p) rfl rfl (by rw [aRow_size, HP16.out]; exact (hxwa8).there zlen) (info_aRow HP16.out) (aRow_one _) ?_
          rw [aRow_list]
          obtain ⟨hxwa9, hvwa9⟩ := Wh.over hxwa8 zlen HP16.out
          generalize wa8.setCells rwa8 0 (p.map cell8) = wa9 at *
          have hBwa9 : SinceA w0 wa9 := below_grown hBwa8 hvwa9 hnrwa8 (hBwa8).size
          have hgwa9 := Wh.grown hgwa8 hvwa9 (by intro e; have := Option.some.inj e; omega)
          have hswa9 := Wh.grown hswa8 hvwa9 (by intro e; have := Option.some.inj e; omega)
          refine hK.out _ _ hBwa9 (fun _ => ?_)
          clear hK K'
          refine wpAnyH_ready (rs := [9]) (by kernel_rfl) (by simp) (AllReadyH.cons (List.getElem?_toArray.trans rfl) (fun K' hK => ?_) AllReadyH.nil)
          refine wanted_goA rfl ?_
          refine wp_store_mid 22 (.tmp 13) (.tmp 23) rfl swa7 0 (aRow q) rfl rfl (by rw [aRow_size, HQ16.out]; exact (hswa9).there zlen) (info_aRow HQ16.out) (aRow_one _) ?_
          rw [aRow_list]
          obtain ⟨hxwa10, hvwa10⟩ := Wh.over hswa9 zlen HQ16.out
          generalize wa9.setCells swa7 0 (q.map cell8) = wa10 at *
          have hBwa10 : SinceA w0 wa10 := below_grown hBwa9 hvwa10 hnswa7 (hBwa9).size
          have hgwa10 := Wh.grown hgwa9 hvwa10 (by intro e; have := Option.some.inj e; omega)
          have hrwa10 := Wh.grown hxwa9 hvwa10 (by intro e; have := Option.some.inj e; omega)
          refine hK.out _ _ hBwa10 (fun _ => ?_)
          clear hK K'
          refine wpAnyH_done (by kernel_rfl) ?_ _
          go_wp2_with fail
          go_meet
          exact ⟨rwa8, swa7, rfl, rfl, Lib.hid hrwa10, Lib.hid hxwa10, Lib.hid (hW0.trans ((hBwa10).mono hW0.size))⟩
      · refine wanted_goA rfl ?_
        go_simp
        rw [zeros16]
        obtain ⟨rwa11, erwa11⟩ : ∃ r, r = wa1.heap.size := ⟨_, rfl⟩
        rw [← erwa11]
        have hbwa11 : SinceA wa1 (wa1.alloc (.cells (aRow (List.replicate 16 0)) 22)) := (Below.refl _ _).alloc (Nat.le_refl _) _
        have hxwa11 : Wh (wa1.alloc (.cells (aRow (List.replicate 16 0)) 22)) rwa11 22 (aRow (List.replicate 16 0)) := by rw [erwa11]; exact Wh.new _ _ _
        have hnrwa11 : w0.heap.size ≤ rwa11 := by rw [erwa11]; exact (hBwa1).size
        generalize wa1.alloc (.cells (aRow (List.replicate 16 0)) 22) = wa11 at *
        have hBwa11 := SinceA.trans hBwa1 hbwa11
        have hgwa11 := SinceA.wh hbwa11 hgwa1
        have hdgr : g ≠ rwa11 := by have := (hgwa1).lt; omega
        refine hK.out _ _ hBwa11 (fun _ => ?_)
        clear hK K' erwa11
        refine wpAnyH_ready (rs := [5, 7]) (by kernel_rfl) (by simp) (AllReadyH.cons (List.getElem?_toArray.trans rfl) (fun K' hK => ?_) (AllReadyH.cons (List.getElem?_toArray.trans rfl) (fun K' hK => ?_) AllReadyH.nil))
        · refine wanted_goA rfl ?_
          go_simp
          refine (HSB.out g wa11 hgwa11).mono ?_
          rintro e wa12 ⟨rfl, hbwa12⟩
          have hBwa12 := SinceA.trans hBwa11 hbwa12
          have hlgwa12 := (hgwa11).lt
          have hgwa12 := SinceA.wh hbwa12 hgwa11
          have hlrwa12 := (hxwa11).lt
          have hrwa12 := SinceA.wh hbwa12 hxwa11
          refine hK.out _ _ hBwa12 (fun _ => ?_)
          clear hK K'
          refine wpAnyH_ready (rs := [7]) (by kernel_rfl) (by simp) (AllReadyH.cons (List.getElem?_toArray.trans rfl) (fun K' hK => ?_) AllReadyH.nil)
          refine wanted_goA rfl ?_
          go_simp
          rw [zeros16]
          obtain ⟨swa13, eswa13⟩ : ∃ r, r = wa12.heap.size := ⟨_, rfl⟩
          rw [← eswa13]
          have hbwa13 : SinceA wa12 (wa12.alloc (.cells (aRow (List.replicate 16 0)) 22)) := (Below.refl _ _).alloc (Nat.le_refl _) _
          have hxwa13 : Wh (wa12.alloc (.cells (aRow (List.replicate 16 0)) 22)) swa13 22 (aRow (List.replicate 16 0)) := by rw [eswa13]; exact Wh.new _ _ _
          have hnswa13 : w0.heap.size ≤ swa13 := by rw [eswa13]; exact (hBwa12).size
          generalize wa12.alloc (.cells (aRow (List.replicate 16 0)) 22) = wa13 at *
          have hBwa13 := SinceA.trans hBwa12 hbwa13
          have hgwa13 := SinceA.wh hbwa13 hgwa12
          have hdgs : g ≠ swa13 := by have := (hgwa12).lt; omega
          have hrwa13 := SinceA.wh hbwa13 hrwa12
          have hdrs : rwa11 ≠ swa13 := by have := (hrwa12).lt; omega
          refine hK.out _ _ hBwa13 (fun _ => ?_)
          clear hK K' eswa13
          refine wpAnyH_ready (rs := [8]) (by kernel_rfl) (by simp) (AllReadyH.cons (List.getElem?_toArray.trans rfl) (fun K' hK => ?_) AllReadyH.nil)
          refine wanted_goA rfl ?_
          refine wp_store_mid 22 (.tmp 12) (.tmp 20) rfl rwa11 0 (aRow p) rfl rfl (by rw [aRow_size, HP16.out]; exact (hrwa13).there zlen) (info_aRow HP16.out) (aRow_one _) ?_
          rw [aRow_list]
          obtain ⟨hxwa14, hvwa14⟩ := Wh.over hrwa13 zlen HP16.out
          generalize wa13.setCells rwa11 0 (p.map cell8) = wa14 at *
          have hBwa14 : SinceA w0 wa14 := below_grown hBwa13 hvwa14 hnrwa11 (hBwa13).size
          have hgwa14 := Wh.grown hgwa13 hvwa14 (by intro e; have := Option.some.inj e; omega)
          have hswa14 := Wh.grown hxwa13 hvwa14 (by intro e; have := Option.some.inj e; omega)
          refine hK.out _ _ hBwa14 (fun _ => ?_)
          clear hK K'
          refine wpAnyH_ready (rs := [9]) (by kernel_rfl) (by simp) (AllReadyH.cons (List.getElem?_toArray.trans rfl) (fun K' hK => ?_) AllReadyH.nil)
          refine wanted_goA rfl ?_
          refine wp_store_mid 22 (.tmp 13) (.tmp 23) rfl swa13 0 (aRow q) rfl rfl (by rw [aRow_size, HQ16.out]; exact (hswa14).there zlen) (info_aRow HQ16.out) (aRow_one _) ?_
          rw [aRow_list]
          obtain ⟨hxwa15, hvwa15⟩ := Wh.over hswa14 zlen HQ16.out
          generalize wa14.setCells swa13 0 (q.map cell8) = wa15 at *
          have hBwa15 : SinceA w0 wa15 := below_grown hBwa14 hvwa15 hnswa13 (hBwa14).size
          have hgwa15 := Wh.grown hgwa14 hvwa15 (by intro e; have := Option.some.inj e; omega)
          have hrwa15 := Wh.grown hxwa14 hvwa15 (by intro e; have := Option.some.inj e; omega)
          refine hK.out _ _ hBwa15 (fun _ => ?_)
          clear hK K'
          refine wpAnyH_done (by kernel_rfl) ?_ _
          go_wp2_with fail
          go_meet
          exact ⟨rwa11, swa13, rfl, rfl, Lib.hid hrwa15, Lib.hid hxwa15, Lib.hid (hW0.trans ((hBwa15).mono hW0.size))⟩
        · refine wanted_goA rfl ?_
          go_simp
          rw [zeros16]
          obtain ⟨swa16, eswa16⟩ : ∃ r, r = wa11.heap.size := ⟨_, rfl⟩
          rw [← eswa16]
          have hbwa16 : SinceA wa11 (wa11.alloc (.cells (aRow (List.replicate 16 0)) 22)) := (Below.refl _ _).alloc (Nat.le_refl _) _
          have hxwa16 : Wh (wa11.alloc (.cells (aRow (List.replicate 16 0)) 22)) swa16 22 (aRow (List.replicate 16 0)) := by rw [eswa16]; exact Wh.new _ _ _
          have hnswa16 : w0.heap.size ≤ swa16 := by rw [eswa16]; exact (hBwa11).size
          generalize wa11.alloc (.cells (aRow (List.replicate 16 0)) 22) = wa16 at *
          have hBwa16 := SinceA.trans hBwa11 hbwa16
          have hgwa16 := SinceA.wh hbwa16 hgwa11
          have hdgs : g ≠ swa16 := by have := (hgwa11).lt; omega
          have hrwa16 := SinceA.wh hbwa16 hxwa11
          have hdrs : rwa11 ≠ swa16 := by have := (hxwa11).lt; omega
          refine hK.out _ _ hBwa16 (fun _ => ?_)
          clear hK K' eswa16
          refine wpAnyH_ready (rs := [5]) (by kernel_rfl) (by simp) (AllReadyH.cons (List.getElem?_toArray.trans rfl) (fun K' hK => ?_) AllReadyH.nil)
          refine wanted_goA rfl ?_
          go_simp
          refine (HSB.out g wa16 hgwa16).mono ?_
          rintro e wa17 ⟨rfl, hbwa17⟩
          have hBwa17 := SinceA.trans hBwa16 hbwa17
          have hlgwa17 := (hgwa16).lt
          have hgwa17 := SinceA.wh hbwa17 hgwa16
          have hlrwa17 := (hrwa16).lt
          have hrwa17 := SinceA.wh hbwa17 hrwa16
          have hlswa17 := (hxwa16).lt
          have hswa17 := SinceA.wh hbwa17 hxwa16
          refine hK.out _ _ hBwa17 (fun _ => ?_)
          clear hK K'
          refine wpAnyH_ready (rs := [8]) (by kernel_rfl) (by simp) (AllReadyH.cons (List.getElem?_toArray.trans rfl) (fun K' hK => ?_) AllReadyH.nil)
          refine wanted_goA rfl ?_
          refine wp_store_mid 22 (.tmp 12) (.tmp 20) rfl rwa11 0 (aRow p) rfl rfl (by rw [aRow_size, HP16.out]; exact (hrwa17).there zlen) (info_aRow HP16.out) (aRow_one _) ?_
          rw [aRow_list]
          obtain ⟨hxwa18, hvwa18⟩ := Wh.over hrwa17 zlen HP16.out
          generalize wa17.setCells rwa11 0 (p.map cell8) = wa18 at *
          have hBwa18 : SinceA w0 wa18 := below_grown hBwa17 hvwa18 hnrwa11 (hBwa17).size
          have hgwa18 := Wh.grown hgwa17 hvwa18 (by intro e; have := Option.some.inj e; omega)
          have hswa18 := Wh.grown hswa17 hvwa18 (by intro e; have := Option.some.inj e; omega)
          refine hK.out _ _ hBwa18 (fun _ => ?_)
          clear hK K'
          refine wpAnyH_ready (rs := [9]) (by kernel_rfl) (by simp) (AllReadyH.cons (List.getElem?_toArray.trans rfl) (fun K' hK => ?_) AllReadyH.nil)
          refine wanted_goA rfl ?_
          refine wp_store_mid 22 (.tmp 13) (.tmp 23) rfl swa16 0 (aRow q) rfl rfl (by rw [aRow_size, HQ16.out]; exact (hswa18).there zlen) (info_aRow HQ16.out) (aRow_one _) ?_
          rw [aRow_list]
          obtain ⟨hxwa19, hvwa19⟩ := Wh.over hswa18 zlen HQ16.out
          generalize wa18.setCells swa16 0 (q.map cell8) = wa19 at *
          have hBwa19 : SinceA w0 wa19 := below_grown hBwa18 hvwa19 hnswa16 (hBwa18).size
          have hgwa19 := Wh.grown hgwa18 hvwa19 (by intro e; have := Option.some.inj e; omega)
          have hrwa19 := Wh.grown hxwa18 hvwa19 (by intro e; have := Option.some.inj e; omega)
          refine hK.out _ _ hBwa19 (fun _ => ?_)
          clear hK K'
          refine wpAnyH_done (by kernel_rfl) ?_ _
          go_wp2_with fail
          go_meet
          exact ⟨rwa11, swa16, rfl, rfl, Lib.hid hrwa19, Lib.hid hxwa19, Lib.hid (hW0.trans ((hBwa19).mono hW0.size))⟩
      · refine wanted_goA rfl ?_
        go_simp
        rw [zeros16]
        obtain ⟨swa20, eswa20⟩ : ∃ r, r = wa1.heap.size := ⟨_, rfl⟩
        rw [← eswa20]
        have hbwa20 : SinceA wa1 (wa1.alloc (.cells (aRow (List.replicate 16 0)) 22)) := (Below.refl _ _).alloc (Nat.le_refl _) _
        have hxwa20 : Wh (wa1.alloc (.cells (aRow (List.replicate 16 0)) 22)) swa20 22 (aRow (List.replicate 16 0)) := by rw [eswa20]; exact Wh.new _ _ _
        have hnswa20 : w0.heap.size ≤ swa20 := by rw [eswa20]; exact (hBwa1).size
        generalize wa1.alloc (.cells (aRow (List.replicate 16 0)) 22) = wa20 at *
        have hBwa20 := SinceA.trans hBwa1 hbwa20
        have hgwa20 := SinceA.wh hbwa20 hgwa1
        have hdgs : g ≠ swa20 := by have := (hgwa1).lt; omega
        refine hK.out _ _ hBwa20 (fun _ => ?_)
        clear hK K' eswa20
        refine wpAnyH_ready (rs := [5, 6]) (by kernel_rfl) (by simp) (AllReadyH.cons (List.getElem?_toArray.trans rfl) (fun K' hK => ?_) (AllReadyH.cons (List.getElem?_toArray.trans rfl) (fun K' hK => ?_) AllReadyH.nil))
        · refine wanted_goA rfl ?_
          go_simp
          refine (HSB.out g wa20 hgwa20).mono ?_
          rintro e wa21 ⟨rfl, hbwa21⟩
          have hBwa21 := SinceA.trans hBwa20 hbwa21
          have hlgwa21 := (hgwa20).lt
          have hgwa21 := SinceA.wh hbwa21 hgwa20
          have hlswa21 := (hxwa20).lt
          have hswa21 := SinceA.wh hbwa21 hxwa20
          refine hK.out _ _ hBwa21 (fun _ => ?_)
          clear hK K'
          refine wpAnyH_ready (rs := [6]) (by kernel_rfl) (by simp) (AllReadyH.cons (List.getElem?_toArray.trans rfl) (fun K' hK => ?_) AllReadyH.nil)
          refine wanted_goA rfl ?_
          go_simp
          rw [zeros16]
          obtain ⟨rwa22, erwa22⟩ : ∃ r, r = wa21.heap.size := ⟨_, rfl⟩
          rw [← erwa22]
          have hbwa22 : SinceA wa21 (wa21.alloc (.cells (aRow (List.replicate 16 0)) 22)) := (Below.refl _ _).alloc (Nat.le_refl _) _
          have hxwa22 : Wh (wa21.alloc (.cells (aRow (List.replicate 16 0)) 22)) rwa22 22 (aRow (List.replicate 16 0)) := by rw [erwa22]; exact Wh.new _ _ _
          have hnrwa22 : w0.heap.size ≤ rwa22 := by rw [erwa22]; exact (hBwa21).size
          generalize wa21.alloc (.cells (aRow (List.replicate 16 0)) 22) = wa22 at *
          have hBwa22 := SinceA.trans hBwa21 hbwa22
          have hgwa22 := SinceA.wh hbwa22 hgwa21
          have hdgr : g ≠ rwa22 := by have := (hgwa21).lt; omega
          have hswa22 := SinceA.wh hbwa22 hswa21
          have hdsr : swa20 ≠ rwa22 := by have := (hswa21).lt; omega
          refine hK.out _ _ hBwa22 (fun _ => ?_)
          clear hK K' erwa22
          refine wpAnyH_ready (rs := [8]) (by kernel_rfl) (by simp) (AllReadyH.cons (List.getElem?_toArray.trans rfl) (fun K' hK => ?_) AllReadyH.nil)
          refine wanted_goA rfl ?_
          refine wp_store_mid 22 (.tmp 12) (.tmp 20) rfl rwa22 0 (aRow p) rfl rfl (by rw [aRow_size, HP16.out]; exact (hxwa22).there zlen) (info_aRow HP16.out) (aRow_one _) ?_
          rw [aRow_list]
          obtain ⟨hxwa23, hvwa23⟩ := Wh.over hxwa22 zlen HP16.out
          generalize wa22.setCells rwa22 0 (p.map cell8) = wa23 at *
          have hBwa23 : SinceA w0 wa23 := below_grown hBwa22 hvwa23 hnrwa22 (hBwa22).size
          have hgwa23 := Wh.grown hgwa22 hvwa23 (by intro e; have := Option.some.inj e; omega)
          have hswa23 := Wh.grown hswa22 hvwa23 (by intro e; have := Option.some.inj e; omega)
          refine hK.out _ _ hBwa23 (fun _ => ?_)
          clear hK K'
          refine wpAnyH_ready (rs := [9]) (by kernel_rfl) (by simp) (AllReadyH.cons (List.getElem?_toArray.trans rfl) (fun K' hK => ?_) AllReadyH.nil)
          refine wanted_goA rfl ?_
          refine wp_store_mid 22 (.tmp 13) (.tmp 23) rfl swa20 0 (aRow q) rfl rfl (by rw [aRow_size, HQ16.out]; exact (hswa23).there zlen) (info_aRow HQ16.out) (aRow_one _) ?_
          rw [aRow_list]
          obtain ⟨hxwa24, hvwa24⟩ := Wh.over hswa23 zlen HQ16.out
          generalize wa23.setCells swa20 0 (q.map cell8) = wa24 at *
          have hBwa24 : SinceA w0 wa24 := below_grown hBwa23 hvwa24 hnswa20 (hBwa23).size
          have hgwa24 := Wh.grown hgwa23 hvwa24 (by intro e; have := Option.some.inj e; omega)
          have hrwa24 := Wh.grown hxwa23 hvwa24 (by intro e; have := Option.some.inj e; omega)
          refine hK.out _ _ hBwa24 (fun _ => ?_)
          clear hK K'
          refine wpAnyH_done (by kernel_rfl) ?_ _
          go_wp2_with fail
          go_meet
          exact ⟨rwa22, swa20, rfl, rfl, Lib.hid hrwa24, Lib.hid hxwa24, Lib.hid (hW0.trans ((hBwa24).mono hW0.size))⟩
        · refine wanted_goA rfl ?_
          go_simp
          rw [zeros16]
          obtain ⟨rwa25, erwa25⟩ : ∃ r, r = wa20.heap.size := ⟨_, rfl⟩
          rw [← erwa25]
          have hbwa25 : SinceA wa20 (wa20.alloc (.cells (aRow (List.replicate 16 0)) 22)) := (Below.refl _ _).alloc (Nat.le_refl _) _
          have hxwa25 : Wh (wa20.alloc (.cells (aRow (List.replicate 16 0)) 22)) rwa25 22 (aRow (List.replicate 16 0)) := by rw [erwa25]; exact Wh.new _ _ _
          have hnrwa25 : w0.heap.size ≤ rwa25 := by rw [erwa25]; exact (hBwa20).size
          generalize wa20.alloc (.cells (aRow (List.replicate 16 0)) 22) = wa25 at *
          have hBwa25 := SinceA.trans hBwa20 hbwa25
          have hgwa25 := SinceA.wh hbwa25 hgwa20
          have hdgr : g ≠ rwa25 := by have := (hgwa20).lt; omega
          have hswa25 := SinceA.wh hbwa25 hxwa20
          have hdsr : swa20 ≠ rwa25 := by have := (hxwa20).lt; omega
          refine hK.out _ _ hBwa25 (fun _ => ?_)
          clear hK K' erwa25
          refine wpAnyH_ready (rs := [5]) (by kernel_rfl) (by simp) (AllReadyH.cons (List.getElem?_toArray.trans rfl) (fun K' hK => ?_) AllReadyH.nil)
          refine wanted_goA rfl ?_
          go_simp
          refine (HSB.out g wa25 hgwa25).mono ?_
          rintro e wa26 ⟨rfl, hbwa26⟩
          have hBwa26 := SinceA.trans hBwa25 hbwa26
          have hlgwa26 := (hgwa25).lt
          have hgwa26 := SinceA.wh hbwa26 hgwa25
          have hlswa26 := (hswa25).lt
          have hswa26 := SinceA.wh hbwa26 hswa25
          have hlrwa26 := (hxwa25).lt
          have hrwa26 := SinceA.wh hbwa26 hxwa25
          refine hK.out _ _ hBwa26 (fun _ => ?_)
          clear hK K'
          refine wpAnyH_ready (rs := [8]) (by kernel_rfl) (by simp) (AllReadyH.cons (List.getElem?_toArray.trans rfl) (fun K' hK => ?_) AllReadyH.nil)
          refine wanted_goA rfl ?_
          refine wp_store_mid 22 (.tmp 12) (.tmp 20) rfl rwa25 0 (aRow p) rfl rfl (by rw [aRow_size, HP16.out]; exact (hrwa26).there zlen) (info_aRow HP16.out) (aRow_one _) ?_
          rw [aRow_list]
          obtain ⟨hxwa27, hvwa27⟩ := Wh.over hrwa26 zlen HP16.out
          generalize wa26.setCells rwa25 0 (p.map cell8) = wa27 at *
          have hBwa27 : SinceA w0 wa27 := below_grown hBwa26 hvwa27 hnrwa25 (hBwa26).size
          have hgwa27 := Wh.grown hgwa26 hvwa27 (by intro e; have := Option.some.inj e; omega)
          have hswa27 := Wh.grown hswa26 hvwa27 (by intro e; have := Option.some.inj e; omega)
          refine hK.out _ _ hBwa27 (fun _ => ?_)
          clear hK K'
          refine wpAnyH_ready (rs := [9]) (by kernel_rfl) (by simp) (AllReadyH.cons (List.getElem?_toArray.trans rfl) (fun K' hK => ?_) AllReadyH.nil)
          refine wanted_goA rfl ?_
          refine wp_store_mid 22 (.tmp 13) (.tmp 23) rfl swa20 0 (aRow q) rfl rfl (by rw [aRow_size, HQ16.out]; exact (hswa27).there zlen) (info_aRow HQ16.out) (aRow_one _) ?_
          rw [aRow_list]
          obtain ⟨hxwa28, hvwa28⟩ := Wh.over hswa27 zlen HQ16.out
          generalize wa27.setCells swa20 0 (q.map cell8) = wa28 at *
          have hBwa28 : SinceA w0 wa28 := below_grown hBwa27 hvwa28 hnswa20 (hBwa27).size
          have hgwa28 := Wh.grown hgwa27 hvwa28 (by intro e; have := Option.some.inj e; omega)
          have hrwa28 := Wh.grown hxwa27 hvwa28 (by intro e; have := Option.some.inj e; omega)
          refine hK.out _ _ hBwa28 (fun _ => ?_)
          clear hK K'
          refine wpAnyH_done (by kernel_rfl) ?_ _
          go_wp2_with fail
          go_meet
          exact ⟨rwa25, swa20, rfl, rfl, Lib.hid hrwa28, Lib.hid hxwa28, Lib.hid (hW0.trans ((hBwa28).mono hW0.size))⟩
    · refine wanted_goA rfl ?_
      go_simp
      rw [zeros16]
      obtain ⟨rwa29, erwa29⟩ : ∃ r, r = w0.heap.size := ⟨_, rfl⟩
      rw [← erwa29]
      have hbwa29 : SinceA w0 (w0.alloc (.cells (aRow (List.replicate 16 0)) 22)) := (Below.refl _ _).alloc (Nat.le_refl _) _
      have hxwa29 : Wh (w0.alloc (.cells (aRow (List.replicate 16 0)) 22)) rwa29 22 (aRow (List.replicate 16 0)) := by rw [erwa29]; exact Wh.new _ _ _
      have hnrwa29 : w0.heap.size ≤ rwa29 := by rw [erwa29]; exact ((SinceA.self w0)).size
      generalize w0.alloc (.cells (aRow (List.replicate 16 0)) 22) = wa29 at *
      have hBwa29 := SinceA.trans (SinceA.self w0) hbwa29
      have hgwa29 := SinceA.wh hbwa29 hG
      have hdgr : g ≠ rwa29 := by have := (hG).lt; omega
      refine hK.out _ _ hBwa29 (fun _ => ?_)
      clear hK K' erwa29
      refine wpAnyH_ready (rs := [2, 7]) (by kernel_rfl) (by simp) (AllReadyH.cons (List.getElem?_toArray.trans rfl) (fun K' hK => ?_) (AllReadyH.cons (List.getElem?_toArray.trans rfl) (fun K' hK => ?_) AllReadyH.nil))
      · refine wanted_goA rfl ?_
        go_simp
        refine (HSA.out g wa29 hgwa29).mono ?_
        rintro e wa30 ⟨rfl, hbwa30⟩
        have hBwa30 := SinceA.trans hBwa29 hbwa30
        have hlgwa30 := (hgwa29).lt
        have hgwa30 := SinceA.wh hbwa30 hgwa29
        have hlrwa30 := (hxwa29).lt
        have hrwa30 := SinceA.wh hbwa30 hxwa29
        refine hK.out _ _ hBwa30 (fun _ => ?_)
        clear hK K'
        refine wpAnyH_ready (rs := [5, 7]) (by kernel_rfl) (by simp) (AllReadyH.cons (List.getElem?_toArray.trans rfl) (fun K' hK => ?_) (AllReadyH.cons (List.getElem?_toArray.trans rfl) (fun K' hK => ?_) AllReadyH.nil))
        · refine wanted_goA rfl ?_
          go_simp
          refine (HSB.out g wa30 hgwa30).mono ?_
          rintro e wa31 ⟨rfl, hbwa31⟩
          have hBwa31 := SinceA.trans hBwa30 hbwa31
          have hlgwa31 := (hgwa30).lt
          have hgwa31 := SinceA.wh hbwa31 hgwa30
          have hlrwa31 := (hrwa30).lt
          have hrwa31 := SinceA.wh hbwa31 hrwa30
          refine hK.out _ _ hBwa31 (fun _ => ?_)
          clear hK K'
          refine wpAnyH_ready (rs := [7]) (by kernel_rfl) (by simp) (AllReadyH.cons (List.getElem?_toArray.trans rfl) (fun K' hK => ?_) AllReadyH.nil)
          refine wanted_goA rfl ?_
          go_simp
          rw [zeros16]
          obtain ⟨swa32, eswa32⟩ : ∃ r, r = wa31.heap.size := ⟨_, rfl⟩
          rw [← eswa32]
          have hbwa32 : SinceA wa31 (wa31.alloc (.cells (aRow (List.replicate 16 0)) 22)) := (Below.refl _ _).alloc (Nat.le_refl _) _
          have hxwa32 : Wh (wa31.alloc (.cells (aRow (List.replicate 16 0)) 22)) swa32 22 (aRow (List.replicate 16 0)) := by rw [eswa32]; exact Wh.new _ _ _
          have hnswa32 : w0.heap.size ≤ swa32 := by rw [eswa32]; exact (hBwa31).size
          generalize wa31.alloc (.cells (aRow (List.replicate 16 0)) 22) = wa32 at *
          have hBwa32 := SinceA.trans hBwa31 hbwa32
          have hgwa32 := SinceA.wh hbwa32 hgwa31
          have hdgs : g ≠ swa32 := by have := (hgwa31).lt; omega
          have hrwa32 := SinceA.wh hbwa32 hrwa31
          have hdrs : rwa29 ≠ swa32 := by have := (hrwa31).lt; omega
          refine hK.out _ _ hBwa32 (fun _ => ?_)
          clear hK K' eswa32
          refine wpAnyH_ready (rs := [8]) (by kernel_rfl) (by simp) (AllReadyH.cons (List.getElem?_toArray.trans rfl) (fun K' hK => ?_) AllReadyH.nil)
          refine wanted_goA rfl ?_
          refine wp_store_mid 22 (.tmp 12) (.tmp 20) rfl rwa29 0 (aRow p) rfl rfl (by rw [aRow_size, HP16.out]; exact (hrwa32).there zlen) (info_aRow HP16.out) (aRow_one _) ?_
          rw [aRow_list]
          obtain ⟨hxwa33, hvwa33⟩ := Wh.over hrwa32 zlen HP16.out
          generalize wa32.setCells rwa29 0 (p.map cell8) = wa33 at *
          have hBwa33 : SinceA w0 wa33 := below_grown hBwa32 hvwa33 hnrwa29 (hBwa32).size
          have hgwa33 := Wh.grown hgwa32 hvwa33 (by intro e; have := Option.some.inj e; omega)
          have hswa33 := Wh.grown hxwa32 hvwa33 (by intro e; have := Option.some.inj e; omega)
          refine hK.out _ _ hBwa33 (fun _ => ?_)
          clear hK K'
          refine wpAnyH_ready (rs := [9]) (by kernel_rfl) (by simp) (AllReadyH.cons (List.getElem?_toArray.trans rfl) (fun K' hK => ?_) AllReadyH.nil)
          refine wanted_goA rfl ?_
          refine wp_store_mid 22 (.tmp 13) (.tmp 23) rfl swa32 0 (aRow q) rfl rfl (by rw [aRow_size, HQ16.out]; exact (hswa33).there zlen) (info_aRow HQ16.out) (aRow_one _) ?_
          rw [aRow_list]
          obtain ⟨hxwa34, hvwa34⟩ := Wh.over hswa33 zlen HQ16.out
          generalize wa33.setCells swa32 0 (q.map cell8) = wa34 at *
          have hBwa34 : SinceA w0 wa34 := below_grown hBwa33 hvwa34 hnswa32 (hBwa33).size
          have hgwa34 := Wh.grown hgwa33 hvwa34 (by intro e; have := Option.some.inj e; omega)
          have hrwa34 := Wh.grown hxwa33 hvwa34 (by intro e; have := Option.some.inj e; omega)
          refine hK.out _ _ hBwa34 (fun _ => ?_)
          clear hK K'
          refine wpAnyH_done (by kernel_rfl) ?_ _
          go_wp2_with fail
          go_meet
          exact ⟨rwa29, swa32, rfl, rfl, Lib.hid hrwa34, Lib.hid hxwa34, Lib.hid (hW0.trans ((hBwa34).mono hW0.size))⟩
        · refine wanted_goA rfl ?_
          go_simp
          rw [zeros16]
          obtain ⟨swa35, eswa35⟩ : ∃ r, r = wa30.heap.size := ⟨_, rfl⟩
          rw [← eswa35]
          have hbwa35 : SinceA wa30 (wa30.alloc (.cells (aRow (List.replicate 16 0)) 22)) := (Below.refl _ _).alloc (Nat.le_refl _) _
          have hxwa35 : Wh (wa30.alloc (.cells (aRow (List.replicate 16 0)) 22)) swa35 22 (aRow (List.replicate 16 0)) := by rw [eswa35]; exact Wh.new _ _ _
          have hnswa35 : w0.heap.size ≤ swa35 := by rw [eswa35]; exact (hBwa30).size
          generalize wa30.alloc (.cells (aRow (List.replicate 16 0)) 22) = wa35 at *
          have hBwa35 := SinceA.trans hBwa30 hbwa35
          have hgwa35 := SinceA.wh hbwa35 hgwa30
          have hdgs : g ≠ swa35 := by have := (hgwa30).lt; omega
          have hrwa35 := SinceA.wh hbwa35 hrwa30
          have hdrs : rwa29 ≠ swa35 := by have := (hrwa30).lt; omega
          refine hK.out _ _ hBwa35 (fun _ => ?_)
          clear hK K' eswa35
          refine wpAnyH_ready (rs := [5]) (by kernel_rfl) (by simp) (AllReadyH.cons (List.getElem?_toArray.trans rfl) (fun K' hK => ?_) AllReadyH.nil)
          refine wanted_goA rfl ?_
          go_simp
          refine (HSB.out g wa35 hgwa35).mono ?_
          rintro e wa36 ⟨rfl, hbwa36⟩
          have hBwa36 := SinceA.trans hBwa35 hbwa36
          have hlgwa36 := (hgwa35).lt
          have hgwa36 := SinceA.wh hbwa36 hgwa35
          have hlrwa36 := (hrwa35).lt
          have hrwa36 := SinceA.wh hbwa36 hrwa35
          have hlswa36 := (hxwa35).lt
          have hswa36 := SinceA.wh hbwa36 hxwa35
          refine hK.out _ _ hBwa36 (fun _ => ?_)
          clear hK K'
          refine wpAnyH_ready (rs := [8]) (by kernel_rfl) (by simp) (AllReadyH.cons (List.getElem?_toArray.trans rfl) (fun K' hK => ?_) AllReadyH.nil)
          refine wanted_goA rfl ?_
          refine wp_store_mid 22 (.tmp 12) (.tmp 20) rfl rwa29 0 (aRow p) rfl rfl (by rw [aRow_size, HP16.out]; exact (hrwa36).there zlen) (info_aRow HP16.out) (aRow_one _) ?_
          rw [aRow_list]
          obtain ⟨hxwa37, hvwa37⟩ := Wh.over hrwa36 zlen HP16.out
          generalize wa36.setCells rwa29 0 (p.map cell8) = wa37 at *
          have hBwa37 : SinceA w0 wa37 := below_grown hBwa36 hvwa37 hnrwa29 (hBwa36).size
          have hgwa37 := Wh.grown hgwa36 hvwa37 (by intro e; have := Option.some.inj e; omega)
          have hswa37 := Wh.grown hswa36 hvwa37 (by intro e; have := Option.some.inj e; omega)
          refine hK.out _ _ hBwa37 (fun _ => ?_)
          clear hK K'
          refine wpAnyH_ready (rs := [9]) (by kernel_rfl) (by simp) (AllReadyH.cons (List.getElem?_toArray.trans rfl) (fun K' hK => ?_) AllReadyH.nil)
          refine wanted_goA rfl ?_
          refine wp_store_mid 22 (.tmp 13) (.tmp 23) rfl swa35 0 (aRow q) rfl rfl (by rw [aRow_size, HQ16.out]; exact (hswa37).there zlen) (info_aRow HQ16.out) (aRow_one _) ?_
          rw [aRow_list]
          obtain ⟨hxwa38, hvwa38⟩ := Wh.over hswa37 zlen HQ16.out
          generalize wa37.setCells swa35 0 (q.map cell8) = wa38 at *
          have hBwa38 : SinceA w0 wa38 := below_grown hBwa37 hvwa38 hnswa35 (hBwa37).size
          have hgwa38 := Wh.grown hgwa37 hvwa38 (by intro e; have := Option.some.inj e; omega)
          have hrwa38 := Wh.grown hxwa37 hvwa38 (by intro e; have := Option.some.inj e; omega)
          refine hK.out _ _ hBwa38 (fun _ => ?_)
          clear hK K'
          refine wpAnyH_done (by kernel_rfl) ?_ _
          go_wp2_with fail
          go_meet
          exact ⟨rwa29, swa35, rfl, rfl, Lib.hid hrwa38, Lib.hid hxwa38, Lib.hid (hW0.trans ((hBwa38).mono hW0.size))⟩
      · refine wanted_goA rfl ?_
        go_simp
        rw [zeros16]
        obtain ⟨swa39, eswa39⟩ : ∃ r, r = wa29.heap.size := ⟨_, rfl⟩
        rw [← eswa39]
        have hbwa39 : SinceA wa29 (wa29.alloc (.cells (aRow (List.replicate 16 0)) 22)) := (Below.refl _ _).alloc (Nat.le_refl _) _
        have hxwa39 : Wh (wa29.alloc (.cells (aRow (List.replicate 16 0)) 22)) swa39 22 (aRow (List.replicate 16 0)) := by rw [eswa39]; exact Wh.new _ _ _
        have hnswa39 : w0.heap.size ≤ swa39 := by rw [eswa39]; exact (hBwa29).size
        generalize wa29.alloc (.cells (aRow (List.replicate 16 0)) 22) = wa39 at *
        have hBwa39 := SinceA.trans hBwa29 hbwa39
        have hgwa39 := SinceA.wh hbwa39 hgwa29
        have hdgs : g ≠ swa39 := by have := (hgwa29).lt; omega
        have hrwa39 := SinceA.wh hbwa39 hxwa29
        have hdrs : rwa29 ≠ swa39 := by have := (hxwa29).lt; omega
        refine hK.out _ _ hBwa39 (fun _ => ?_)
        clear hK K' eswa39
        refine wpAnyH_ready (rs := [2]) (by kernel_rfl) (by simp) (AllReadyH.cons (List.getElem?_toArray.trans rfl) (fun K' hK => ?_) AllReadyH.nil)
        refine wanted_goA rfl ?_
        go_simp
        refine (HSA.out g wa39 hgwa39).mono ?_
        rintro e wa40 ⟨rfl, hbwa40⟩
        have hBwa40 := SinceA.trans hBwa39 hbwa40
        have hlgwa40 := (hgwa39).lt
        have hgwa40 := SinceA.wh hbwa40 hgwa39
        have hlrwa40 := (hrwa39).lt
        have hrwa40 := SinceA.wh hbwa40 hrwa39
        have hlswa40 := (hxwa39).lt
        have hswa40 := SinceA.wh hbwa40 hxwa39
        refine hK.out _ _ hBwa40 (fun _ => ?_)
        clear hK K'
        refine wpAnyH_ready (rs := [5]) (by kernel_rfl) (by simp) (AllReadyH.cons (List.getElem?_toArray.trans rfl) (fun K' hK => ?_) AllReadyH.nil)
        refine wanted_goA rfl ?_
        go_simp
        refine (HSB.out g wa40 hgwa40).mono ?_
        rintro e wa41 ⟨rfl, hbwa41⟩
        have hBwa41 := SinceA.trans hBwa40 hbwa41
        have hlgwa41 := (hgwa40).lt
        have hgwa41 := SinceA.wh hbwa41 hgwa40
        have hlrwa41 := (hrwa40).lt
        have hrwa41 := SinceA.wh hbwa41 hrwa40
        have hlswa41 := (hswa40).lt
        have hswa41 := SinceA.wh hbwa41 hswa40
        refine hK.out _ _ hBwa41 (fun _ => ?_)
        clear hK K'
        refine wpAnyH_ready (rs := [8]) (by kernel_rfl) (by simp) (AllReadyH.cons (List.getElem?_toArray.trans rfl) (fun K' hK => ?_) AllReadyH.nil)
        refine wanted_goA rfl ?_
        refine wp_store_mid 22 (.tmp 12) (.tmp 20) rfl rwa29 0 (aRow p) rfl rfl (by rw [aRow_size, HP16.out]; exact (hrwa41).there zlen) (info_aRow HP16.out) (aRow_one _) ?_
        rw [aRow_list]
        obtain ⟨hxwa42, hvwa42⟩ := Wh.over hrwa41 zlen HP16.out
        generalize wa41.setCells rwa29 0 (p.map cell8) = wa42 at *
        have hBwa42 : SinceA w0 wa42 := below_grown hBwa41 hvwa42 hnrwa29 (hBwa41).size
        have hgwa42 := Wh.grown hgwa41 hvwa42 (by intro e; have := Option.some.inj e; omega)
        have hswa42 := Wh.grown hswa41 hvwa42 (by intro e; have := Option.some.inj e; omega)
        refine hK.out _ _ hBwa42 (fun _ => ?_)
        clear hK K'
        refine wpAnyH_ready (rs := [9]) (by kernel_rfl) (by simp) (AllReadyH.cons (List.getElem?_toArray.trans rfl) (fun K' hK => ?_) AllReadyH.nil)
        refine wanted_goA rfl ?_
        refine wp_store_mid 22 (.tmp 13) (.tmp 23) rfl swa39 0 (aRow q) rfl rfl (by rw [aRow_size, HQ16.out]; exact (hswa42).there zlen) (info_aRow HQ16.out) (aRow_one _) ?_
        rw [aRow_list]
        obtain ⟨hxwa43, hvwa43⟩ := Wh.over hswa42 zlen HQ16.out
        generalize wa42.setCells swa39 0 (q.map cell8) = wa43 at *
        have hBwa43 : SinceA w0 wa43 := below_grown hBwa42 hvwa43 hnswa39 (hBwa42).size
        have hgwa43 := Wh.grown hgwa42 hvwa43 (by intro e; have := Option.some.inj e; omega)
        have hrwa43 := Wh.grown hxwa42 hvwa43 (by intro e; have := Option.some.inj e; omega)
        refine hK.out _ _ hBwa43 (fun _ => ?_)
        clear hK K'
        refine wpAnyH_done (by kernel_rfl) ?_ _
        go_wp2_with fail
        go_meet
        exact ⟨rwa29, swa39, rfl, rfl, Lib.hid hrwa43, Lib.hid hxwa43, Lib.hid (hW0.trans ((hBwa43).mono hW0.size))⟩
    · refine wanted_goA rfl ?_
      go_simp
      rw [zeros16]
      obtain ⟨swa44, eswa44⟩ : ∃ r, r = w0.heap.size := ⟨_, rfl⟩
      rw [← eswa44]
      have hbwa44 : SinceA w0 (w0.alloc (.cells (aRow (List.replicate 16 0)) 22)) := (Below.refl _ _).alloc (Nat.le_refl _) _
      have hxwa44 : Wh (w0.alloc (.cells (aRow (List.replicate 16 0)) 22)) swa44 22 (aRow (List.replicate 16 0)) := by rw [eswa44]; exact Wh.new _ _ _
      have hnswa44 : w0.heap.size ≤ swa44 := by rw [eswa44]; exact ((SinceA.self w0)).size
      generalize w0.alloc (.cells (aRow (List.replicate 16 0)) 22) = wa44 at *
      have hBwa44 := SinceA.trans (SinceA.self w0) hbwa44
      have hgwa44 := SinceA.wh hbwa44 hG
      have hdgs : g ≠ swa44 := by have := (hG).lt; omega
      refine hK.out _ _ hBwa44 (fun _ => ?_)
      clear hK K' eswa44
      refine wpAnyH_ready (rs := [2, 6]) (by kernel_rfl) (by simp) (AllReadyH.cons (List.getElem?_toArray.trans rfl) (fun K' hK => ?_) (AllReadyH.cons (List.getElem?_toArray.trans rfl) (fun K' hK => ?_) AllReadyH.nil))
      · refine wanted_goA rfl ?_
        go_simp
        refine (HSA.out g wa44 hgwa44).mono ?_
        rintro e wa45 ⟨rfl, hbwa45⟩
        have hBwa45 := SinceA.trans hBwa44 hbwa45
        have hlgwa45 := (hgwa44).lt
        have hgwa45 := SinceA.wh hbwa45 hgwa44
        have hlswa45 := (hxwa44).lt
        have hswa45 := SinceA.wh hbwa45 hxwa44
        refine hK.out _ _ hBwa45 (fun _ => ?_)
        clear hK K'
        refine wpAnyH_ready (rs := [5, 6]) (by kernel_rfl) (by simp) (AllReadyH.cons (List.getElem?_toArray.trans rfl) (fun K' hK => ?_) (AllReadyH.cons (List.getElem?_toArray.trans rfl) (fun K' hK => ?_) AllReadyH.nil))
        · refine wanted_goA rfl ?_
          go_simp
          refine (HSB.out g wa45 hgwa45).mono ?_
          rintro e wa46 ⟨rfl, hbwa46⟩
          have hBwa46 := SinceA.trans hBwa45 hbwa46
          have hlgwa46 := (hgwa45).lt
          have hgwa46 := SinceA.wh hbwa46 hgwa45
          have hlswa46 := (hswa45).lt
          have hswa46 := SinceA.wh hbwa46 hswa45
          refine hK.out _ _ hBwa46 (fun _ => ?_)
          clear hK K'
          refine wpAnyH_ready (rs := [6]) (by kernel_rfl) (by simp) (AllReadyH.cons (List.getElem?_toArray.trans rfl) (fun K' hK => ?_) AllReadyH.nil)
          refine wanted_goA rfl ?_
          go_simp
          rw [zeros16]
          obtain ⟨rwa47, erwa47⟩ : ∃ r, r = wa46.heap.size := ⟨_, rfl⟩
          rw [← erwa47]
          have hbwa47 : SinceA wa46 (wa46.alloc (.cells (aRow (List.replicate 16 0)) 22)) := (Below.refl _ _).alloc (Nat.le_refl _) _
          have hxwa47 : Wh (wa46.alloc (.cells (aRow (List.replicate 16 0)) 22)) rwa47 22 (aRow (List.replicate 16 0)) := by rw [erwa47]; exact Wh.new _ _ _
          have hnrwa47 : w0.heap.size ≤ rwa47 := by rw [erwa47]; exact (hBwa46).size
          generalize wa46.alloc (.cells (aRow (List.replicate 16 0)) 22) = wa47 at *
          have hBwa47 := SinceA.trans hBwa46 hbwa47
          have hgwa47 := SinceA.wh hbwa47 hgwa46
          have hdgr : g ≠ rwa47 := by have := (hgwa46).lt; omega
          have hswa47 := SinceA.wh hbwa47 hswa46
          have hdsr : swa44 ≠ rwa47 := by have := (hswa46).lt; omega
          refine hK.out _ _ hBwa47 (fun _ => ?_)
          clear hK K' erwa47
          refine wpAnyH_ready (rs := [8]) (by kernel_rfl) (by simp) (AllReadyH.cons (List.getElem?_toArray.trans rfl) (fun K' hK => ?_) AllReadyH.nil)
          refine wanted_goA rfl ?_
          refine wp_store_mid 22 (.tmp 12) (.tmp 20) rfl rwa47 0 (aRow p) rfl rfl (by rw [aRow_size, HP16.out]; exact (hxwa47).there zlen) (info_aRow HP16.out) (aRow_one _) ?_
          rw [aRow_list]
          obtain ⟨hxwa48, hvwa48⟩ := Wh.over hxwa47 zlen HP16.out
          generalize wa47.setCells rwa47 0 (p.map cell8) = wa48 at *
          have hBwa48 : SinceA w0 wa48 := below_grown hBwa47 hvwa48 hnrwa47 (hBwa47).size
          have hgwa48 := Wh.grown hgwa47 hvwa48 (by intro e; have := Option.some.inj e; omega)
          have hswa48 := Wh.grown hswa47 hvwa48 (by intro e; have := Option.some.inj e; omega)
          refine hK.out _ _ hBwa48 (fun _ => ?_)
          clear hK K'
          refine wpAnyH_ready (rs := [9]) (by kernel_rfl) (by simp) (AllReadyH.cons (List.getElem?_toArray.trans rfl) (fun K' hK => ?_) AllReadyH.nil)
          refine wanted_goA rfl ?_
          refine wp_store_mid 22 (.tmp 13) (.tmp 23) rfl swa44 0 (aRow q) rfl rfl (by rw [aRow_size, HQ16.out]; exact (hswa48).there zlen) (info_aRow HQ16.out) (aRow_one _) ?_
          rw [aRow_list]
          obtain ⟨hxwa49, hvwa49⟩ := Wh.over hswa48 zlen HQ16.out
          generalize wa48.setCells swa44 0 (q.map cell8) = wa49 at *
          have hBwa49 : SinceA w0 wa49 := below_grown hBwa48 hvwa49 hnswa44 (hBwa48).size
          have hgwa49 := Wh.grown hgwa48 hvwa49 (by intro e; have := Option.some.inj e; omega)
          have hrwa49 := Wh.grown hxwa48 hvwa49 (by intro e; have := Option.some.inj e; omega)
          refine hK.out _ _ hBwa49 (fun _ => ?_)
          clear hK K'
          refine wpAnyH_done (by kernel_rfl) ?_ _
          go_wp2_with fail
          go_meet
          exact ⟨rwa47, swa44, rfl, rfl, Lib.hid hrwa49, Lib.hid hxwa49, Lib.hid (hW0.trans ((hBwa49).mono hW0.size))⟩
        · refine wanted_goA rfl ?_
          go_simp
          rw [zeros16]
          obtain ⟨rwa50, erwa50⟩ : ∃ r, r = wa45.heap.size := ⟨_, rfl⟩
          rw [← erwa50]
          have hbwa50 : SinceA wa45 (wa45.alloc (.cells (aRow (List.replicate 16 0)) 22)) := (Below.refl _ _).alloc (Nat.le_refl _) _
          have hxwa50 : Wh (wa45.alloc (.cells (aRow (List.replicate 16 0)) 22)) rwa50 22 (aRow (List.replicate 16 0)) := by rw [erwa50]; exact Wh.new _ _ _
          have hnrwa50 : w0.heap.size ≤ rwa50 := by rw [erwa50]; exact (hBwa45).size
          generalize wa45.alloc (.cells (aRow (List.replicate 16 0)) 22) = wa50 at *
          have hBwa50 := SinceA.trans hBwa45 hbwa50
          have hgwa50 := SinceA.wh hbwa50 hgwa45
          have hdgr : g ≠ rwa50 := by have := (hgwa45).lt; omega
          have hswa50 := SinceA.wh hbwa50 hswa45
          have hdsr : swa44 ≠ rwa50 := by have := (hswa45).lt; omega
          refine hK.out _ _ hBwa50 (fun _ => ?_)
          clear hK K' erwa50
          refine wpAnyH_ready (rs := [5]) (by kernel_rfl) (by simp) (AllReadyH.cons (List.getElem?_toArray.trans rfl) (fun K' hK => ?_) AllReadyH.nil)
          refine wanted_goA rfl ?_
          go_simp
          refine (HSB.out g wa50 hgwa50).mono ?_
          rintro e wa51 ⟨rfl, hbwa51⟩
          have hBwa51 := SinceA.trans hBwa50 hbwa51
          have hlgwa51 := (hgwa50).lt
          have hgwa51 := SinceA.wh hbwa51 hgwa50
          have hlswa51 := (hswa50).lt
          have hswa51 := SinceA.wh hbwa51 hswa50
          have hlrwa51 := (hxwa50).lt
          have hrwa51 := SinceA.wh hbwa51 hxwa50
          refine hK.out _ _ hBwa51 (fun _ => ?_)
          clear hK K'
          refine wpAnyH_ready (rs := [8]) (by kernel_rfl) (by simp) (AllReadyH.cons (List.getElem?_toArray.trans rfl) (fun K' hK => ?_) AllReadyH.nil)
          refine wanted_goA rfl ?_
          refine wp_store_mid 22 (.tmp 12) (.tmp 20) rfl rwa50 0 (aRow p) rfl rfl (by rw [aRow_size, HP16.out]; exact (hrwa51).there zlen) (info_aRow HP16.out) (aRow_one _) ?_
          rw [aRow_list]
          obtain ⟨hxwa52, hvwa52⟩ := Wh.over hrwa51 zlen HP16.out
          generalize wa51.setCells rwa50 0 (p.map cell8) = wa52 at *
          have hBwa52 : SinceA w0 wa52 := below_grown hBwa51 hvwa52 hnrwa50 (hBwa51).size
          have hgwa52 := Wh.grown hgwa51 hvwa52 (by intro e; have := Option.some.inj e; omega)
          have hswa52 := Wh.grown hswa51 hvwa52 (by intro e; have := Option.some.inj e; omega)
          refine hK.out _ _ hBwa52 (fun _ => ?_)
          clear hK K'
          refine wpAnyH_ready (rs := [9]) (by kernel_rfl) (by simp) (AllReadyH.cons (List.getElem?_toArray.trans rfl) (fun K' hK => ?_) AllReadyH.nil)
          refine wanted_goA rfl ?_
          refine wp_store_mid 22 (.tmp 13) (.tmp 23) rfl swa44 0 (aRow q) rfl rfl (by rw [aRow_size, HQ16.out]; exact (hswa52).there zlen) (info_aRow HQ16.out) (aRow_one _) ?_
          rw [aRow_list]
          obtain ⟨hxwa53, hvwa53⟩ := Wh.over hswa52 zlen HQ16.out
          generalize wa52.setCells swa44 0 (q.map cell8) = wa53 at *
          have hBwa53 : SinceA w0 wa53 := below_grown hBwa52 hvwa53 hnswa44 (hBwa52).size
          have hgwa53 := Wh.grown hgwa52 hvwa53 (by intro e; have := Option.some.inj e; omega)
          have hrwa53 := Wh.grown hxwa52 hvwa53 (by intro e; have := Option.some.inj e; omega)
          refine hK.out _ _ hBwa53 (fun _ => ?_)
          clear hK K'
          refine wpAnyH_done (by kernel_rfl) ?_ _
          go_wp2_with fail
          go_meet
          exact ⟨rwa50, swa44, rfl, rfl, Lib.hid hrwa53, Lib.hid hxwa53, Lib.hid (hW0.trans ((hBwa53).mono hW0.size))⟩
      · refine wanted_goA rfl ?_
        go_simp
        rw [zeros16]
        obtain ⟨rwa54, erwa54⟩ : ∃ r, r = wa44.heap.size := ⟨_, rfl⟩
        rw [← erwa54]
        have hbwa54 : SinceA wa44 (wa44.alloc (.cells (aRow (List.replicate 16 0)) 22)) := (Below.refl _ _).alloc (Nat.le_refl _) _
        have hxwa54 : Wh (wa44.alloc (.cells (aRow (List.replicate 16 0)) 22)) rwa54 22 (aRow (List.replicate 16 0)) := by rw [erwa54]; exact Wh.new _ _ _
        have hnrwa54 : w0.heap.size ≤ rwa54 := by rw [erwa54]; exact (hBwa44).size
        generalize wa44.alloc (.cells (aRow (List.replicate 16 0)) 22) = wa54 at *
        have hBwa54 := SinceA.trans hBwa44 hbwa54
        have hgwa54 := SinceA.wh hbwa54 hgwa44
        have hdgr : g ≠ rwa54 := by have := (hgwa44).lt; omega
        have hswa54 := SinceA.wh hbwa54 hxwa44
        have hdsr : swa44 ≠ rwa54 := by have := (hxwa44).lt; omega
        refine hK.out _ _ hBwa54 (fun _ => ?_)
        clear hK K' erwa54
        refine wpAnyH_ready (rs := [2]) (by kernel_rfl) (by simp) (AllReadyH.cons (List.getElem?_toArray.trans rfl) (fun K' hK => ?_) AllReadyH.nil)
        refine wanted_goA rfl ?_
        go_simp
        refine (HSA.out g wa54 hgwa54).mono ?_
        rintro e wa55 ⟨rfl, hbwa55⟩
        have hBwa55 := SinceA.trans hBwa54 hbwa55
        have hlgwa55 := (hgwa54).lt
        have hgwa55 := SinceA.wh hbwa55 hgwa54
        have hlswa55 := (hswa54).lt
        have hswa55 := SinceA.wh hbwa55 hswa54
        have hlrwa55 := (hxwa54).lt
        have hrwa55 := SinceA.wh hbwa55 hxwa54
        refine hK.out _ _ hBwa55 (fun _ => ?_)
        clear hK K'
        refine wpAnyH_ready (rs := [5]) (by kernel_rfl) (by simp) (AllReadyH.cons (List.getElem?_toArray.trans rfl) (fun K' hK => ?_) AllReadyH.nil)
        refine wanted_goA rfl ?_
        go_simp
        refine (HSB.out g wa55 hgwa55).mono ?_
        rintro e wa56 ⟨rfl, hbwa56⟩
        have hBwa56 := SinceA.trans hBwa55 hbwa56
        have hlgwa56 := (hgwa55).lt
        have hgwa56 := SinceA.wh hbwa56 hgwa55
        have hlswa56 := (hswa55).lt
        have hswa56 := SinceA.wh hbwa56 hswa55
        have hlrwa56 := (hrwa55).lt
        have hrwa56 := SinceA.wh hbwa56 hrwa55
        refine hK.out _ _ hBwa56 (fun _ => ?_)
        clear hK K'
        refine wpAnyH_ready (rs := [8]) (by kernel_rfl) (by simp) (AllReadyH.cons (List.getElem?_toArray.trans rfl) (fun K' hK => ?_) AllReadyH.nil)
        refine wanted_goA rfl ?_
        refine wp_store_mid 22 (.tmp 12) (.tmp 20) rfl rwa54 0 (aRow p) rfl rfl (by rw [aRow_size, HP16.out]; exact (hrwa56).there zlen) (info_aRow HP16.out) (aRow_one _) ?_
        rw [aRow_list]
        obtain ⟨hxwa57, hvwa57⟩ := Wh.over hrwa56 zlen HP16.out
        generalize wa56.setCells rwa54 0 (p.map cell8) = wa57 at *
        have hBwa57 : SinceA w0 wa57 := below_grown hBwa56 hvwa57 hnrwa54 (hBwa56).size
        have hgwa57 := Wh.grown hgwa56 hvwa57 (by intro e; have := Option.some.inj e; omega)
        have hswa57 := Wh.grown hswa56 hvwa57 (by intro e; have := Option.some.inj e; omega)
        refine hK.out _ _ hBwa57 (fun _ => ?_)
        clear hK K'
        refine wpAnyH_ready (rs := [9]) (by kernel_rfl) (by simp) (AllReadyH.cons (List.getElem?_toArray.trans rfl) (fun K' hK => ?_) AllReadyH.nil)
        refine wanted_goA rfl ?_
        refine wp_store_mid 22 (.tmp 13) (.tmp 23) rfl swa44 0 (aRow q) rfl rfl (by rw [aRow_size, HQ16.out]; exact (hswa57).there zlen) (info_aRow HQ16.out) (aRow_one _) ?_
        rw [aRow_list]
        obtain ⟨hxwa58, hvwa58⟩ := Wh.over hswa57 zlen HQ16.out
        generalize wa57.setCells swa44 0 (q.map cell8) = wa58 at *
        have hBwa58 : SinceA w0 wa58 := below_grown hBwa57 hvwa58 hnswa44 (hBwa57).size
        have hgwa58 := Wh.grown hgwa57 hvwa58 (by intro e; have := Option.some.inj e; omega)
        have hrwa58 := Wh.grown hxwa57 hvwa58 (by intro e; have := Option.some.inj e; omega)
        refine hK.out _ _ hBwa58 (fun _ => ?_)
        clear hK K'
        refine wpAnyH_done (by kernel_rfl) ?_ _
        go_wp2_with fail
        go_meet
        exact ⟨rwa54, swa44, rfl, rfl, Lib.hid hrwa58, Lib.hid hxwa58, Lib.hid (hW0.trans ((hBwa58).mono hW0.size))⟩
  case rest =>
    obtain ⟨r1, r2, rfl, rfl, HR1, HR2, HBC⟩ := hcut
    have HBE3 := Lib.hid (HBE2.out.trans (HBC.out.mono HBE2.out.size))
    have h23 := H22.out.below HBC.out H22.out.lt
    have h33 := H32.out.below HBC.out H32.out.lt
    have h43 := H42.out.below HBC.out H42.out.lt
    have hg3 := HG2.out.below HBC.out HG2.out.lt
    clear HBE2 H22 H32 H42 HG2 HBC
    go_wp2_with fail
    refine wp_region_held_drew (S := fun w' => SinceA wc.drew w') (by kernel_rfl) (SinceA.self _) (fun _ => ?_)
    have hW0 : Below w.heap.size w wc.drew := HBE3.out.drew
    have hK : Wh wc.drew kb 22 (aRow key) := h23
    have hA : Wh wc.drew ab 22 (aRow a) := h33
    have hB : Wh wc.drew bb 22 (aRow b) := h43
    have hG : Wh wc.drew g 39 (aRow ks.flatten) := hg3
    have hR1 : Wh wc.drew r1 22 (aRow p) := HR1.out
    have hR2 : Wh wc.drew r2 22 (aRow q) := HR2.out
    clear HBE3 h23 h33 h43 hg3 HR1 HR2
    generalize wc.drew = w0 at *
    refine wpAnyH_take (i := 0) (v := .int .u8 (x.toNat : Int)) (List.getElem?_toArray.trans rfl) (by kernel_rfl) (by kernel_rfl) (by kernel_rfl) (fun _ _ _ h => h) (.inl ⟨rfl, fun w' hS => rfl⟩) (SinceA.self _) ?_
    refine act_normA (by simp only [Act.put, List.setIfInBounds_toArray, List.set_cons_zero, List.set_cons_succ]; rfl) ?_
    refine wpAnyH_take (i := 2) (v := .int .u8 (y.toNat : Int)) (List.getElem?_toArray.trans rfl) (by kernel_rfl) (by kernel_rfl) (by kernel_rfl) (fun _ _ _ h => h) (.inl ⟨rfl, fun w' hS => rfl⟩) (SinceA.self _) ?_
    refine act_normA (by simp only [Act.put, List.setIfInBounds_toArray, List.set_cons_zero, List.set_cons_succ]; rfl) ?_
    refine wpAnyH_take (i := 5) (v := .int .u8 (x.toNat : Int)) (List.getElem?_toArray.trans rfl) (by kernel_rfl) (by kernel_rfl) (by kernel_rfl) (fun _ _ _ h => h) (.inl ⟨rfl, fun w' hS => rfl⟩) (SinceA.self _) ?_
    refine act_normA (by simp only [Act.put, List.setIfInBounds_toArray, List.set_cons_zero, List.set_cons_succ]; rfl) ?_
    refine wpAnyH_take (i := 6) (v := .int .u8 (y.toNat : Int)) (List.getElem?_toArray.trans rfl) (by kernel_rfl) (by kernel_rfl) (by kernel_rfl) (fun _ _ _ h => h) (.inl ⟨rfl, fun w' hS => rfl⟩) (SinceA.self _) ?_
    refine act_normA (by simp only [Act.put, List.setIfInBounds_toArray, List.set_cons_zero, List.set_cons_succ]; rfl) ?_
    refine wpAnyH_take (i := 7) (v := .bool u) (List.getElem?_toArray.trans rfl) (by kernel_rfl) (by kernel_rfl) (by kernel_rfl) (fun _ _ _ h => h) (.inl ⟨rfl, fun w' hS => by simp [go_sem, HEX.out]⟩) (SinceA.self _) ?_
    refine act_normA (by simp only [Act.put, List.setIfInBounds_toArray, List.set_cons_zero, List.set_cons_succ]; rfl) ?_
    refine wpAnyH_ready (rs := [1]) (by kernel_rfl) (by simp) (AllReadyH.cons (List.getElem?_toArray.trans rfl) (fun K' hK => ?_) AllReadyH.nil)
    refine wanted_goA rfl ?_
    go_simp
    refine (sub_any x w0).mono ?_
    rintro e w1 ⟨rfl, rfl⟩
    refine hK.out _ _ (SinceA.self _) (fun _ => ?_)
    clear hK K'
    refine wpAnyH_ready (rs := [3]) (by kernel_rfl) (by simp) (AllReadyH.cons (List.getElem?_toArray.trans rfl) (fun K' hK => ?_) AllReadyH.nil)
    refine wanted_goA rfl ?_
    go_simp
    refine (sub_any y w0).mono ?_
    rintro e w1 ⟨rfl, rfl⟩
    refine hK.out _ _ (SinceA.self _) (fun _ => ?_)
    clear hK K'
    refine wpAnyH_take (i := 4) (v := .bool u) (List.getElem?_toArray.trans rfl) (by kernel_rfl) (by kernel_rfl) (by kernel_rfl) (fun _ _ _ h => h) (.inl ⟨rfl, fun w' hS => by simp [go_sem, HES.out]⟩) (SinceA.self _) ?_
    refine act_normA (by simp only [Act.put, List.setIfInBounds_toArray, List.set_cons_zero, List.set_cons_succ]; rfl) ?_
    refine wpAnyH_take (i := 8) (v := .bool true) (List.getElem?_toArray.trans rfl) (by kernel_rfl) (by kernel_rfl) (by kernel_rfl) (fun _ _ _ h => h) (.inl ⟨rfl, fun w' hS => by simp [go_sem]⟩) (SinceA.self _) ?_
    refine act_normA (by simp only [Act.put, List.setIfInBounds_toArray, List.set_cons_zero, List.set_cons_succ]; rfl) ?_
    refine wpAnyH_take (i := 9) (v := .bool true) (List.getElem?_toArray.trans rfl) (by kernel_rfl) (by kernel_rfl) (by kernel_rfl) (fun _ _ _ h => h) (.inl ⟨rfl, fun w' hS => rfl⟩) (SinceA.self _) ?_
    refine act_normA (by simp only [Act.put, List.setIfInBounds_toArray, List.set_cons_zero, List.set_cons_succ]; rfl) ?_
    refine wpAnyH_take (i := 10) (v := .agg (aRow p)) (List.getElem?_toArray.trans rfl) (by kernel_rfl) (by kernel_rfl) (by kernel_rfl) (fun _ _ _ h => h) (yields_blk (by rfl) (.tmp 12) rfl r1 0 rfl p HP16.out (fun w' hS => (SinceA.wh hS hR1).range)) (SinceA.self _) ?_
    refine act_normA (by simp only [Act.put, List.setIfInBounds_toArray, List.set_cons_zero, List.set_cons_succ]; rfl) ?_
    refine wpAnyH_take (i := 11) (v := .agg (aRow q)) (List.getElem?_toArray.trans rfl) (by kernel_rfl) (by kernel_rfl) (by kernel_rfl) (fun _ _ _ h => h) (yields_blk (by rfl) (.tmp 13) rfl r2 0 rfl q HQ16.out (fun w' hS => (SinceA.wh hS hR2).range)) (SinceA.self _) ?_
    refine act_normA (by simp only [Act.put, List.setIfInBounds_toArray, List.set_cons_zero, List.set_cons_succ]; rfl) ?_
    refine wpAnyH_take (i := 12) (v := .bool v) (List.getElem?_toArray.trans rfl) (by kernel_rfl) (by kernel_rfl) (by kernel_rfl) (fun _ _ _ h => h) (.inl ⟨rfl, fun w' hS => by simp [go_sem, HEP.out]⟩) (SinceA.self _) ?_
    refine act_normA (by simp only [Act.put, List.setIfInBounds_toArray, List.set_cons_zero, List.set_cons_succ]; rfl) ?_
    refine wpAnyH_take (i := 13) (v := .agg (aRow a)) (List.getElem?_toArray.trans rfl) (by kernel_rfl) (by kernel_rfl) (by kernel_rfl) (fun _ _ _ h => h) (yields_blk (by rfl) (.tmp 8) rfl ab 0 rfl a HAL.out (fun w' hS => (SinceA.wh hS hA).range)) (SinceA.self _) ?_
    refine act_normA (by simp only [Act.put, List.setIfInBounds_toArray, List.set_cons_zero, List.set_cons_succ]; rfl) ?_
    refine wpAnyH_take (i := 14) (v := .agg (aRow b)) (List.getElem?_toArray.trans rfl) (by kernel_rfl) (by kernel_rfl) (by kernel_rfl) (fun _ _ _ h => h) (yields_blk (by rfl) (.tmp 9) rfl bb 0 rfl b HBL.out (fun w' hS => (SinceA.wh hS hB).range)) (SinceA.self _) ?_
    refine act_normA (by simp only [Act.put, List.setIfInBounds_toArray, List.set_cons_zero, List.set_cons_succ]; rfl) ?_
    refine wpAnyH_take (i := 15) (v := .bool v) (List.getElem?_toArray.trans rfl) (by kernel_rfl) (by kernel_rfl) (by kernel_rfl) (fun _ _ _ h => h) (.inl ⟨rfl, fun w' hS => by simp [go_sem, HEA.out]⟩) (SinceA.self _) ?_
    refine act_normA (by simp only [Act.put, List.setIfInBounds_toArray, List.set_cons_zero, List.set_cons_succ]; rfl) ?_
    refine wpAnyH_take (i := 16) (v := .bool true) (List.getElem?_toArray.trans rfl) (by kernel_rfl) (by kernel_rfl) (by kernel_rfl) (fun _ _ _ h => h) (.inl ⟨rfl, fun w' hS => by simp [go_sem]⟩) (SinceA.self _) ?_
    refine act_normA (by simp only [Act.put, List.setIfInBounds_toArray, List.set_cons_zero, List.set_cons_succ]; rfl) ?_
    refine wpAnyH_take (i := 17) (v := .bool true) (List.getElem?_toArray.trans rfl) (by kernel_rfl) (by kernel_rfl) (by kernel_rfl) (fun _ _ _ h => h) (.inl ⟨rfl, fun w' hS => by simp [go_sem]⟩) (SinceA.self _) ?_
    refine act_normA (by simp only [Act.put, List.setIfInBounds_toArray, List.set_cons_zero, List.set_cons_succ]; rfl) ?_
    refine wpAnyH_take (i := 18) (v := .bool true) (List.getElem?_toArray.trans rfl) (by kernel_rfl) (by kernel_rfl) (by kernel_rfl) (fun _ _ _ h => h) (.inl ⟨rfl, fun w' hS => rfl⟩) (SinceA.self _) ?_
    refine act_normA (by simp only [Act.put, List.setIfInBounds_toArray, List.set_cons_zero, List.set_cons_succ]; rfl) ?_
    refine wpAnyH_take (i := 19) (v := .pointer (some ⟨g, 0, none⟩)) (List.getElem?_toArray.trans rfl) (by kernel_rfl) (by kernel_rfl) (by kernel_rfl) (fun _ _ _ h => h) (.inl ⟨rfl, fun w' hS => rfl⟩) (SinceA.self _) ?_
    refine act_normA (by simp only [Act.put, List.setIfInBounds_toArray, List.set_cons_zero, List.set_cons_succ]; rfl) ?_
    refine wpAnyH_take (i := 20) (v := .agg (aRow a)) (List.getElem?_toArray.trans rfl) (by kernel_rfl) (by kernel_rfl) (by kernel_rfl) (fun _ _ _ h => h) (yields_blk (by rfl) (.tmp 8) rfl ab 0 rfl a HAL.out (fun w' hS => (SinceA.wh hS hA).range)) (SinceA.self _) ?_
    refine act_normA (by simp only [Act.put, List.setIfInBounds_toArray, List.set_cons_zero, List.set_cons_succ]; rfl) ?_
    refine wpAnyH_take (i := 22) (v := .agg (aRow p)) (List.getElem?_toArray.trans rfl) (by kernel_rfl) (by kernel_rfl) (by kernel_rfl) (fun _ _ _ h => h) (yields_blk (by rfl) (.tmp 12) rfl r1 0 rfl p HP16.out (fun w' hS => (SinceA.wh hS hR1).range)) (SinceA.self _) ?_
    refine act_normA (by simp only [Act.put, List.setIfInBounds_toArray, List.set_cons_zero, List.set_cons_succ]; rfl) ?_
    refine wpAnyH_ready (rs := [21]) (by kernel_rfl) (by simp) (AllReadyH.cons (List.getElem?_toArray.trans rfl) (fun K' hK => ?_) AllReadyH.nil)
    refine wanted_goA rfl ?_
    go_simp
    refine (HSA.out g w0 hG).mono ?_
    rintro e w5 ⟨rfl, hb5⟩
    have hS5 : SinceA w0 w5 := hb5
    refine hK.out _ _ hS5 (fun _ => ?_)
    clear hK K'
    refine wpAnyH_take (i := 23) (v := .bool true) (List.getElem?_toArray.trans rfl) (by kernel_rfl) (by kernel_rfl) (by kernel_rfl) (fun _ _ _ h => h) (.inl ⟨rfl, fun w' hS => by simp [go_sem, HPP.out]⟩) hS5 ?_
    refine act_normA (by simp only [Act.put, List.setIfInBounds_toArray, List.set_cons_zero, List.set_cons_succ]; rfl) ?_
    refine wpAnyH_take (i := 24) (v := .bool true) (List.getElem?_toArray.trans rfl) (by kernel_rfl) (by kernel_rfl) (by kernel_rfl) (fun _ _ _ h => h) (.inl ⟨rfl, fun w' hS => by simp [go_sem]⟩) hS5 ?_
    refine act_normA (by simp only [Act.put, List.setIfInBounds_toArray, List.set_cons_zero, List.set_cons_succ]; rfl) ?_
    refine wpAnyH_take (i := 25) (v := .bool true) (List.getElem?_toArray.trans rfl) (by kernel_rfl) (by kernel_rfl) (by kernel_rfl) (fun _ _ _ h => h) (.inl ⟨rfl, fun w' hS => rfl⟩) hS5 ?_
    refine act_normA (by simp only [Act.put, List.setIfInBounds_toArray, List.set_cons_zero, List.set_cons_succ]; rfl) ?_
    refine wpAnyH_take (i := 26) (v := .agg (aRow key)) (List.getElem?_toArray.trans rfl) (by kernel_rfl) (by kernel_rfl) (by kernel_rfl) (fun _ _ _ h => h) (yields_blk (by rfl) (.tmp 7) rfl kb 0 rfl key HKL.out (fun w' hS => (SinceA.wh hS hK).range)) hS5 ?_
    refine act_normA (by simp only [Act.put, List.setIfInBounds_toArray, List.set_cons_zero, List.set_cons_succ]; rfl) ?_
    refine wpAnyH_take (i := 28) (v := .agg (aRow b)) (List.getElem?_toArray.trans rfl) (by kernel_rfl) (by kernel_rfl) (by kernel_rfl) (fun _ _ _ h => h) (yields_blk (by rfl) (.tmp 9) rfl bb 0 rfl b HBL.out (fun w' hS => (SinceA.wh hS hB).range)) hS5 ?_
    refine act_normA (by simp only [Act.put, List.setIfInBounds_toArray, List.set_cons_zero, List.set_cons_succ]; rfl) ?_
    refine wpAnyH_take (i := 30) (v := .agg (aRow q)) (List.getElem?_toArray.trans rfl) (by kernel_rfl) (by kernel_rfl) (by kernel_rfl) (fun _ _ _ h => h) (yields_blk (by rfl) (.tmp 13) rfl r2 0 rfl q HQ16.out (fun w' hS => (SinceA.wh hS hR2).range)) hS5 ?_
    refine act_normA (by simp only [Act.put, List.setIfInBounds_toArray, List.set_cons_zero, List.set_cons_succ]; rfl) ?_
    refine wpAnyH_ready (rs := [27]) (by kernel_rfl) (by simp) (AllReadyH.cons (List.getElem?_toArray.trans rfl) (fun K' hK => ?_) AllReadyH.nil)
    refine wanted_goA rfl ?_
    go_simp
    refine (HNX.out w5).mono ?_
    rintro e w6 ⟨g6, rfl, hge6, hg6, hb6⟩
    have hS6 : SinceA w0 w6 := SinceA.trans hS5 hb6
    refine hK.out _ _ hS6 (fun _ => ?_)
    clear hK K'
    refine wpAnyH_ready (rs := [29]) (by kernel_rfl) (by simp) (AllReadyH.cons (List.getElem?_toArray.trans rfl) (fun K' hK => ?_) AllReadyH.nil)
    refine wanted_goA rfl ?_
    go_simp
    refine (HSB.out g6 w6 hg6).mono ?_
    rintro e w7 ⟨rfl, hb7⟩
    have hS7 : SinceA w0 w7 := SinceA.trans hS6 hb7
    refine hK.out _ _ hS7 (fun _ => ?_)
    clear hK K'
    refine wpAnyH_take (i := 31) (v := .bool true) (List.getElem?_toArray.trans rfl) (by kernel_rfl) (by kernel_rfl) (by kernel_rfl) (fun _ _ _ h => h) (.inl ⟨rfl, fun w' hS => by simp [go_sem, HQQ.out]⟩) hS7 ?_
    refine act_normA (by simp only [Act.put, List.setIfInBounds_toArray, List.set_cons_zero, List.set_cons_succ]; rfl) ?_
    refine wpAnyH_take (i := 32) (v := .bool true) (List.getElem?_toArray.trans rfl) (by kernel_rfl) (by kernel_rfl) (by kernel_rfl) (fun _ _ _ h => h) (.inl ⟨rfl, fun w' hS => by simp [go_sem]⟩) hS7 ?_
    refine act_normA (by simp only [Act.put, List.setIfInBounds_toArray, List.set_cons_zero, List.set_cons_succ]; rfl) ?_
    refine wpAnyH_ready (rs := [33]) (by kernel_rfl) (by simp) (AllReadyH.cons (List.getElem?_toArray.trans rfl) (fun K' hK => ?_) AllReadyH.nil)
    refine wanted_goA rfl ?_
    go_simp
    refine hK.out _ _ hS7 (fun _ => ?_)
    clear hK K'
    refine wpAnyH_done (by kernel_rfl) ?_ _
    have HF := Lib.hid (hW0.trans (hS7.mono hW0.size))
    clear hS7 hS6 hS5 hb7 hb6 hb5 hg6 hge6 hK hA hB hG hR1 hR2 hW0
    go_wp2
    go_ret
    exact ⟨rfl, HF.out⟩
end Go.Proofs.Ytkefjckhkibpfaa
