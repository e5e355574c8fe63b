/-
  hostlerref09.Hash: the document's own hash. Printed by tools/gen_gcrhash.py.
  Plain mathematics of layer 8: blocks written out; under one key no two blocks are sealed to one. No operation of a walk is named here.
-/
import Derived.Test.YtblclinfcdalaaaDoorGcTimes
import Derived.Test.YtblclinfcdalaaaDoorSb5
namespace Go.Proofs.YtblclinfcdalaaaDoor
section
open Go.RowKit
set_option linter.unusedVariables false

theorem jn_part (a b : List UInt8) (hl : a.length = b.length) (q : Nat) (hq : q ≤ a.length) (hz : ∀ i, q ≤ i → b.getD i 0 = 0) : jnN a b q = xoG a b := by
  rw [← jn_all a b hl]
  apply List.ext_getElem (by rw [jnN_len, jnN_len])
  intro i h1 h2
  have h3 : i < a.length := by rw [jnN_len] at h1; exact h1
  have e1 := jnN_get a b hl q hq i
  have e2 := jnN_get a b hl a.length (Nat.le_refl _) i
  rw [List.getD_eq_getElem?_getD, List.getElem?_eq_getElem h1, Option.getD_some] at e1
  rw [List.getD_eq_getElem?_getD, List.getElem?_eq_getElem h2, Option.getD_some] at e2
  rw [e1, e2, if_pos h3]
  by_cases h : i < q
  · rw [if_pos h]
  · rw [if_neg h, hz i (by omega), UInt8.xor_zero]
theorem ck_get (b : List UInt8) (j k : Nat) (hk : k < 16) : (ckG b j).getD k 0 = b.getD (16 * j + k) 0 := by
  rw [List.getD_eq_getElem?_getD, ckG, List.getElem?_map, List.getElem?_range hk]
  rfl
theorem ck_out (b : List UInt8) (j i : Nat) (h : b.length ≤ 16 * j + i ∨ 16 ≤ i) : (ckG b j).getD i 0 = 0 := by
  by_cases hi : i < 16
  · rw [ck_get b j i hi, List.getD_eq_getElem?_getD, List.getElem?_eq_none (by omega)]
    rfl
  · rw [List.getD_eq_getElem?_getD, List.getElem?_eq_none (by rw [ck_len]; omega)]
    rfl

set_option maxRecDepth 100000 in
set_option maxHeartbeats 4000000 in
theorem rhash_any (h b : List UInt8) (A B : Option Addr) (c d D m : Nat) (w : World) (hD : D ≤ w.heap.size) (hh : h.length = 16) (hb : b.length = m) (hm : m ≤ 1099511627776) (hs : Sl w D A h) (ht : Sl w D B b) :
    Calls Tryd.prog 118 #[.slice A 16 c, .slice B m d] w (GaveN w 16 (hashL h b)) := by
  obtain ⟨i0, hi0, hz0, hz1, hz2⟩ := info_parts info8A
  have HHL := Deep.mk hh
  have HBM := Deep.mk hb
  have HS := Lib.hid hs
  have HT := Lib.hid ht
  obtain ⟨Z, hZ⟩ : ∃ Z : List UInt8, Z = List.replicate 16 0 := ⟨_, rfl⟩
  have HZR := Deep.mk hZ
  clear hh hb hs ht hZ
  go_enter Tryd.func118, Tryd.ntmps118
  go_upto_region 2 with (first
    | (refine wpList_make_mn w rfl (.const (.int .i64 16)) (.const (.int .i64 16)) 23 rfl 5 i0 _ Tryd.underlying23 hi0 hz0 hz1 rfl .i64 .i64 16 16 16 16 rfl rfl rfl rfl (Nat.le_refl _) (by rw [hz2]; omega) (by omega) ?_; rw [zrow, ← HZR.out]))
  have hbe : Below w.heap.size w (w.alloc (.cells (aRow Z) 5)) := (Below.refl _ _).alloc (Nat.le_refl _) _
  have h1 := Wh.new w 5 (aRow Z)
  have ho1 := own_of_wh (l := Z.map cell8) h1 w.heap.size 16 16 (Nat.le_refl _) (by rw [HZR.out]; rfl) (Nat.le_refl _) (by unfold maxLen; omega)
  rw [List.take_of_length_le (by rw [HZR.out]; exact Nat.le_refl _)] at ho1
  obtain ⟨ob, hob⟩ : ∃ b, b = w.heap.size := ⟨_, rfl⟩
  have ho2 : (w.alloc (.cells (aRow Z) 5)).ownsRow w.heap.size 5 1 (.slice (some ⟨ob, 0, none⟩) 16 16) 16 ((hsN h b 0).map cell8) := by
    rw [hob]
    rw [HZR.out] at ho1 ⊢
    exact ho1
  rw [← hob]
  generalize w.alloc (.cells (aRow Z) 5) = w1 at *
  have HO2 := Lib.hid ho2
  have HB1 := Lib.hid hbe
  clear hob h1 ho1 ho2 hbe
  go_wp2_with fail
  go_loopw [5, 6, 7] (fun v at_ _ wr => ∃ (j n : Nat), n = 16 * j ∧ n < m + 16 ∧ at_ = .int .i64 (n : Int) ∧ Hid (wr.ownsRow w.heap.size 5 1 v 16 ((hsN h b j).map cell8)) ∧ Hid (Below w.heap.size w wr)) (fun _ at_ _ _ => m + 16 - (intOf at_).toNat)
  case atStart => exact ⟨0, 0, rfl, by omega, rfl, HO2, HB1⟩
  case round =>
    obtain ⟨j, n, hn, hnm, rfl, HO, HB⟩ := hrel
    clear HO2 HB1
    by_cases hlt : n < m
    · obtain ⟨g, cy, rfl, hp, hg, hcy1, hcy2⟩ := Pb.of_own HO.out (by omega)
      obtain ⟨y, hy⟩ : ∃ y, y = hsN h b j := ⟨_, rfl⟩
      obtain ⟨ck, hck⟩ : ∃ ck, ck = ckG b j := ⟨_, rfl⟩
      obtain ⟨q, hq⟩ : ∃ q, q = min 16 (m - n) := ⟨_, rfl⟩
      have hyl : y.length = 16 := by rw [hy]; exact hsN_len HHL.out _ _
      have hckl : ck.length = 16 := by rw [hck]; exact ck_len _ _
      have hq16 : q ≤ 16 := by omega
      have hqm : n + q ≤ m := by omega
      have hqe : q = 16 ∨ n + q = m := by omega
      rw [← hy] at hp
      obtain ⟨V, hV⟩ : ∃ V, V = xoG y ck := ⟨_, rfl⟩
      have HVJ : Deep (jnN y ck q = V) := ⟨by
        rw [hV]
        refine jn_part y ck (by omega) q (by omega) (fun i hi => ?_)
        rw [hck]
        exact ck_out b j i (by rw [HBM.out]; omega)⟩
      have hVl : V.length = 16 := by rw [hV]; exact xo_len hyl hckl
      have HNX : Deep (tmL V h = hsN h b (j + 1)) := ⟨by rw [hV, hy, hck]; rfl⟩
      have hb2 : Sl wr D B b := HT.out.below (HB.out.mono hD)
      obtain ⟨b2, off2, rfl, hb2l, hc2⟩ := Sl.at_ hb2 (by rw [HBM.out]; omega)
      have HC2 : Hid (∀ k, k < q → ∀ w', Below w.heap.size w w' → w'.cell? ⟨b2, off2 + (n + k), none⟩ = some (.int .u8 ((ck.getD k 0).toNat : Int))) := Lib.hid (fun k hk w' hb' => by
        obtain ⟨b3, off3, e, hb3l, hc3⟩ := Sl.at_ (HT.out.below (hb'.mono hD)) (by rw [HBM.out]; omega)
        simp only [Option.some.injEq, Addr.mk.injEq, and_true] at e
        obtain ⟨rfl, rfl⟩ := e
        rw [hck, ck_get b j k (by omega), ← hn]
        exact hc3 (n + k) _ (by rw [List.getD_eq_getElem?_getD, List.getElem?_eq_getElem (by rw [HBM.out]; omega)]; rfl))
      have hbg : b2 < g := by omega
      have HP := Lib.hid hp
      have HYL := Deep.mk hyl
      have HVL := Deep.mk hVl
      have HN := Deep.mk hn
      have HQE := Deep.mk hqe
      have HG := Lib.hid hg
      obtain ⟨wo, rfl⟩ : ∃ wo : World, wo = wr := ⟨_, rfl⟩
      clear hp hy hck hq hyl hckl hV hVl hb2 hb2l hc2 HO hn hqe
      go_wp2_with fail
      go_loopw [7] (fun kk wr => ∃ k : Nat, k ≤ q ∧ kk = .int .i64 (k : Int) ∧ Hid (Pb wr g 5 (jnN y ck k)) ∧ Hid (Below w.heap.size w wr)) (fun kk _ => 16 - (intOf kk).toNat)
      case atStart => exact ⟨0, by omega, rfl, HP, HB⟩
      case round =>
        obtain ⟨k, hk, rfl, HP4, HB4⟩ := hrel
        clear HP HB
        by_cases hlk : k < q
        · obtain ⟨u, hu⟩ : ∃ u, u = jnN y ck k := ⟨_, rfl⟩
          have hul : u.length = 16 := by rw [hu, jnN_len, HYL.out]
          rw [← hu] at HP4
          have hcu := HP4.out.cell (j := k) (by omega)
          have hfu := HP4.out.frozen k
          have hcq := HC2.out k hlk wr HB4.out
          obtain ⟨p, hp⟩ : ∃ p, p = u.getD k 0 := ⟨_, rfl⟩
          obtain ⟨e, he⟩ : ∃ e, e = ck.getD k 0 := ⟨_, rfl⟩
          rw [← hp] at hcu
          rw [← he] at hcq
          obtain ⟨z, hz⟩ : ∃ z, z = p ^^^ e := ⟨_, rfl⟩
          have HNJ : Deep (u.set k z = jnN y ck (k + 1)) := ⟨by rw [hz, hp, he, hu]; rfl⟩
          have HZZ := Deep.mk hz
          obtain ⟨s, hs⟩ : ∃ s, s = n + k := ⟨_, rfl⟩
          have hsi : (n : Int) + (k : Int) = (s : Int) := by omega
          have hsw : IntKind.i64.wrap ((n : Int) + (k : Int)) = (s : Int) := by rw [hsi]; exact IntWalk.i64_in _ (by omega)
          have HSW := Lib.hid hsw
          have hsm : (s : Int) < (m : Int) := by omega
          have hkd : decide ((k : Int) < 16) = true := by rw [decide_eq_true_iff]; omega
          have hsd : decide ((s : Int) < (m : Int)) = true := by rw [decide_eq_true_iff]; omega
          have hsd2 : decide (s < m) = true := by rw [decide_eq_true_iff]; omega
          have hki : (k : Int) < 16 := by omega
          rw [← hs] at hcq
          have hput := HP4.out.put k z
          have hgs := grown_trans (grown_below (row := some g) ((Below.refl _ wr).drew)) (grown_set wr.drew g k (.int .u8 (z.toNat : Int)))
          have HPU : Hid (Pb (wr.drew.setCell ⟨g, k, none⟩ (.int .u8 (z.toNat : Int))) g 5 (u.set k z)) := Lib.hid hput
          have HGS := Lib.hid hgs
          have HCU : Hid (wr.drew.cell? ⟨g, k, none⟩ = some (.int .u8 (p.toNat : Int))) := Lib.hid hcu
          have HFU : Hid (wr.drew.frozen? ⟨g, k, none⟩ = false) := Lib.hid hfu
          have HCQ : Hid (wr.drew.cell? ⟨b2, off2 + s, none⟩ = some (.int .u8 (e.toNat : Int))) := Lib.hid hcq
          clear hu hul hcu hfu hcq hp he hz hput hgs hs hsw
          go_wp2_with fail
          clear hsi hsd hsd2 hkd
          have hcd := HCU.out
          have hfd := HFU.out
          have hcqd := HCQ.out
          refine wp_region_held_drew (S := fun _ => True) (by kernel_rfl) trivial (fun _ => ?_)
          refine wpAnyH_take (i := 0) (v := .slice (some ⟨g, 0, none⟩) 16 cy) (List.getElem?_toArray.trans rfl) (by kernel_rfl) (by kernel_rfl) (by kernel_rfl) (fun _ _ _ h => h) (.inl ⟨rfl, fun w' hS => rfl⟩) trivial ?_
          refine act_normM (by simp only [Act.put, List.setIfInBounds_toArray, List.set_cons_zero, List.set_cons_succ]; rfl) ?_
          refine wpAnyH_take (i := 1) (v := .int .i64 (k : Int)) (List.getElem?_toArray.trans rfl) (by kernel_rfl) (by kernel_rfl) (by kernel_rfl) (fun _ _ _ h => h) (.inl ⟨rfl, fun w' hS => rfl⟩) trivial ?_
          refine act_normM (by simp only [Act.put, List.setIfInBounds_toArray, List.set_cons_zero, List.set_cons_succ]; rfl) ?_
          refine wpAnyH_take (i := 2) (v := .slice (some ⟨g, 0, none⟩) 16 cy) (List.getElem?_toArray.trans rfl) (by kernel_rfl) (by kernel_rfl) (by kernel_rfl) (fun _ _ _ h => h) (.inl ⟨rfl, fun w' hS => rfl⟩) trivial ?_
          refine act_normM (by simp only [Act.put, List.setIfInBounds_toArray, List.set_cons_zero, List.set_cons_succ]; rfl) ?_
          refine wpAnyH_take (i := 3) (v := .int .i64 (k : Int)) (List.getElem?_toArray.trans rfl) (by kernel_rfl) (by kernel_rfl) (by kernel_rfl) (fun _ _ _ h => h) (.inl ⟨rfl, fun w' hS => rfl⟩) trivial ?_
          refine act_normM (by simp only [Act.put, List.setIfInBounds_toArray, List.set_cons_zero, List.set_cons_succ]; rfl) ?_
          refine wpAnyH_take (i := 4) (v := .pointer (some ⟨g, k, none⟩)) (List.getElem?_toArray.trans rfl) (by kernel_rfl) (by kernel_rfl) (by kernel_rfl) (fun _ _ _ h => h) (.inl ⟨rfl, fun w' hS => by simp [go_sem, hki]⟩) trivial ?_
          refine act_normM (by simp only [Act.put, List.setIfInBounds_toArray, List.set_cons_zero, List.set_cons_succ]; rfl) ?_
          refine wpAnyH_take (i := 6) (v := .slice (some ⟨b2, off2, none⟩) m d) (List.getElem?_toArray.trans rfl) (by kernel_rfl) (by kernel_rfl) (by kernel_rfl) (fun _ _ _ h => h) (.inl ⟨rfl, fun w' hS => rfl⟩) trivial ?_
          refine act_normM (by simp only [Act.put, List.setIfInBounds_toArray, List.set_cons_zero, List.set_cons_succ]; rfl) ?_
          refine wpAnyH_take (i := 7) (v := .int .i64 (n : Int)) (List.getElem?_toArray.trans rfl) (by kernel_rfl) (by kernel_rfl) (by kernel_rfl) (fun _ _ _ h => h) (.inl ⟨rfl, fun w' hS => rfl⟩) trivial ?_
          refine act_normM (by simp only [Act.put, List.setIfInBounds_toArray, List.set_cons_zero, List.set_cons_succ]; rfl) ?_
          refine wpAnyH_take (i := 8) (v := .int .i64 (k : Int)) (List.getElem?_toArray.trans rfl) (by kernel_rfl) (by kernel_rfl) (by kernel_rfl) (fun _ _ _ h => h) (.inl ⟨rfl, fun w' hS => rfl⟩) trivial ?_
          refine act_normM (by simp only [Act.put, List.setIfInBounds_toArray, List.set_cons_zero, List.set_cons_succ]; rfl) ?_
          refine wpAnyH_take (i := 9) (v := .int .i64 (s : Int)) (List.getElem?_toArray.trans rfl) (by kernel_rfl) (by kernel_rfl) (by kernel_rfl) (fun _ _ _ h => h) (.inl ⟨rfl, fun w' hS => by simp [go_sem, HSW.out]⟩) trivial ?_
          refine act_normM (by simp only [Act.put, List.setIfInBounds_toArray, List.set_cons_zero, List.set_cons_succ]; rfl) ?_
          refine wpAnyH_take (i := 10) (v := .pointer (some ⟨b2, off2 + s, none⟩)) (List.getElem?_toArray.trans rfl) (by kernel_rfl) (by kernel_rfl) (by kernel_rfl) (fun _ _ _ h => h) (.inl ⟨rfl, fun w' hS => by simp [go_sem, hsm]⟩) trivial ?_
          refine act_normM (by simp only [Act.put, List.setIfInBounds_toArray, List.set_cons_zero, List.set_cons_succ]; rfl) ?_
          refine wpAnyH_ready (rs := [5, 11]) (by kernel_rfl) (by simp) (AllReadyH.cons (List.getElem?_toArray.trans rfl) (fun K' hK => ?_) (AllReadyH.cons (List.getElem?_toArray.trans rfl) (fun K' hK => ?_) AllReadyH.nil))
          · refine wanted_goM rfl ?_
            go_simp
            refine hK.out _ _ trivial (fun _ => ?_)
            clear hK K'
            refine wpAnyH_ready (rs := [11]) (by kernel_rfl) (by simp) (AllReadyH.cons (List.getElem?_toArray.trans rfl) (fun K' hK => ?_) AllReadyH.nil)
            refine wanted_goM rfl ?_
            go_simp
            refine hK.out _ _ trivial (fun _ => ?_)
            clear hK K'
            refine wpAnyH_take (i := 12) (v := .int .u8 (z.toNat : Int)) (List.getElem?_toArray.trans rfl) (by kernel_rfl) (by kernel_rfl) (by kernel_rfl) (fun _ _ _ h => h) (.inl ⟨rfl, fun w' hS => by rw [HZZ.out, ← b_xor]; simp [go_sem]⟩) trivial ?_
            refine act_normM (by simp only [Act.put, List.setIfInBounds_toArray, List.set_cons_zero, List.set_cons_succ]; rfl) ?_
            refine wpAnyH_take (i := 13) (v := .pointer (some ⟨g, k, none⟩)) (List.getElem?_toArray.trans rfl) (by kernel_rfl) (by kernel_rfl) (by kernel_rfl) (fun _ _ _ h => h) (.inl ⟨rfl, fun w' hS => by simp [go_sem, hki]⟩) trivial ?_
            refine act_normM (by simp only [Act.put, List.setIfInBounds_toArray, List.set_cons_zero, List.set_cons_succ]; rfl) ?_
            refine wpAnyH_ready (rs := [14]) (by kernel_rfl) (by simp) (AllReadyH.cons (List.getElem?_toArray.trans rfl) (fun K' hK => ?_) AllReadyH.nil)
            refine wanted_goM rfl ?_
            go_simp
            refine hK.out _ _ trivial (fun _ => ?_)
            clear hK K'
            refine wpAnyH_done (by kernel_rfl) ?_ _
            clear hcd hfd hcqd hsm hki
            change Exit.inBlock 3 _ _ _ (wr.drew.setCell ⟨g, k, none⟩ (.int .u8 (z.toNat : Int)))
            generalize wr.drew.setCell ⟨g, k, none⟩ (.int .u8 (z.toNat : Int)) = w5 at *
            go_wp2
            refine ⟨⟨k + 1, by omega, by go_num, ?_, Lib.hid (HB4.out.grown HGS.out HB4.out.size (fun q hq => by have := Option.some.inj hq; have := HG.out; omega))⟩, by simp [intOf]; omega⟩
            rw [← HNJ.out]
            exact HPU
          · refine wanted_goM rfl ?_
            go_simp
            refine hK.out _ _ trivial (fun _ => ?_)
            clear hK K'
            refine wpAnyH_ready (rs := [5]) (by kernel_rfl) (by simp) (AllReadyH.cons (List.getElem?_toArray.trans rfl) (fun K' hK => ?_) AllReadyH.nil)
            refine wanted_goM rfl ?_
            go_simp
            refine hK.out _ _ trivial (fun _ => ?_)
            clear hK K'
            refine wpAnyH_take (i := 12) (v := .int .u8 (z.toNat : Int)) (List.getElem?_toArray.trans rfl) (by kernel_rfl) (by kernel_rfl) (by kernel_rfl) (fun _ _ _ h => h) (.inl ⟨rfl, fun w' hS => by rw [HZZ.out, ← b_xor]; simp [go_sem]⟩) trivial ?_
            refine act_normM (by simp only [Act.put, List.setIfInBounds_toArray, List.set_cons_zero, List.set_cons_succ]; rfl) ?_
            refine wpAnyH_take (i := 13) (v := .pointer (some ⟨g, k, none⟩)) (List.getElem?_toArray.trans rfl) (by kernel_rfl) (by kernel_rfl) (by kernel_rfl) (fun _ _ _ h => h) (.inl ⟨rfl, fun w' hS => by simp [go_sem, hki]⟩) trivial ?_
            refine act_normM (by simp only [Act.put, List.setIfInBounds_toArray, List.set_cons_zero, List.set_cons_succ]; rfl) ?_
            refine wpAnyH_ready (rs := [14]) (by kernel_rfl) (by simp) (AllReadyH.cons (List.getElem?_toArray.trans rfl) (fun K' hK => ?_) AllReadyH.nil)
            refine wanted_goM rfl ?_
            go_simp
            refine hK.out _ _ trivial (fun _ => ?_)
            clear hK K'
            refine wpAnyH_done (by kernel_rfl) ?_ _
            clear hcd hfd hcqd hsm hki
            change Exit.inBlock 3 _ _ _ (wr.drew.setCell ⟨g, k, none⟩ (.int .u8 (z.toNat : Int)))
            generalize wr.drew.setCell ⟨g, k, none⟩ (.int .u8 (z.toNat : Int)) = w5 at *
            go_wp2
            refine ⟨⟨k + 1, by omega, by go_num, ?_, Lib.hid (HB4.out.grown HGS.out HB4.out.size (fun q hq => by have := Option.some.inj hq; have := HG.out; omega))⟩, by simp [intOf]; omega⟩
            rw [← HNJ.out]
            exact HPU
        · have hkq : k = q := by omega
          have HPV : Hid (Pb wr g 5 V) := by
            have h := HP4.out
            rw [hkq, HVJ.out] at h
            exact Lib.hid h
          have hts : Sl wr wr.heap.size (some ⟨g, 0, none⟩) V := HPV.out.sl
          have hth : Sl wr wr.heap.size A h := (HS.out.below (HB4.out.mono hD)).keep (Nat.le_trans hD HB4.out.size) (fun _ _ => rfl)
          have HTIM := Lib.hid (rtimes_any V h (some ⟨g, 0, none⟩) A cy c wr.heap.size wr (Nat.le_refl _) HVL.out HHL.out hts hth)
          have HNM := Lib.hid hnm
          have HLT := Lib.hid hlt
          obtain ⟨s, hs⟩ : ∃ s, s = n + k := ⟨_, rfl⟩
          have hsi : (n : Int) + (k : Int) = (s : Int) := by omega
          have hsb : s ≤ 1099511627808 := by omega
          have hkcase : (k = 16) ∨ (k < 16 ∧ s = m) := by have := HQE.out; omega
          clear hts hth HP4 hlk hk hkq
          rcases hkcase with hk16 | ⟨hk16, hsm⟩
          all_goals
            first
              | (have hkd : decide ((k : Int) < 16) = false := by rw [decide_eq_false_iff_not]; omega)
              | (have hkd : decide ((k : Int) < 16) = true := by rw [decide_eq_true_iff]; omega)
            have hsd : decide ((s : Int) < (m : Int)) = false ∨ k = 16 := by first | (right; omega) | (left; rw [decide_eq_false_iff_not]; omega)
            have hsd2 : s = m → decide (s < m) = false := fun e => by rw [decide_eq_false_iff_not]; omega
            first | (have hsd3 := hsd2 hsm) | skip
            clear hsd hsd2 hs
            try clear hk16
            try clear hsm
            go_wp2_with fail
            refine HTIM.out.mono ?_
            rintro e w6 ⟨A6, c6, rfl, h61, h62, ho6, hb6⟩
            have HO6 := Lib.hid (own_base ho6 HB4.out.size)
            have HB6 := Lib.hid (HB4.out.trans (hb6.mono HB4.out.size))
            rw [HNX.out] at HO6
            clear ho6 hb6 h61 h62 hsi
            go_wp2
            refine ⟨⟨j + 1, n + 16, by rw [HN.out]; omega, by have := HLT.out; omega, by go_num, HO6, HB6⟩, by have := HLT.out; simp [intOf]; omega⟩
    · have hnd : decide (n < m) = false := by rw [decide_eq_false_iff_not]; omega
      have hjm : j = (b.length + 15) / 16 := by rw [HBM.out]; omega
      have HOF : Hid (wr.ownsRow w.heap.size 5 1 u5 16 ((hashL h b).map cell8)) := by
        have h := HO.out
        rw [hjm] at h
        exact Lib.hid h
      obtain ⟨A5, c5, rfl, h51, h52⟩ := own_form HOF.out
      have H51 := Lib.hid h51
      have H52 := Lib.hid h52
      clear HO hlt hn hjm h51 h52
      go_wp2
      go_ret
      exact ⟨A5, c5, rfl, H51.out, H52.out, HOF.out, HB.out⟩
end

section
open Go.RowKit
set_option linter.unusedVariables false
set_option linter.unusedSimpArgs false

def twV (v : BitVec 8) : BitVec 8 := v <<< 1 ^^^ (bif v.msb then 27#8 else 0#8)
theorem tw_twV (x : UInt8) : (tw x).toBitVec = twV x.toBitVec := all256 (fun x => (tw x).toBitVec = twV x.toBitVec) (by decide +kernel) x
theorem v_left (x y z : BitVec 8) : x ^^^ (y ^^^ z) = y ^^^ (x ^^^ z) := by rw [← BitVec.xor_assoc, BitVec.xor_comm x y, BitVec.xor_assoc]
theorem tw_xor (x y : UInt8) : tw (x ^^^ y) = tw x ^^^ tw y := by
  apply UInt8.toBitVec_inj.1
  rw [tw_twV, UInt8.toBitVec_xor, UInt8.toBitVec_xor, tw_twV, tw_twV, twV, twV, twV, BitVec.shiftLeft_xor_distrib, BitVec.msb_xor]
  cases x.toBitVec.msb <;> cases y.toBitVec.msb <;> simp [BitVec.xor_assoc, BitVec.xor_comm, v_left]
theorem xor_left (x y z : UInt8) : x ^^^ (y ^^^ z) = y ^^^ (x ^^^ z) := by rw [← UInt8.xor_assoc, UInt8.xor_comm x y, UInt8.xor_assoc]
theorem xor_back (x y : UInt8) : x ^^^ (x ^^^ y) = y := by rw [← UInt8.xor_assoc, UInt8.xor_self, UInt8.zero_xor]
theorem mx_sq (a b c d : UInt8) : mxB (mxB a b c d) (mxB b c d a) (mxB c d a b) (mxB d a b c) = a ^^^ tw (tw a) ^^^ tw (tw c) := by
  simp only [mxB, tw_xor]
  generalize tw (tw a) = a2
  generalize tw (tw b) = b2
  generalize tw (tw c) = c2
  generalize tw (tw d) = d2
  generalize tw a = a1
  generalize tw b = b1
  generalize tw c = c1
  generalize tw d = d1
  simp only [UInt8.xor_assoc]
  simp only [UInt8.xor_comm, xor_left, xor_back, UInt8.xor_self, UInt8.xor_zero, UInt8.zero_xor]
/-- A column mixed four times is itself. -/
theorem mx_inj {a b c d a' b' c' d' : UInt8} (h1 : mxB a b c d = mxB a' b' c' d') (h2 : mxB b c d a = mxB b' c' d' a') (h3 : mxB c d a b = mxB c' d' a' b') (h4 : mxB d a b c = mxB d' a' b' c') :
    a = a' ∧ c = c' := by
  have s1 := mx_sq a b c d
  have s3 := mx_sq c d a b
  rw [h1, h2, h3, h4, mx_sq a' b' c' d'] at s1
  rw [h1, h2, h3, h4, mx_sq c' d' a' b'] at s3
  have e : a ^^^ c = a' ^^^ c' := by
    have h : (a' ^^^ tw (tw a') ^^^ tw (tw c')) ^^^ (c' ^^^ tw (tw c') ^^^ tw (tw a')) = (a ^^^ tw (tw a) ^^^ tw (tw c)) ^^^ (c ^^^ tw (tw c) ^^^ tw (tw a)) := by rw [s1, s3]
    generalize tw (tw a) = a2 at h
    generalize tw (tw c) = c2 at h
    generalize tw (tw a') = a3 at h
    generalize tw (tw c') = c3 at h
    simp only [UInt8.xor_assoc] at h
    simp only [UInt8.xor_comm, xor_left, xor_back, UInt8.xor_self, UInt8.xor_zero, UInt8.zero_xor] at h
    rw [UInt8.xor_comm a c, UInt8.xor_comm a' c']
    first | exact h.symm | (rw [UInt8.xor_comm c a, UInt8.xor_comm c' a']; exact h.symm)
  have e2 : tw (tw a) ^^^ tw (tw c) = tw (tw a') ^^^ tw (tw c') := by rw [← tw_xor, ← tw_xor, e, tw_xor, tw_xor]
  constructor
  · rw [UInt8.xor_assoc, UInt8.xor_assoc, e2] at s1
    have := congrArg (fun z => z ^^^ (tw (tw a') ^^^ tw (tw c'))) s1
    simpa only [UInt8.xor_assoc, UInt8.xor_self, UInt8.xor_zero] using this.symm
  · rw [UInt8.xor_assoc, UInt8.xor_assoc, UInt8.xor_comm (tw (tw c)), UInt8.xor_comm (tw (tw c')), e2] at s3
    have := congrArg (fun z => z ^^^ (tw (tw a') ^^^ tw (tw c'))) s3
    simpa only [UInt8.xor_assoc, UInt8.xor_self, UInt8.xor_zero] using this.symm

theorem list16 {l : List UInt8} (h : l.length = 16) : ∃ x0 x1 x2 x3 x4 x5 x6 x7 x8 x9 x10 x11 x12 x13 x14 x15, l = [x0, x1, x2, x3, x4, x5, x6, x7, x8, x9, x10, x11, x12, x13, x14, x15] := by
  match l, h with
  | [x0, x1, x2, x3, x4, x5, x6, x7, x8, x9, x10, x11, x12, x13, x14, x15], _ => exact ⟨_, _, _, _, _, _, _, _, _, _, _, _, _, _, _, _, rfl⟩
theorem xor_can {x y z : UInt8} (h : x ^^^ z = y ^^^ z) : x = y := by
  have := congrArg (· ^^^ z) h
  simpa only [UInt8.xor_assoc, UInt8.xor_self, UInt8.xor_zero] using this

theorem addL16 (x0 x1 x2 x3 x4 x5 x6 x7 x8 x9 x10 x11 x12 x13 x14 x15 z0 z1 z2 z3 z4 z5 z6 z7 z8 z9 z10 z11 z12 z13 z14 z15 : UInt8) : addL [x0, x1, x2, x3, x4, x5, x6, x7, x8, x9, x10, x11, x12, x13, x14, x15] [z0, z1, z2, z3, z4, z5, z6, z7, z8, z9, z10, z11, z12, z13, z14, z15] = [x0 ^^^ z0, x1 ^^^ z1, x2 ^^^ z2, x3 ^^^ z3, x4 ^^^ z4, x5 ^^^ z5, x6 ^^^ z6, x7 ^^^ z7, x8 ^^^ z8, x9 ^^^ z9, x10 ^^^ z10, x11 ^^^ z11, x12 ^^^ z12, x13 ^^^ z13, x14 ^^^ z14, x15 ^^^ z15] := by kernel_rfl
theorem mvL16 (x0 x1 x2 x3 x4 x5 x6 x7 x8 x9 x10 x11 x12 x13 x14 x15 : UInt8) : mvL [x0, x1, x2, x3, x4, x5, x6, x7, x8, x9, x10, x11, x12, x13, x14, x15] = [sB x0, sB x5, sB x10, sB x15, sB x4, sB x9, sB x14, sB x3, sB x8, sB x13, sB x2, sB x7, sB x12, sB x1, sB x6, sB x11] := by kernel_rfl
theorem mxL16 (x0 x1 x2 x3 x4 x5 x6 x7 x8 x9 x10 x11 x12 x13 x14 x15 : UInt8) : mxL [x0, x1, x2, x3, x4, x5, x6, x7, x8, x9, x10, x11, x12, x13, x14, x15] = [mxB x0 x1 x2 x3, mxB x1 x2 x3 x0, mxB x2 x3 x0 x1, mxB x3 x0 x1 x2, mxB x4 x5 x6 x7, mxB x5 x6 x7 x4, mxB x6 x7 x4 x5, mxB x7 x4 x5 x6, mxB x8 x9 x10 x11, mxB x9 x10 x11 x8, mxB x10 x11 x8 x9, mxB x11 x8 x9 x10, mxB x12 x13 x14 x15, mxB x13 x14 x15 x12, mxB x14 x15 x12 x13, mxB x15 x12 x13 x14] := by kernel_rfl

theorem addL_inj {l l' m : List UInt8} (h1 : l.length = 16) (h2 : l'.length = 16) (h3 : m.length = 16) (h : addL l m = addL l' m) : l = l' := by
  obtain ⟨x0, x1, x2, x3, x4, x5, x6, x7, x8, x9, x10, x11, x12, x13, x14, x15, rfl⟩ := list16 h1
  obtain ⟨y0, y1, y2, y3, y4, y5, y6, y7, y8, y9, y10, y11, y12, y13, y14, y15, rfl⟩ := list16 h2
  obtain ⟨z0, z1, z2, z3, z4, z5, z6, z7, z8, z9, z10, z11, z12, z13, z14, z15, rfl⟩ := list16 h3
  rw [addL16, addL16] at h
  simp only [List.cons.injEq, and_true] at h
  obtain ⟨e0, e1, e2, e3, e4, e5, e6, e7, e8, e9, e10, e11, e12, e13, e14, e15⟩ := h
  rw [xor_can e0, xor_can e1, xor_can e2, xor_can e3, xor_can e4, xor_can e5, xor_can e6, xor_can e7, xor_can e8, xor_can e9, xor_can e10, xor_can e11, xor_can e12, xor_can e13, xor_can e14, xor_can e15]
theorem mvL_inj {l l' : List UInt8} (h1 : l.length = 16) (h2 : l'.length = 16) (h : mvL l = mvL l') : l = l' := by
  obtain ⟨x0, x1, x2, x3, x4, x5, x6, x7, x8, x9, x10, x11, x12, x13, x14, x15, rfl⟩ := list16 h1
  obtain ⟨y0, y1, y2, y3, y4, y5, y6, y7, y8, y9, y10, y11, y12, y13, y14, y15, rfl⟩ := list16 h2
  rw [mvL16, mvL16] at h
  simp only [List.cons.injEq, and_true] at h
  obtain ⟨e0, e5, e10, e15, e4, e9, e14, e3, e8, e13, e2, e7, e12, e1, e6, e11⟩ := h
  rw [sB_inj e0, sB_inj e1, sB_inj e2, sB_inj e3, sB_inj e4, sB_inj e5, sB_inj e6, sB_inj e7, sB_inj e8, sB_inj e9, sB_inj e10, sB_inj e11, sB_inj e12, sB_inj e13, sB_inj e14, sB_inj e15]
theorem mxL_inj {l l' : List UInt8} (h1 : l.length = 16) (h2 : l'.length = 16) (h : mxL l = mxL l') : l = l' := by
  obtain ⟨x0, x1, x2, x3, x4, x5, x6, x7, x8, x9, x10, x11, x12, x13, x14, x15, rfl⟩ := list16 h1
  obtain ⟨y0, y1, y2, y3, y4, y5, y6, y7, y8, y9, y10, y11, y12, y13, y14, y15, rfl⟩ := list16 h2
  rw [mxL16, mxL16] at h
  simp only [List.cons.injEq, and_true] at h
  obtain ⟨e0, e1, e2, e3, e4, e5, e6, e7, e8, e9, e10, e11, e12, e13, e14, e15⟩ := h
  obtain ⟨rfl, rfl⟩ := mx_inj e0 e1 e2 e3
  obtain ⟨rfl, rfl⟩ := mx_inj e1 e2 e3 e0
  obtain ⟨rfl, rfl⟩ := mx_inj e4 e5 e6 e7
  obtain ⟨rfl, rfl⟩ := mx_inj e5 e6 e7 e4
  obtain ⟨rfl, rfl⟩ := mx_inj e8 e9 e10 e11
  obtain ⟨rfl, rfl⟩ := mx_inj e9 e10 e11 e8
  obtain ⟨rfl, rfl⟩ := mx_inj e12 e13 e14 e15
  obtain ⟨rfl, rfl⟩ := mx_inj e13 e14 e15 e12
  rfl

theorem rdS_inj {ks : List (List UInt8)} (hk : B11 ks) {l l' : List UInt8} (h1 : l.length = 16) (h2 : l'.length = 16) (k : Nat) (hk9 : k ≤ 9) (h : rdS ks l k = rdS ks l' k) : l = l' := by
  induction k with
  | zero => exact addL_inj h1 h2 (hk.at_ (by omega)) h
  | succ k ih => exact ih (by omega) (mvL_inj (rdS_len ks h1 k) (rdS_len ks h2 k) (mxL_inj (mvL_len _) (mvL_len _) (addL_inj (mxL_len (mvL_len _)) (mxL_len (mvL_len _)) (hk.at_ (by omega)) h)))
theorem seL_inj {ks : List (List UInt8)} (hk : B11 ks) {l l' : List UInt8} (h1 : l.length = 16) (h2 : l'.length = 16) (h : seL ks l = seL ks l') : l = l' :=
  rdS_inj hk h1 h2 9 (Nat.le_refl _) (mvL_inj (rdS_len ks h1 9) (rdS_len ks h2 9) (addL_inj (mvL_len _) (mvL_len _) (hk.at_ (by omega)) h))
end
end Go.Proofs.YtblclinfcdalaaaDoor
