/-
  gcm.stream.tag. Printed by tools/gen_gctag.py.
-/
import Derived.Test.YtbnnjkjmadnjkaaDoorSk37
namespace Go.Proofs.YtbnnjkjmadnjkaaDoor
open Go.RowKit
set_option linter.unusedVariables false

/-- Two numbers as a polynomial's words. -/
def lnW (a b : Nat) : W128 := BitVec.ofNat 128 (a % 2 ^ 64 * 2 ^ 64 + b % 2 ^ 64)
theorem lnW_nat (a b : Nat) : (lnW a b).toNat = a % 2 ^ 64 * 2 ^ 64 + b % 2 ^ 64 := by
  rw [lnW, BitVec.toNat_ofNat, Nat.mod_eq_of_lt]
  have := Nat.mod_lt a (show 2 ^ 64 > 0 by decide)
  have := Nat.mod_lt b (show 2 ^ 64 > 0 by decide)
  omega
theorem ln_lo (a b : Nat) : loG (lnW a b) = BitVec.ofNat 64 a := by
  apply BitVec.eq_of_toNat_eq
  rw [loG, BitVec.extractLsb'_toNat, lnW_nat, Nat.shiftRight_eq_div_pow, BitVec.toNat_ofNat]
  have := Nat.mod_lt b (show 2 ^ 64 > 0 by decide)
  omega
theorem ln_hi (a b : Nat) : hiG (lnW a b) = BitVec.ofNat 64 b := by
  apply BitVec.eq_of_toNat_eq
  rw [hiG, BitVec.extractLsb'_toNat, lnW_nat, Nat.shiftRight_eq_div_pow, BitVec.toNat_ofNat]
  omega
theorem pRow_ln (a b : Nat) (ha : a < 1152921504606846976) (hb : b < 1152921504606846976) : (#[.int .u64 (8 * (a : Int)), .int .u64 (8 * (b : Int))] : Array Value) = pRow (lnW (8 * a) (8 * b)) := by
  unfold pRow pL wq
  rw [ln_lo, ln_hi, BitVec.toNat_ofNat, BitVec.toNat_ofNat, Nat.mod_eq_of_lt (by omega), Nat.mod_eq_of_lt (by omega)]
  rfl
/-- The block of 0, sealed, as a polynomial. -/
def kyG (ks : List (List UInt8)) : W128 := bkG (seL ks (List.replicate 16 0))
/-- A tag. -/
def tgW (ks : List (List UInt8)) (nn aad text : List UInt8) : W128 := tmG (fdW (kyG ks) (fdW (kyG ks) 0#128 aad) text ^^^ lnW (8 * aad.length) (8 * text.length)) (kyG ks)
def tgL (ks : List (List UInt8)) (nn aad text : List UInt8) : List UInt8 := blG (tgW ks nn aad text ^^^ bkG (stG ks nn 1))
theorem tg_len (ks : List (List UInt8)) (nn aad text : List UInt8) : (tgL ks nn aad text).length = 16 := bl_len _
theorem built_blk0 : Tryd.prog.built 23 [] = some (aRow (List.replicate 16 0)) := by kernel_rfl

set_option maxRecDepth 100000 in
set_option maxHeartbeats 1000000 in
theorem tag_any (g : Nat) (ks : List (List UInt8)) (nn l m : List UInt8) (A B : Option Addr) (c d : Nat) (w : World) (hk : B11 ks) (hg : Wh w g 107 (aRow ks.flatten)) (hn : nn.length = 12)
    (hs : Sl w w.heap.size A l) (hlc : l.length ≤ c) (hcm : c ≤ maxLen) (hl : l.length ≤ 1048576) (ht : Sl w w.heap.size B m) (hmd : m.length ≤ d) (hdm : d ≤ maxLen) (hm : m.length ≤ 1048576) :
    Calls Tryd.prog 41 #[.agg (sRow g nn), .slice A l.length c, .slice B m.length d] w fun e w' => e = .returned (.agg (aRow (tgL ks nn l m))) ∧ Below w.heap.size w w' := by
  have HN := Deep.mk hn
  have HK := Deep.mk hk
  have hgl := hg.lt
  have HG := Lib.hid hg
  have HS := Lib.hid hs
  have HT := Lib.hid ht
  have HCM := Lib.hid hcm
  have HDM := Lib.hid hdm
  have HLC := Lib.hid hlc
  have HMD := Lib.hid hmd
  clear hk hg hn hs ht hcm hdm hlc hmd
  go_enter Tryd.func41, Tryd.ntmps41
  go_upto_region 1 with (fail)
  rw [zeros16]
  obtain ⟨hbe, h1, h2⟩ := made2 w (sRow g nn) (aRow (List.replicate 16 0)) 85 23
  generalize (w.alloc (.cells (sRow g nn) 85)).alloc (.cells (aRow (List.replicate 16 0)) 23) = W at *
  obtain ⟨a, ha⟩ : ∃ a, a = w.heap.size := ⟨_, rfl⟩
  rw [← ha] at h1 h2 ⊢
  obtain ⟨r, hr⟩ : ∃ b', b' = a + 1 := ⟨_, rfl⟩
  rw [← hr] at h2 ⊢
  have har : a < r := by omega
  have hga : g < a := by omega
  have hc0 := (h1.cell 0).trans (sRow_0 g nn)
  have HA := Lib.hid ha
  have HBE := Lib.hid hbe
  have H1 := Lib.hid h1
  have H2 := Lib.hid h2
  have HGW := Lib.hid (HG.out.below hbe hgl)
  clear ha hr hbe h1 h2 hgl
  obtain ⟨Z, hZ⟩ : ∃ Z : List UInt8, Z = List.replicate 16 0 := ⟨_, rfl⟩
  have HZL : Deep (Z.length = 16) := ⟨by rw [hZ]; rfl⟩
  have HB0 : Deep (Tryd.prog.built 23 [] = some (aRow Z)) := ⟨by rw [hZ]; exact built_blk0⟩
  rw [← hZ] at H2
  have HZ := Deep.mk hZ
  clear hZ
  go_wp2_with (first | (refine wpList_built0 rfl 23 rfl (aRow Z) HB0.out ?_))
  refine (seal_any g ks Z _ HK.out HGW.out HZL.out).mono ?_
  rintro e w3 ⟨rfl, hb3⟩
  have H13 := Lib.hid (H1.out.below hb3 H1.out.lt)
  have H23 := Lib.hid (H2.out.below hb3 H2.out.lt)
  have HB3 := Lib.hid (HBE.out.trans (hb3.mono HBE.out.size))
  clear hb3 H1 H2 HBE HGW hc0
  go_wp2_with fail
  refine (gof_any (seL ks Z) _ (seL_len _ _)).mono ?_
  rintro e w4 ⟨rfl, hb4⟩
  have H14 := Lib.hid (H13.out.below hb4 H13.out.lt)
  have H24 := Lib.hid (H23.out.below hb4 H23.out.lt)
  have HB4 := Lib.hid (HB3.out.trans (hb4.mono HB3.out.size))
  clear hb4 H13 H23 HB3
  obtain ⟨S0, hS0⟩ : ∃ S0, S0 = seL ks Z := ⟨_, rfl⟩
  rw [← hS0]
  obtain ⟨f, hf⟩ : ∃ f, f = bkG S0 := ⟨_, rfl⟩
  rw [← hf]
  have HF : Deep (f = kyG ks) := ⟨by rw [hf, hS0, HZ.out]; rfl⟩
  clear hf hS0
  go_upto_region 2 with (first
    | (refine wpList_built1 rfl 114 (.tmp 12) rfl (.agg (pRow f)) rfl (hRow f 0#128) (built_hash' f) ?_)
    | (refine wpList_store_row rfl 114 (.tmp 7) (.tmp 13) rfl w4.heap.size (hRow f 0#128) rfl rfl _ _ (heap_alloc_new w4 _) (info_hash f 0#128) rfl (hL_one _ _) ?_; rw [World.setRow_alloc_new]))
  obtain ⟨h, hh⟩ : ∃ h, h = w4.heap.size := ⟨_, rfl⟩
  have h5 := Wh.new w4 114 (hRow f 0#128)
  have H15 := Lib.hid (H14.out.alloc (.cells (hRow f 0#128) 114))
  have H25 := Lib.hid (H24.out.alloc (.cells (hRow f 0#128) 114))
  have HB5 := Lib.hid (HB4.out.alloc HB4.out.size (.cells (hRow f 0#128) 114))
  have hrh : r < h := by rw [hh]; exact H24.out.lt
  have hwh : w.heap.size ≤ h := by rw [hh]; exact HB4.out.size
  have hhs : h < (w4.alloc (.cells (hRow f 0#128) 114)).heap.size := by rw [hh]; simp
  rw [← hh] at h5 ⊢
  have HH5 := Lib.hid h5
  clear hh h5 H14 H24 HB4
  generalize w4.alloc (.cells (hRow f 0#128) 114) = w5 at *
  have HS5 := Lib.hid (Sx.of (HS.out.below HB5.out) hwh hhs)
  go_wp2_with fail
  refine (hashadd_any h f 0#128 l A c w5 HH5.out HS5.out HLC.out HCM.out).mono ?_
  rintro e w6 ⟨rfl, hw6, hg6⟩
  have hhs6 : h < w6.heap.size := hw6.lt
  have H16 := Lib.hid (H15.out.grown hg6 (by intro e; have := Option.some.inj e; omega))
  have H26 := Lib.hid (H25.out.grown hg6 (by intro e; have := Option.some.inj e; omega))
  have HB6 := Lib.hid (below_grownA HB5.out hg6 hwh HB5.out.size)
  have HH6 := Lib.hid hw6
  have HT6 := Lib.hid (Sx.of (HT.out.below HB6.out) hwh hhs6)
  clear hw6 hg6 H15 H25 HB5 HH5 HS5 hhs
  obtain ⟨s1, hs1⟩ : ∃ s1, s1 = fdW f 0#128 l := ⟨_, rfl⟩
  rw [← hs1] at HH6
  go_wp2_with fail
  refine (hashadd_any h f s1 m B d w6 HH6.out HT6.out HMD.out HDM.out).mono ?_
  rintro e w7 ⟨rfl, hw7, hg7⟩
  have H17 := Lib.hid (H16.out.grown hg7 (by intro e; have := Option.some.inj e; omega))
  have H27 := Lib.hid (H26.out.grown hg7 (by intro e; have := Option.some.inj e; omega))
  have HB7 := Lib.hid (below_grownA HB6.out hg7 hwh HB6.out.size)
  have HH7 := Lib.hid hw7
  clear hw7 hg7 H16 H26 HB6 HH6 HT6 hhs6
  obtain ⟨s2, hs2⟩ : ∃ s2, s2 = fdW f s1 m := ⟨_, rfl⟩
  rw [← hs2] at HH7
  have HS2 : Deep (s2 = fdW (kyG ks) (fdW (kyG ks) 0#128 l) m) := ⟨by rw [hs2, hs1, HF.out]⟩
  clear hs1 hs2
  have HLN := Deep.mk (pRow_ln l.length m.length (by omega) (by omega))
  obtain ⟨u, hu⟩ : ∃ u, u = lnW (8 * l.length) (8 * m.length) := ⟨_, rfl⟩
  rw [← hu] at HLN
  go_wp2_with fail
  rw [HLN.out]
  refine (hashtake_any h f s2 u w7 HH7.out).mono ?_
  rintro e w8 ⟨rfl, hw8, hg8⟩
  have H18 := Lib.hid (H17.out.grown hg8 (by intro e; have := Option.some.inj e; omega))
  have H28 := Lib.hid (H27.out.grown hg8 (by intro e; have := Option.some.inj e; omega))
  have HB8 := Lib.hid (below_grownA HB7.out hg8 hwh HB7.out.size)
  have HH8 := Lib.hid hw8
  clear hw8 hg8 H17 H27 HB7 HH7 HLN
  obtain ⟨v, hv⟩ : ∃ v, v = tmG (s2 ^^^ u) f := ⟨_, rfl⟩
  rw [← hv] at HH8
  have HV : Deep (v = tgW ks nn l m) := ⟨by rw [hv, HS2.out, hu, HF.out]; rfl⟩
  clear hv hu
  go_wp2_with fail
  obtain ⟨Q, hQ⟩ : ∃ Q, Q = stG ks nn 1 := ⟨_, rfl⟩
  have hst := fun w' hg' => stblock_any g ks nn 1 w' HK.out hg' HN.out (by omega)
  rw [← hQ] at hst
  have HST : Hid (∀ w', Wh w' g 107 (aRow ks.flatten) → Calls Tryd.prog 58 #[.agg (sRow g nn), .int .u32 1] w' fun e w'' => e = .returned (.agg (aRow Q)) ∧ Below w'.heap.size w' w'') := Lib.hid hst
  have HQL : Deep (Q.length = 16) := ⟨by rw [hQ]; exact st_len _ _ _⟩
  have HQ : Deep (blG (v ^^^ bkG Q) = tgL ks nn l m) := ⟨by rw [hQ, HV.out]; rfl⟩
  have hgw8 : Wh w8 g 107 (aRow ks.flatten) := HG.out.below HB8.out (by rw [← HA.out]; exact hga)
  have HG8 := Lib.hid hgw8
  clear hQ hst hgw8
  have hG : Wh w8.drew h 114 (hRow f v) ∧ Wh w8.drew a 85 (sRow g nn) := ⟨HH8.out, H18.out⟩
  refine wp_region_held_drew (S := fun w' => Wh w' h 114 (hRow f v) ∧ Wh w' a 85 (sRow g nn)) (by kernel_rfl) hG (fun _ => ?_)
  refine wpAnyH_take (i := 0) (v := .pointer (some ⟨h, 2, none⟩)) (List.getElem?_toArray.trans rfl) (by kernel_rfl) (by kernel_rfl) (by kernel_rfl) (fun _ _ _ h => h) (.inl ⟨rfl, fun w' hS => by simp [go_sem]⟩) hG ?_
  refine act_normM (by simp only [Act.put, List.setIfInBounds_toArray, List.set_cons_zero, List.set_cons_succ]; rfl) ?_
  refine wpAnyH_take (i := 1) (v := .agg (pRow v)) (List.getElem?_toArray.trans rfl) (by kernel_rfl) (by kernel_rfl) (by kernel_rfl) (fun _ _ _ h => h) (yieldsIf_load_mid (by rfl) 111 (.tmp 28) rfl h 2 rfl (pL v) _ (fun w' hS => hRow_s hS.1) Tryd.underlying111 rfl info_pol) hG ?_
  refine act_normM (by simp only [Act.put, List.setIfInBounds_toArray, List.set_cons_zero, List.set_cons_succ]; rfl) ?_
  refine wpAnyH_take (i := 2) (v := .agg (sRow g nn)) (List.getElem?_toArray.trans rfl) (by kernel_rfl) (by kernel_rfl) (by kernel_rfl) (fun _ _ _ h => h) (yieldsIf_load_mid (by rfl) 85 (.tmp 3) rfl a 0 rfl (sL g nn) _ (fun w' hS => Wh.whole hS.2) Tryd.underlying85 rfl (info_sL HN.out)) hG ?_
  refine act_normM (by simp only [Act.put, List.setIfInBounds_toArray, List.set_cons_zero, List.set_cons_succ]; rfl) ?_
  refine wpAnyH_ready (rs := [3]) (by kernel_rfl) (by simp) (AllReadyH.cons (List.getElem?_toArray.trans rfl) (fun K' hK => ?_) AllReadyH.nil)
  refine wanted_goM rfl ?_
  go_simp
  refine (HST.out w8.drew HG8.out).mono ?_
  rintro e w9 ⟨rfl, hb9⟩
  have HC9 : Hid (Below w8.heap.size w8 w9) := Lib.hid ((Below.refl _ _).drew.trans hb9)
  have hG9 : Wh w9 h 114 (hRow f v) ∧ Wh w9 a 85 (sRow g nn) := ⟨HH8.out.below HC9.out HH8.out.lt, H18.out.below HC9.out H18.out.lt⟩
  clear hb9
  refine hK.out _ _ hG9 (fun _ => ?_)
  clear hK K'
  refine wpAnyH_ready (rs := [4]) (by kernel_rfl) (by simp) (AllReadyH.cons (List.getElem?_toArray.trans rfl) (fun K' hK => ?_) AllReadyH.nil)
  refine wanted_goM rfl ?_
  go_simp
  refine (gof_any Q w9 HQL.out).mono ?_
  rintro e w10 ⟨rfl, hb10⟩
  have HC10 : Hid (Below w8.heap.size w8 w10) := Lib.hid (HC9.out.trans (hb10.mono HC9.out.size))
  have hG10 : Wh w10 h 114 (hRow f v) ∧ Wh w10 a 85 (sRow g nn) := ⟨HH8.out.below HC10.out HH8.out.lt, H18.out.below HC10.out H18.out.lt⟩
  clear hb10
  refine hK.out _ _ hG10 (fun _ => ?_)
  clear hK K'
  refine wpAnyH_ready (rs := [5]) (by kernel_rfl) (by simp) (AllReadyH.cons (List.getElem?_toArray.trans rfl) (fun K' hK => ?_) AllReadyH.nil)
  refine wanted_goM rfl ?_
  go_simp
  refine (plus_any v (bkG Q) w10).mono ?_
  rintro e w11 ⟨rfl, hb11⟩
  have HC11 : Hid (Below w8.heap.size w8 w11) := Lib.hid (HC10.out.trans (hb11.mono HC10.out.size))
  have hG11 : Wh w11 h 114 (hRow f v) ∧ Wh w11 a 85 (sRow g nn) := ⟨HH8.out.below HC11.out HH8.out.lt, H18.out.below HC11.out H18.out.lt⟩
  clear hb11
  refine hK.out _ _ hG11 (fun _ => ?_)
  clear hK K'
  obtain ⟨T, hT⟩ : ∃ T, T = blG (v ^^^ bkG Q) := ⟨_, rfl⟩
  have HTL : Deep (T.length = 16) := ⟨by rw [hT]; exact bl_len _⟩
  have hbk := fun w' => block_any (v ^^^ bkG Q) w'
  rw [← hT] at hbk
  have HBK := Lib.hid hbk
  rw [HQ.out] at hT
  have HTT := Deep.mk hT
  clear hbk hT
  refine wpAnyH_ready (rs := [6]) (by kernel_rfl) (by simp) (AllReadyH.cons (List.getElem?_toArray.trans rfl) (fun K' hK => ?_) AllReadyH.nil)
  refine wanted_goM rfl ?_
  go_simp
  refine (HBK.out w11).mono ?_
  rintro e w12 ⟨rfl, hb12⟩
  have HC12 : Hid (Below w8.heap.size w8 w12) := Lib.hid (HC11.out.trans (hb12.mono HC11.out.size))
  have hG12 : Wh w12 h 114 (hRow f v) ∧ Wh w12 a 85 (sRow g nn) := ⟨HH8.out.below HC12.out HH8.out.lt, H18.out.below HC12.out H18.out.lt⟩
  clear hb12
  refine hK.out _ _ hG12 (fun _ => ?_)
  clear hK K'
  have hR12 := H28.out.below HC12.out H28.out.lt
  obtain ⟨hs1, hs2⟩ := Wh.over hR12 HZL.out HTL.out
  have hG13 : Wh (w12.setCells r 0 (T.map cell8)) h 114 (hRow f v) ∧ Wh (w12.setCells r 0 (T.map cell8)) a 85 (sRow g nn) := ⟨hG12.1.grown hs2 (by intro e; have := Option.some.inj e; omega), hG12.2.grown hs2 (by intro e; have := Option.some.inj e; omega)⟩
  refine wpAnyH_ready (rs := [7]) (by kernel_rfl) (by simp) (AllReadyH.cons (List.getElem?_toArray.trans rfl) (fun K' hK => ?_) AllReadyH.nil)
  refine wanted_goM rfl ?_
  refine wp_store_mid 23 (.tmp 6) (.tmp 34) rfl r 0 (aRow T) rfl rfl (by rw [aRow_size, HTL.out]; exact Wh.there hR12 HZL.out) (info_aRow HTL.out) (aRow_one _) ?_
  rw [aRow_list]
  refine hK.out _ _ hG13 (fun _ => ?_)
  clear hK K'
  refine wpAnyH_done (by kernel_rfl) ?_ _
  have HW13 := Lib.hid hs1
  have hwr : w.heap.size ≤ r := by rw [← HA.out]; omega
  have HB13 := Lib.hid (below_grownA (HB8.out.trans (HC12.out.mono HB8.out.size)) hs2 hwr (Nat.le_trans HB8.out.size HC12.out.size))
  clear hG hG9 hG10 hG11 hG12 hG13 hR12 hs1 hs2
  simp only [Act.put]
  generalize w12.setCells r 0 (T.map cell8) = w13 at *
  go_wp2
  refine bodyPost_ret (v := .agg (aRow T)) (results_cell_row Tryd.results41 _ _ r _ _ (0, 0) _ rfl HW13.out Tryd.underlying23 rfl (info_aRow HTL.out)) rfl ?_
  exact ⟨by rw [HTT.out], HB13.out⟩
end Go.Proofs.YtbnnjkjmadnjkaaDoor
