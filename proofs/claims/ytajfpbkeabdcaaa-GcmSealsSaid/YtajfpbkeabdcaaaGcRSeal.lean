/-
  hostlerref09.Key.Seal: the document's own sealing. Printed by tools/gen_gcrseal.py.
-/
import Derived.Test.YtajfpbkeabdcaaaGcRTag
import Derived.Test.YtajfpbkeabdcaaaGcSeal
namespace Go.Proofs.Ytajfpbkeabdcaaa
open Go.RowKit
set_option linter.unusedVariables false

set_option maxRecDepth 100000 in
set_option maxHeartbeats 4000000 in
theorem rgseal_any (key nn l m : List UInt8) (Ab Aw A B E : Option Addr) (cb cw c d f D n p : Nat) (w : World) (hD : D ≤ w.heap.size) (hk : key.length = 16) (hK : KeyIs w D Ab Aw key) (hl : nn.length = 12) (hs : Sl w D A nn)
    (ht : Sl w D B l) (hln : l.length = n) (hn : n ≤ 1048576) (hu : Sl w D E m) (hlp : m.length = p) (hp : p ≤ 1048576) :
    Calls Try.prog 9 #[.agg (kRow Ab Aw cb cw), .slice A 12 c, .slice B n d, .slice E p f] w (GaveN w (p + 16) (sealK key nn l m)) := by
  obtain ⟨i0, hi0, hz0, hz1, hz2⟩ := info_parts info8
  obtain ⟨T, hT⟩ : ∃ T, T = tuL (ksL key) nn m := ⟨_, rfl⟩
  obtain ⟨G, hG⟩ : ∃ G, G = tgL (ksL key) nn l T := ⟨_, rfl⟩
  have HSE : Deep (T ++ G = sealK key nn l m) := ⟨by rw [hG, hT]; rfl⟩
  have hTl : T.length = p := by rw [hT, tu_len, hlp]
  have hGl : G.length = 16 := by rw [hG]; exact tg_len _ _ _ _
  have HT0 := Deep.mk hT
  have HG0 := Deep.mk hG
  have HTL := Deep.mk hTl
  have HGL := Deep.mk hGl
  have HKL := Deep.mk hk
  have HNL := Deep.mk hl
  have HLN := Deep.mk hln
  have HLP := Deep.mk hlp
  have HK := Lib.hid hK
  have HS := Lib.hid hs
  have HT := Lib.hid ht
  have HU := Lib.hid hu
  have h1 := Wh.new w 27 (kRow Ab Aw cb cw)
  have hbe : Below w.heap.size w (w.alloc (.cells (kRow Ab Aw cb cw) 27)) := (Below.refl _ _).alloc (Nat.le_refl _) _
  clear hk hK hl hs ht hu hT hG hln hlp hTl hGl
  rw [← HSE.out]
  go_enter Try.func9, Try.ntmps9
  go_upto_region 1 with (fail)
  obtain ⟨kb, hkb⟩ : ∃ b, b = w.heap.size := ⟨_, rfl⟩
  rw [← hkb] at h1 ⊢
  generalize w.alloc (.cells (kRow Ab Aw cb cw) 27) = w1 at *
  have H1 := Lib.hid h1
  have HB1 := Lib.hid hbe
  have hturn := rturn_any key nn m Ab Aw A E cb cw c f D p w1 (Nat.le_trans hD hbe.size) HKL.out (HK.out.below (hbe.mono hD)) HNL.out (HS.out.below (hbe.mono hD)) (HU.out.below (hbe.mono hD)) HLP.out hp
  rw [← HT0.out] at hturn
  have HTURN := Lib.hid hturn
  clear hkb h1 hbe hturn
  go_wp2_with (first
    | (refine wpList_load_row rfl 27 (.tmp 4) rfl kb rfl _ (kRow Ab Aw cb cw) _ _ H1.out Try.underlying27 rfl (info_key Ab Aw cb cw) ?_))
  refine HTURN.out.mono ?_
  rintro e w2 ⟨A2, c2, rfl, h21, h22, ho2, hb2⟩
  have HT2 := Lib.hid (Sv.of_own ho2)
  have HB2 := Lib.hid (HB1.out.trans (hb2.mono HB1.out.size))
  have HK2 := Lib.hid (H1.out.below hb2 H1.out.lt)
  clear ho2 hb2 HTURN H1 HB1 h21 h22
  go_upto_region 2 with (fail)
  have ht2 : Sl w2.drew w2.drew.heap.size A2 T := HT2.out
  have hk2 : Wh w2.drew kb 27 (kRow Ab Aw cb cw) := HK2.out
  have hF2 : Below w.heap.size w w2.drew := HB2.out.drew
  clear HT2 HK2 HB2
  refine wp_region_held_drew (S := fun w' => SinceM w2.drew w') (by kernel_rfl) (SinceM.self _) (fun _ => ?_)
  generalize w2.drew = w0 at *
  have hD0 := Nat.le_trans hD hF2.size
  have htl : (T.map cell8).length = p := by rw [List.length_map, HTL.out]
  have hgl : (G.map cell8).length = 16 := by rw [List.length_map, HGL.out]
  refine wpAnyH_take (i := 1) (v := .slice A2 p c2) (List.getElem?_toArray.trans rfl) (by kernel_rfl) (by kernel_rfl) (by kernel_rfl) (fun _ _ _ h => h) (.inl ⟨rfl, fun w' hS => rfl⟩) (SinceM.self _) ?_
  refine act_normM (by simp only [Act.put, List.setIfInBounds_toArray, List.set_cons_zero, List.set_cons_succ]; rfl) ?_
  refine wpAnyH_take (i := 3) (v := .agg (kRow Ab Aw cb cw)) (List.getElem?_toArray.trans rfl) (by kernel_rfl) (by kernel_rfl) (by kernel_rfl) (fun _ _ _ h => h) (yieldsIf_load_mid (by rfl) 27 (.tmp 4) rfl kb 0 rfl [.slice Ab 256 cb, .slice Aw 176 cw] _ (fun w' hS => Wh.whole (SinceM.wh hS hk2)) Try.underlying27 rfl (info_key Ab Aw cb cw)) (SinceM.self _) ?_
  refine act_normM (by simp only [Act.put, List.setIfInBounds_toArray, List.set_cons_zero, List.set_cons_succ]; rfl) ?_
  refine wpAnyH_take (i := 4) (v := .slice A 12 c) (List.getElem?_toArray.trans rfl) (by kernel_rfl) (by kernel_rfl) (by kernel_rfl) (fun _ _ _ h => h) (.inl ⟨rfl, fun w' hS => rfl⟩) (SinceM.self _) ?_
  refine act_normM (by simp only [Act.put, List.setIfInBounds_toArray, List.set_cons_zero, List.set_cons_succ]; rfl) ?_
  refine wpAnyH_take (i := 5) (v := .slice B n d) (List.getElem?_toArray.trans rfl) (by kernel_rfl) (by kernel_rfl) (by kernel_rfl) (fun _ _ _ h => h) (.inl ⟨rfl, fun w' hS => rfl⟩) (SinceM.self _) ?_
  refine act_normM (by simp only [Act.put, List.setIfInBounds_toArray, List.set_cons_zero, List.set_cons_succ]; rfl) ?_
  refine wpAnyH_take (i := 6) (v := .slice A2 p c2) (List.getElem?_toArray.trans rfl) (by kernel_rfl) (by kernel_rfl) (by kernel_rfl) (fun _ _ _ h => h) (.inl ⟨rfl, fun w' hS => rfl⟩) (SinceM.self _) ?_
  refine act_normM (by simp only [Act.put, List.setIfInBounds_toArray, List.set_cons_zero, List.set_cons_succ]; rfl) ?_
  refine wpAnyH_ready (rs := [0]) (by kernel_rfl) (by simp) (AllReadyH.cons (List.getElem?_toArray.trans rfl) (fun K' hK => ?_) AllReadyH.nil)
  refine wanted_goM rfl ?_
  go_simp
  have hS1 : SinceM w0 (w0.alloc (.cells #[] 5)) := (Below.refl _ _).alloc (Nat.le_refl _) _
  have ho1 := own_none w0 5
  have ht1 := SinceM.sl hS1 ht2 (Nat.le_refl _)
  refine hK.out _ _ hS1 (fun _ => ?_)
  clear hK K'
  refine wpAnyH_ready (rs := [2]) (by kernel_rfl) (by simp) (AllReadyH.cons (List.getElem?_toArray.trans rfl) (fun K' hK => ?_) AllReadyH.nil)
  refine step_app_sv rfl (.tmp 14) (.tmp 15) _ rfl w0.heap.size 5 i0 _ 1 Try.underlying24 hi0 hz0 hz1 hz2 rfl (.slice (some ⟨w0.heap.size, 0, none⟩) 0 0) 0 [] rfl ho1 w0.heap.size A2 p c2 (T.map cell8) rfl ht1 htl (cell8_one _) (by unfold maxLen; omega) (by omega) hS1.size ?_
  intro v3 w3 ho3 hg3
  rw [Nat.zero_add, List.nil_append] at ho3
  have hS3 : SinceM w0 w3 := Below.grown hS1 hg3 hS1.size (fun q hq => (ho1.lt q hq).1)
  have htag := rtag_any key nn l T Ab Aw A B A2 cb cw c d c2 w3.heap.size n p w3 (Nat.le_refl _) HKL.out (((HK.out.below (hF2.mono hD)).below (hS3.mono hD0)).mono (Nat.le_trans hD0 hS3.size)) HNL.out ((HS.out.below ((hF2.trans (hS3.mono hF2.size)).mono hD)).keep (Nat.le_trans hD0 hS3.size) (fun _ _ => rfl)) ((HT.out.below ((hF2.trans (hS3.mono hF2.size)).mono hD)).keep (Nat.le_trans hD0 hS3.size) (fun _ _ => rfl)) HLN.out hn ((SinceM.sl hS3 ht2 (Nat.le_refl _)).keep hS3.size (fun _ _ => rfl)) HTL.out hp
  rw [← HG0.out] at htag
  obtain ⟨A3, c3, rfl, h31, h32⟩ := own_form ho3
  refine hK.out _ _ hS3 (fun _ => ?_)
  clear hK K'
  refine wpAnyH_ready (rs := [7]) (by kernel_rfl) (by simp) (AllReadyH.cons (List.getElem?_toArray.trans rfl) (fun K' hK => ?_) AllReadyH.nil)
  refine wanted_goM rfl ?_
  go_simp
  refine htag.mono ?_
  rintro e w4 ⟨A4, c4, rfl, h41, h42, ho4, hb4⟩
  have hS4 : SinceM w0 w4 := SinceM.trans hS3 hb4
  have ho34 := own_below ho3 hb4
  refine hK.out _ _ hS4 (fun _ => ?_)
  clear hK K'
  refine wpAnyH_ready (rs := [8]) (by kernel_rfl) (by simp) (AllReadyH.cons (List.getElem?_toArray.trans rfl) (fun K' hK => ?_) AllReadyH.nil)
  refine step_app_sv rfl (.tmp 16) (.tmp 21) _ rfl w0.heap.size 5 i0 _ 1 Try.underlying24 hi0 hz0 hz1 hz2 rfl (.slice A3 p c3) p (T.map cell8) rfl ho34 _ A4 16 c4 (G.map cell8) rfl (Sv.of_own ho4) hgl (cell8_one _) (by unfold maxLen; omega) (by omega) hS4.size ?_
  intro v5 w5 ho5 hg5
  have hS5 : SinceM w0 w5 := Below.grown hS4 hg5 hS4.size (fun q hq => (ho34.lt q hq).1)
  rw [← List.map_append] at ho5
  refine hK.out _ _ hS5 (fun _ => ?_)
  clear hK K'
  refine wpAnyH_take (i := 9) (v := v5) (List.getElem?_toArray.trans rfl) (by kernel_rfl) (by kernel_rfl) (by kernel_rfl) (fun _ _ _ h => h) (.inl ⟨rfl, fun w' hS => rfl⟩) hS5 ?_
  refine act_normM (by simp only [Act.put, List.setIfInBounds_toArray, List.set_cons_zero, List.set_cons_succ]; rfl) ?_
  refine wpAnyH_done (by kernel_rfl) ?_ _
  have HO5 := Lib.hid (own_base ho5 hF2.size)
  have HB5 := Lib.hid (hF2.trans (hS5.mono hF2.size))
  obtain ⟨A5, c5, rfl, h51, h52⟩ := own_form ho5
  have H51 := Lib.hid h51
  have H52 := Lib.hid h52
  clear ht2 hk2 hF2 hD0 htl hgl hS1 ho1 ht1 ho3 hg3 hS3 htag hS4 ho34 hS5 ho5 hg5 ho4 hb4 h31 h32 h41 h42 h51 h52
  go_wp2
  go_ret
  exact ⟨A5, c5, rfl, H51.out, H52.out, HO5.out, HB5.out⟩
end Go.Proofs.Ytajfpbkeabdcaaa
